/-
  Is a meter file valid: the document's test; the document's sum.
-/
import Derived.Test.YtjaffmmocbplaaaDoorRowW
namespace Go.Proofs.YtjaffmmocbplaaaDoor
open Go.RowKit
set_option linter.unusedVariables false

theorem meterB_len {step start : Int} {l : List Txt.Val} (h : ¬ (1 ≤ (l.length : Int) ∧ (l.length : Int) ≤ 200)) : meterB step start l = false := by
  simp [meterB, inB_false h]
theorem meterB_start {step start : Int} {l : List Txt.Val} (h : ¬ (0 ≤ start ∧ start ≤ 52596000 - step * l.length)) : meterB step start l = false := by
  simp [meterB, inB_false h]
theorem meterB_mod {step start : Int} {l : List Txt.Val} (h : ¬ start % step = 0) : meterB step start l = false := by
  simp [meterB, h]

set_option maxHeartbeats 2000000 in
theorem GoodMeter_any (step start : Int) (v : Value) (l : List Txt.Val) (w : World) (h : VRow w v l) :
    Calls Tryd.prog 13 #[.agg #[.int .i64 step, .int .i64 start, v]] w fun e w' => e = .returned (.bool (meterB step start l)) ∧ Below w.heap.size w w' := by
  obtain ⟨a, cap, rfl⟩ := h.form
  by_cases hst : step = 15 ∨ step = 30 ∨ step = 60
  · have hstB : (decide (step = 15) || decide (step = 30) || decide (step = 60)) = true := by simpa [or_assoc] using hst
    by_cases n1 : (l.length : Int) < 1
    · have HB : Hid (meterB step start l = false) := meterB_len (by omega)
      rcases hst with rfl | rfl | rfl
      all_goals
        go_enter Tryd.func13, Tryd.ntmps13
        go_wp2_with fail
        go_ret
        exact ⟨ret_bool HB.out.symm, below_more (Below.refl _ _) _⟩
    by_cases n2 : 200 < (l.length : Int)
    · have HB : Hid (meterB step start l = false) := meterB_len (by omega)
      rcases hst with rfl | rfl | rfl
      all_goals
        go_enter Tryd.func13, Tryd.ntmps13
        go_wp2_with fail
        go_ret
        exact ⟨ret_bool HB.out.symm, below_more (Below.refl _ _) _⟩
    by_cases s1 : start < 0
    · have HB : Hid (meterB step start l = false) := meterB_start (by omega)
      rcases hst with rfl | rfl | rfl
      all_goals
        go_enter Tryd.func13, Tryd.ntmps13
        go_wp2_with fail
        go_ret
        exact ⟨ret_bool HB.out.symm, below_more (Below.refl _ _) _⟩
    by_cases s2 : 52595999 < start
    · have HB : Hid (meterB step start l = false) := meterB_start (by rcases hst with rfl | rfl | rfl <;> omega)
      rcases hst with rfl | rfl | rfl
      all_goals
        go_enter Tryd.func13, Tryd.ntmps13
        go_wp2_with fail
        go_ret
        exact ⟨ret_bool HB.out.symm, below_more (Below.refl _ _) _⟩
    by_cases hmod : start % step = 0
    case neg =>
      have hmodB : (start % step != 0) = true := by simpa using hmod
      have HB : Hid (meterB step start l = false) := meterB_mod hmod
      clear hmod
      rcases hst with rfl | rfl | rfl
      all_goals
        go_enter Tryd.func13, Tryd.ntmps13
        go_wp2_with fail
        go_ret
        exact ⟨ret_bool HB.out.symm, below_more (Below.refl _ _) _⟩
    case pos =>
      have hmodB : (start % step != 0) = false := by simpa using hmod
      by_cases s3 : 52596000 < start + step * (l.length : Int)
      · have HB : Hid (meterB step start l = false) := meterB_start (by omega)
        clear hmod
        rcases hst with rfl | rfl | rfl
        all_goals
          go_enter Tryd.func13, Tryd.ntmps13
          go_wp2_with fail
          go_ret
          exact ⟨ret_bool HB.out.symm, below_more (Below.refl _ _) _⟩
      · have HB : Hid (meterB step start l = l.all valB) := by
          show _ = _
          simp [meterB, inB_true (show (1 : Int) ≤ (l.length : Int) by omega) (show (l.length : Int) ≤ 200 by omega), inB_true (show (0 : Int) ≤ start by omega) (show start ≤ 52596000 - step * (l.length : Int) by omega), hmod, hstB]
        clear hmod hstB
        rcases hst with rfl | rfl | rfl
        all_goals
          go_enter Tryd.func13, Tryd.ntmps13
          go_wp2_with fail
          go_loopw [4] (fun i wr => ∃ k : Nat, i = .int .i64 k ∧ k ≤ l.length ∧ (l.take k).all valB = true ∧ Below w.heap.size w wr ∧ w.heap.size < wr.heap.size ∧ wr.cell? ⟨w.heap.size, 2, none⟩ = some (.slice a l.length cap)) (fun i _ => l.length - (intOf i).toNat)
          case atStart => exact ⟨0, rfl, by omega, by simp, below_more (Below.refl _ _) _, by simp, by simp [go_sem]⟩
          case round =>
            obtain ⟨k, rfl, hk, hall, hbw, hsz, m2⟩ := hrel
            by_cases hlt : k < l.length
            · have hlt' : (k : Int) < (l.length : Int) := by omega
              have hk0 : (0 : Int) ≤ (k : Int) := by omega
              obtain ⟨x, hx⟩ : ∃ x, l[k]? = some x := ⟨l[k], List.getElem?_eq_getElem hlt⟩
              obtain ⟨b, off, rfl, hcap, hblt, c0, c1, c2⟩ := (h.below hbw).at hx
              have hcap' : (l.length : Int) ≤ (cap : Int) := by omega
              cases hvx : valB x
              case true =>
                have HA : Hid ((l.take (k + 1)).all valB = true) := by show _ = _; rw [all_take_succ hx, hall, hvx]; rfl
                have vb := valB_bd hvx
                have i1 := inB_true vb.1.1 vb.1.2
                have i2 := inB_true vb.2.1 vb.2.2
                cases hm : x.m
                case true =>
                  have hio : x.i = 0 ∧ x.o = 0 := by simpa [valB, hm] using hvx
                  have b1 : (x.i != 0) = false := by simp [hio.1]
                  have b2 : (x.o != 0) = false := by simp [hio.2]
                  rw [hm] at c2
                  clear hx h hall hvx hm hio
                  go_wp2_with (go_at_call 42; refine (in_any _ _ _ _).mono ?_; rintro e w' ⟨rfl, rfl⟩)
                  go_roundw
                  case rel => exact ⟨k + 1, by go_num, by omega, HA.out, below_more hbw _, by simp; omega, by simp [go_sem, hsz, m2]⟩
                  case measure => simp [intOf]; omega
                case false =>
                  rw [hm] at c2
                  clear hx h hall hvx hm
                  go_wp2_with (go_at_call 42; refine (in_any _ _ _ _).mono ?_; rintro e w' ⟨rfl, rfl⟩)
                  go_roundw
                  case rel => exact ⟨k + 1, by go_num, by omega, HA.out, below_more hbw _, by simp; omega, by simp [go_sem, hsz, m2]⟩
                  case measure => simp [intOf]; omega
              case false =>
                have HA : Hid (l.all valB = false) := all_of_false hx hvx
                cases hm : x.m
                case true =>
                  have hio : ¬ x.i = 0 ∨ ¬ x.o = 0 := by simp [valB, hm] at hvx; omega
                  rw [hm] at c2
                  clear hx h hall hvx hm
                  by_cases hi : x.i = 0
                  · have b1 : (x.i != 0) = false := by simp [hi]
                    have b2 : (x.o != 0) = true := by simp; omega
                    clear hio hi
                    go_wp2_with (go_at_call 42; refine (in_any _ _ _ _).mono ?_; rintro e w' ⟨rfl, rfl⟩)
                    go_ret
                    exact ⟨ret_bool (by rw [HB.out, HA.out]), below_more hbw _⟩
                  · have b1 : (x.i != 0) = true := by simp; omega
                    clear hio hi
                    go_wp2_with (go_at_call 42; refine (in_any _ _ _ _).mono ?_; rintro e w' ⟨rfl, rfl⟩)
                    go_ret
                    exact ⟨ret_bool (by rw [HB.out, HA.out]), below_more hbw _⟩
                case false =>
                  have hio : (inB x.i 0 999999999 && inB x.o 0 999999999) = false := by simpa [valB, hm] using hvx
                  rw [hm] at c2
                  clear hx h hall hvx hm
                  cases i1 : inB x.i 0 999999999
                  case false =>
                    clear hio
                    go_wp2_with (go_at_call 42; refine (in_any _ _ _ _).mono ?_; rintro e w' ⟨rfl, rfl⟩)
                    go_ret
                    exact ⟨ret_bool (by rw [HB.out, HA.out]), below_more hbw _⟩
                  case true =>
                    have i2 : inB x.o 0 999999999 = false := by simpa [i1] using hio
                    clear hio
                    go_wp2_with (go_at_call 42; refine (in_any _ _ _ _).mono ?_; rintro e w' ⟨rfl, rfl⟩)
                    go_ret
                    exact ⟨ret_bool (by rw [HB.out, HA.out]), below_more hbw _⟩
            · have hlt' : ¬ (k : Int) < (l.length : Int) := by omega
              have HA : Hid (l.all valB = true) := by show _ = _; rw [List.take_of_length_le (by omega)] at hall; exact hall
              go_wp2_with fail
              go_ret
              exact ⟨ret_bool (by rw [HB.out, HA.out]), hbw⟩
  · have HB : Hid (meterB step start l = false) := by
      show _ = _
      have : (decide (step = 15) || decide (step = 30) || decide (step = 60)) = false := by simp; omega
      simp [meterB, this]
    have b1 : (step != 15) = true := by simp; omega
    have b2 : (step != 30) = true := by simp; omega
    have b3 : (step != 60) = true := by simp; omega
    clear hst
    go_enter Tryd.func13, Tryd.ntmps13
    go_wp2_with fail
    go_ret
    exact ⟨ret_bool HB.out.symm, below_more (Below.refl _ _) _⟩

set_option maxHeartbeats 1000000 in
theorem total_any (step start : Int) (v : Value) (l : List Txt.Val) (w : World) (h : VRow w v l) (hv : l.all valB = true) (hl : l.length ≤ 100000) :
    Calls Tryd.prog 39 #[.agg #[.int .i64 step, .int .i64 start, v]] w fun e w' => e = .returned (.int .i64 (sumL l)) ∧ Below w.heap.size w w' := by
  obtain ⟨a, cap, rfl⟩ := h.form
  have hA := h.below (below_more (Below.refl w.heap.size w) (.cells #[.int .i64 step, .int .i64 start, .slice a l.length cap] 44))
  go_enter Tryd.func39, Tryd.ntmps39
  go_wp2_with fail
  go_loopw [3, 4] (fun s i wr => ∃ k n : Nat, i = .int .i64 k ∧ k ≤ l.length ∧ s = .int .i64 (sumL (l.take k)) ∧ wr = (w.alloc (.cells #[.int .i64 step, .int .i64 start, .slice a l.length cap] 44)).drewN n) (fun _ i _ => l.length - (intOf i).toNat)
  case atStart => exact ⟨0, 0, rfl, by omega, rfl, rfl⟩
  case round =>
    obtain ⟨k, n, rfl, hk, rfl, rfl⟩ := hrel
    have sb := sumL_bd (l.take k)
    by_cases hlt : k < l.length
    · have hlt' : (k : Int) < (l.length : Int) := by omega
      have hk0 : (0 : Int) ≤ (k : Int) := by omega
      obtain ⟨x, hx⟩ : ∃ x, l[k]? = some x := ⟨l[k], List.getElem?_eq_getElem hlt⟩
      obtain ⟨b, off, rfl, hcap, hblt, c0, c1, c2⟩ := h.at hx
      have hcap' : (l.length : Int) ≤ (cap : Int) := by omega
      have vb := valB_bd (List.all_eq_true.mp hv x (List.mem_of_getElem? hx))
      have HS : Hid (sumL (l.take (k + 1)) = (sumL (l.take k) + x.i + x.o) % 10000) := by show _ = _; rw [List.take_add_one, hx]; exact sumL_snoc _ _
      have hne : ¬ b = w.heap.size := by omega
      clear hx h hv hA
      go_wp2_with fail
      go_quiet (fail)
      go_wp2_with fail
      go_roundw
      case rel => exact ⟨k + 1, _, by go_num, by omega, by rw [HS.out], rfl⟩
      case measure => simp [intOf]; omega
    · have hlt' : ¬ (k : Int) < (l.length : Int) := by omega
      go_wp2_with fail
      go_ret
      exact ⟨ret_int (by rw [List.take_of_length_le (by omega)]), below_drewN (below_more (Below.refl _ _) _) _⟩

end Go.Proofs.YtjaffmmocbplaaaDoor
