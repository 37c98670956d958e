/-
  RowY, FilR in one text.
-/
import Derived.Test.YtjaffmmocbplaabGreatDoorJ06
import Derived.Test.YtjaffmmocbplaabGreatDoorJFilM
import Derived.Deep.RegionHeld3
import Derived.Deep.DrawnRows
namespace Go.Proofs.YtjaffmmocbplaabGreatDoor
open Go.RowKit
set_option linter.unusedVariables false

theorem meterB_len {step start : Int} {l : List Txt.Val} (h : ¬ (1 ≤ (l.length : Int) ∧ (l.length : Int) ≤ 200)) : meterB step start l = false := by
  simp [meterB, inB_false h]
theorem meterB_start {step start : Int} {l : List Txt.Val} (h : ¬ (0 ≤ start ∧ start ≤ 52596000 - step * l.length)) : meterB step start l = false := by
  simp [meterB, inB_false h]
theorem meterB_mod {step start : Int} {l : List Txt.Val} (h : ¬ start % step = 0) : meterB step start l = false := by
  simp [meterB, h]

set_option maxHeartbeats 2000000 in
theorem GoodMeter_any (step start : Int) (v : Value) (l : List Txt.Val) (w : World) (h : VRow w v l) :
    Calls Tryz.prog 39 #[.agg #[.int .i64 step, .int .i64 start, v]] w fun e w' => e = .returned (.bool (meterB step start l)) ∧ Below w.heap.size w w' := by
  obtain ⟨a, cap, rfl⟩ := h.form
  by_cases hst : step = 15 ∨ step = 30 ∨ step = 60
  · have hstB : (decide (step = 15) || decide (step = 30) || decide (step = 60)) = true := by simpa [or_assoc] using hst
    by_cases n1 : (l.length : Int) < 1
    · have HB : Hid (meterB step start l = false) := meterB_len (by omega)
      rcases hst with rfl | rfl | rfl
      all_goals
        go_enter Tryz.func39, Tryz.ntmps39
        go_wp2_with fail
        go_ret
        exact ⟨ret_bool HB.out.symm, below_more (Below.refl _ _) _⟩
    by_cases n2 : 200 < (l.length : Int)
    · have HB : Hid (meterB step start l = false) := meterB_len (by omega)
      rcases hst with rfl | rfl | rfl
      all_goals
        go_enter Tryz.func39, Tryz.ntmps39
        go_wp2_with fail
        go_ret
        exact ⟨ret_bool HB.out.symm, below_more (Below.refl _ _) _⟩
    by_cases s1 : start < 0
    · have HB : Hid (meterB step start l = false) := meterB_start (by omega)
      rcases hst with rfl | rfl | rfl
      all_goals
        go_enter Tryz.func39, Tryz.ntmps39
        go_wp2_with fail
        go_ret
        exact ⟨ret_bool HB.out.symm, below_more (Below.refl _ _) _⟩
    by_cases s2 : 52595999 < start
    · have HB : Hid (meterB step start l = false) := meterB_start (by rcases hst with rfl | rfl | rfl <;> omega)
      rcases hst with rfl | rfl | rfl
      all_goals
        go_enter Tryz.func39, Tryz.ntmps39
        go_wp2_with fail
        go_ret
        exact ⟨ret_bool HB.out.symm, below_more (Below.refl _ _) _⟩
    by_cases hmod : start % step = 0
    case neg =>
      have hmodB : (start % step != 0) = true := by simpa using hmod
      have HB : Hid (meterB step start l = false) := meterB_mod hmod
      clear hmod
      rcases hst with rfl | rfl | rfl
      all_goals
        go_enter Tryz.func39, Tryz.ntmps39
        go_wp2_with fail
        go_ret
        exact ⟨ret_bool HB.out.symm, below_more (Below.refl _ _) _⟩
    case pos =>
      have hmodB : (start % step != 0) = false := by simpa using hmod
      by_cases s3 : 52596000 < start + step * (l.length : Int)
      · have HB : Hid (meterB step start l = false) := meterB_start (by omega)
        clear hmod
        rcases hst with rfl | rfl | rfl
        all_goals
          go_enter Tryz.func39, Tryz.ntmps39
          go_wp2_with fail
          go_ret
          exact ⟨ret_bool HB.out.symm, below_more (Below.refl _ _) _⟩
      · have HB : Hid (meterB step start l = l.all valB) := by
          show _ = _
          simp [meterB, inB_true (show (1 : Int) ≤ (l.length : Int) by omega) (show (l.length : Int) ≤ 200 by omega), inB_true (show (0 : Int) ≤ start by omega) (show start ≤ 52596000 - step * (l.length : Int) by omega), hmod, hstB]
        clear hmod hstB
        rcases hst with rfl | rfl | rfl
        all_goals
          go_enter Tryz.func39, Tryz.ntmps39
          go_wp2_with fail
          go_loopw [4] (fun i wr => ∃ k : Nat, i = .int .i64 k ∧ k ≤ l.length ∧ (l.take k).all valB = true ∧ Below w.heap.size w wr ∧ w.heap.size < wr.heap.size ∧ wr.cell? ⟨w.heap.size, 2, none⟩ = some (.slice a l.length cap)) (fun i _ => l.length - (intOf i).toNat)
          case atStart => exact ⟨0, rfl, by omega, by simp, below_more (Below.refl _ _) _, by simp, by simp [go_sem]⟩
          case round =>
            obtain ⟨k, rfl, hk, hall, hbw, hsz, m2⟩ := hrel
            by_cases hlt : k < l.length
            · have hlt' : (k : Int) < (l.length : Int) := by omega
              have hk0 : (0 : Int) ≤ (k : Int) := by omega
              obtain ⟨x, hx⟩ : ∃ x, l[k]? = some x := ⟨l[k], List.getElem?_eq_getElem hlt⟩
              obtain ⟨b, off, rfl, hcap, hblt, c0, c1, c2⟩ := (h.below hbw).at hx
              have hcap' : (l.length : Int) ≤ (cap : Int) := by omega
              cases hvx : valB x
              case true =>
                have HA : Hid ((l.take (k + 1)).all valB = true) := by show _ = _; rw [all_take_succ hx, hall, hvx]; rfl
                have vb := valB_bd hvx
                have i1 := inB_true vb.1.1 vb.1.2
                have i2 := inB_true vb.2.1 vb.2.2
                cases hm : x.m
                case true =>
                  have hio : x.i = 0 ∧ x.o = 0 := by simpa [valB, hm] using hvx
                  have b1 : (x.i != 0) = false := by simp [hio.1]
                  have b2 : (x.o != 0) = false := by simp [hio.2]
                  rw [hm] at c2
                  clear hx h hall hvx hm hio
                  go_wp2_with (go_at_call 73; refine (in_any _ _ _ _).mono ?_; rintro e w' ⟨rfl, rfl⟩)
                  go_roundw
                  case rel => exact ⟨k + 1, by go_num, by omega, HA.out, below_more hbw _, by simp; omega, by simp [go_sem, hsz, m2]⟩
                  case measure => simp [intOf]; omega
                case false =>
                  rw [hm] at c2
                  clear hx h hall hvx hm
                  go_wp2_with (go_at_call 73; refine (in_any _ _ _ _).mono ?_; rintro e w' ⟨rfl, rfl⟩)
                  go_roundw
                  case rel => exact ⟨k + 1, by go_num, by omega, HA.out, below_more hbw _, by simp; omega, by simp [go_sem, hsz, m2]⟩
                  case measure => simp [intOf]; omega
              case false =>
                have HA : Hid (l.all valB = false) := all_of_false hx hvx
                cases hm : x.m
                case true =>
                  have hio : ¬ x.i = 0 ∨ ¬ x.o = 0 := by simp [valB, hm] at hvx; omega
                  rw [hm] at c2
                  clear hx h hall hvx hm
                  by_cases hi : x.i = 0
                  · have b1 : (x.i != 0) = false := by simp [hi]
                    have b2 : (x.o != 0) = true := by simp; omega
                    clear hio hi
                    go_wp2_with (go_at_call 73; refine (in_any _ _ _ _).mono ?_; rintro e w' ⟨rfl, rfl⟩)
                    go_ret
                    exact ⟨ret_bool (by rw [HB.out, HA.out]), below_more hbw _⟩
                  · have b1 : (x.i != 0) = true := by simp; omega
                    clear hio hi
                    go_wp2_with (go_at_call 73; refine (in_any _ _ _ _).mono ?_; rintro e w' ⟨rfl, rfl⟩)
                    go_ret
                    exact ⟨ret_bool (by rw [HB.out, HA.out]), below_more hbw _⟩
                case false =>
                  have hio : (inB x.i 0 999999999 && inB x.o 0 999999999) = false := by simpa [valB, hm] using hvx
                  rw [hm] at c2
                  clear hx h hall hvx hm
                  cases i1 : inB x.i 0 999999999
                  case false =>
                    clear hio
                    go_wp2_with (go_at_call 73; refine (in_any _ _ _ _).mono ?_; rintro e w' ⟨rfl, rfl⟩)
                    go_ret
                    exact ⟨ret_bool (by rw [HB.out, HA.out]), below_more hbw _⟩
                  case true =>
                    have i2 : inB x.o 0 999999999 = false := by simpa [i1] using hio
                    clear hio
                    go_wp2_with (go_at_call 73; refine (in_any _ _ _ _).mono ?_; rintro e w' ⟨rfl, rfl⟩)
                    go_ret
                    exact ⟨ret_bool (by rw [HB.out, HA.out]), below_more hbw _⟩
            · have hlt' : ¬ (k : Int) < (l.length : Int) := by omega
              have HA : Hid (l.all valB = true) := by show _ = _; rw [List.take_of_length_le (by omega)] at hall; exact hall
              go_wp2_with fail
              go_ret
              exact ⟨ret_bool (by rw [HB.out, HA.out]), hbw⟩
  · have HB : Hid (meterB step start l = false) := by
      show _ = _
      have : (decide (step = 15) || decide (step = 30) || decide (step = 60)) = false := by simp; omega
      simp [meterB, this]
    have b1 : (step != 15) = true := by simp; omega
    have b2 : (step != 30) = true := by simp; omega
    have b3 : (step != 60) = true := by simp; omega
    clear hst
    go_enter Tryz.func39, Tryz.ntmps39
    go_wp2_with fail
    go_ret
    exact ⟨ret_bool HB.out.symm, below_more (Below.refl _ _) _⟩

set_option maxHeartbeats 1000000 in
theorem total_any (step start : Int) (v : Value) (l : List Txt.Val) (w : World) (h : VRow w v l) (hv : l.all valB = true) (hl : l.length ≤ 100000) :
    Calls Tryz.prog 40 #[.agg #[.int .i64 step, .int .i64 start, v]] w fun e w' => e = .returned (.int .i64 (sumL l)) ∧ Below w.heap.size w w' := by
  obtain ⟨a, cap, rfl⟩ := h.form
  have hA := h.below (below_more (Below.refl w.heap.size w) (.cells #[.int .i64 step, .int .i64 start, .slice a l.length cap] 56))
  go_enter Tryz.func40, Tryz.ntmps40
  go_wp2_with fail
  go_loopw [3, 4] (fun s i wr => ∃ k n : Nat, i = .int .i64 k ∧ k ≤ l.length ∧ s = .int .i64 (sumL (l.take k)) ∧ wr = (w.alloc (.cells #[.int .i64 step, .int .i64 start, .slice a l.length cap] 56)).drewN n) (fun _ i _ => l.length - (intOf i).toNat)
  case atStart => exact ⟨0, 0, rfl, by omega, rfl, rfl⟩
  case round =>
    obtain ⟨k, n, rfl, hk, rfl, rfl⟩ := hrel
    have sb := sumL_bd (l.take k)
    by_cases hlt : k < l.length
    · have hlt' : (k : Int) < (l.length : Int) := by omega
      have hk0 : (0 : Int) ≤ (k : Int) := by omega
      obtain ⟨x, hx⟩ : ∃ x, l[k]? = some x := ⟨l[k], List.getElem?_eq_getElem hlt⟩
      obtain ⟨b, off, rfl, hcap, hblt, c0, c1, c2⟩ := h.at hx
      have hcap' : (l.length : Int) ≤ (cap : Int) := by omega
      have vb := valB_bd (List.all_eq_true.mp hv x (List.mem_of_getElem? hx))
      have HS : Hid (sumL (l.take (k + 1)) = (sumL (l.take k) + x.i + x.o) % 10000) := by show _ = _; rw [List.take_add_one, hx]; exact sumL_snoc _ _
      have hne : ¬ b = w.heap.size := by omega
      clear hx h hv hA
      go_wp2_with fail
      go_quiet (fail)
      go_wp2_with fail
      go_roundw
      case rel => exact ⟨k + 1, _, by go_num, by omega, by rw [HS.out], rfl⟩
      case measure => simp [intOf]; omega
    · have hlt' : ¬ (k : Int) < (l.length : Int) := by omega
      go_wp2_with fail
      go_ret
      exact ⟨ret_int (by rw [List.take_of_length_le (by omega)]), below_drewN (below_more (Below.refl _ _) _) _⟩

end Go.Proofs.YtjaffmmocbplaabGreatDoor

namespace Go.Proofs.YtjaffmmocbplaabGreatDoor
open Go.RowKit
set_option linter.unusedVariables false
attribute [local go_sem ↓] Go.wp_at_zero Go.wp_at_succ

theorem floor_math {n d : Int} (hd : 0 < d) : (n < n.tdiv d * d → n.tdiv d - 1 = n / d) ∧ (¬ n < n.tdiv d * d → n.tdiv d = n / d) := by
  have h1 : n / d * d ≤ n := Int.ediv_mul_le n (by omega)
  have h2 : n < (n / d + 1) * d := Int.lt_ediv_add_one_mul_self n hd
  have e := Int.tdiv_eq_ediv (a := n) (b := d)
  by_cases c : 0 ≤ n ∨ d ∣ n
  · rw [if_pos c] at e
    have e' : n.tdiv d = n / d := by omega
    rw [e']
    exact ⟨fun h => by omega, fun _ => rfl⟩
  · rw [if_neg c, Int.sign_eq_one_of_pos hd] at e
    rw [e]
    exact ⟨fun _ => by omega, fun h => absurd h2 h⟩

theorem tdiv_bd {n d : Int} (hd : 0 < d) (h : -1000000000000 ≤ n ∧ n ≤ 1000000000000) : (-1000000000000 ≤ n.tdiv d ∧ n.tdiv d ≤ 1000000000000) ∧ (-1000000000000 ≤ n.tdiv d * d ∧ n.tdiv d * d ≤ 1000000000000) := by
  rcases Int.le_total 0 n with g | g
  · rw [Int.tdiv_eq_ediv_of_nonneg g]
    have h0 : 0 ≤ n / d := Int.ediv_nonneg g (by omega)
    have h1 := Int.ediv_le_self (a := n) d g
    have h2 := Int.ediv_mul_le n (b := d) (by omega)
    have h3 := Int.mul_nonneg h0 (show 0 ≤ d by omega)
    omega
  · obtain ⟨m, rfl⟩ : ∃ m, n = -m := ⟨-n, by omega⟩
    rw [Int.neg_tdiv, Int.tdiv_eq_ediv_of_nonneg (by omega), Int.neg_mul]
    have h0 : 0 ≤ m / d := Int.ediv_nonneg (by omega) (by omega)
    have h1 := Int.ediv_le_self (a := m) d (by omega)
    have h2 := Int.ediv_mul_le m (b := d) (by omega)
    have h3 := Int.mul_nonneg h0 (show 0 ≤ d by omega)
    omega

set_option maxHeartbeats 400000 in
theorem floor_any (n d : Int) (w : World) (h1 : -1000000000000 ≤ n) (h2 : n ≤ 1000000000000) (hd : 0 < d) (hd2 : d ≤ 1000) :
    Calls Tryz.prog 105 #[.int .i64 n, .int .i64 d] w fun e w' => e = .returned (.int .i64 (n / d)) ∧ w' = w := by
  have hd0 : ¬ d = 0 := by omega
  obtain ⟨⟨b1, b2⟩, b3, b4⟩ := tdiv_bd hd ⟨h1, h2⟩
  obtain ⟨f1, f2⟩ := floor_math (n := n) hd
  obtain ⟨T, hT⟩ : ∃ T, T = n.tdiv d := ⟨_, rfl⟩
  have ht : n.tdiv d = T := hT.symm
  rw [← hT] at b1 b2 b3 b4 f1 f2
  clear hT
  by_cases c : n < T * d
  · have HF : Hid (T - 1 = n / d) := f1 c
    clear f1 f2
    go_enter Tryz.func105, Tryz.ntmps105
    go_wp2_with fail
    go_ret
    exact ⟨ret_int HF.out, rfl⟩
  · have HF : Hid (T = n / d) := f2 c
    clear f1 f2
    go_enter Tryz.func105, Tryz.ntmps105
    go_wp2_with fail
    go_ret
    exact ⟨ret_int HF.out, rfl⟩

set_option maxHeartbeats 1000000 in
theorem rows_any (v : Value) (l : List Txt.Val) (gap : Int) (w : World) (h : VRow w v l) (hl : l.length ≤ 100000) :
    Calls Tryz.prog 94 #[v, .int .i64 gap] w fun e w' => e = .returned (.int .i64 (Fil.rows l gap 0)) ∧ w' = w := by
  obtain ⟨a, cap, rfl⟩ := h.form
  go_enter Tryz.func94, Tryz.ntmps94
  go_wp2_with fail
  go_loopw [5] (fun p wr => ∃ k : Nat, p = .int .i64 k ∧ k ≤ l.length ∧ Fil.rows l gap k = Fil.rows l gap 0 ∧ wr = w) (fun p _ => l.length - (intOf p).toNat)
  case atStart => exact ⟨0, rfl, by omega, rfl, rfl⟩
  case round =>
    obtain ⟨k, rfl, hk, hr, rfl⟩ := hrel
    by_cases hlt : k < l.length
    · have hlt' : (k : Int) < (l.length : Int) := by omega
      have hk0 : (0 : Int) ≤ (k : Int) := by omega
      obtain ⟨x, hx⟩ : ∃ x, l[k]? = some x := ⟨l[k], List.getElem?_eq_getElem hlt⟩
      obtain ⟨b, off, rfl, hcap, hblt, c0, c1, c2⟩ := h.at hx
      have hcap' : (l.length : Int) ≤ (cap : Int) := by omega
      cases hm : x.m
      case false =>
        have hma : Fil.mAt l k = false := by rw [Fil.mAt_some hx, hm]
        have HR : Hid (Fil.rows l gap (k + 1) = Fil.rows l gap 0) := by show _ = _; rw [← hr, Fil.rows_not hlt hma]
        rw [hm] at c2
        clear hx h hr hma
        go_wp2_with fail
        go_roundw
        case rel => exact ⟨k + 1, by go_num, by omega, HR.out, by trivial⟩
        case measure => simp [intOf]; omega
      case true =>
        have hma : Fil.mAt l k = true := by rw [Fil.mAt_some hx, hm]
        have hgt := Fil.re_gt hma
        have hle := Fil.re_le (l := l) (i := k) (by omega)
        rw [hm] at c2
        have HBAD : Hid (k = 0 ∨ Fil.re l k = l.length ∨ gap < (Fil.re l k : Int) - k → Fil.rows l gap 0 = k) := fun g => by rw [← hr, Fil.rows_bad hma g]
        have HGOOD : Hid (¬ (k = 0 ∨ Fil.re l k = l.length ∨ gap < (Fil.re l k : Int) - k) → Fil.rows l gap (Fil.re l k) = Fil.rows l gap 0) := fun g => by rw [← hr, Fil.rows_good hma g]
        clear hr hx
        go_wp2_with fail
        go_loopw [6] (fun p wi => ∃ j : Nat, p = .int .i64 j ∧ k ≤ j ∧ j ≤ l.length ∧ Fil.re l j = Fil.re l k ∧ wi = wr) (fun p _ => l.length - (intOf p).toNat)
        case atStart => exact ⟨k, rfl, by omega, by omega, rfl, rfl⟩
        case round =>
          obtain ⟨j, rfl, hj1, hj2, hre, rfl⟩ := hrel
          have hj0 : (0 : Int) ≤ (j : Int) := by omega
          by_cases hjm : Fil.mAt l j = true
          · have hjl := Fil.mAt_lt hjm
            have hjl' : (j : Int) < (l.length : Int) := by omega
            obtain ⟨y, hy⟩ : ∃ x, l[j]? = some x := ⟨l[j], List.getElem?_eq_getElem hjl⟩
            obtain ⟨b', off', e', _, _, d0, d1, d2⟩ := h.at hy
            cases e'
            have HJ : Hid (Fil.re l (j + 1) = Fil.re l k) := by show _ = _; rw [← hre]; exact (Fil.re_miss hjm).symm
            rw [← Fil.mAt_some hy, hjm] at d2
            clear hy h hjm hre hma c2
            go_wp2_with fail
            go_roundw
            case rel => exact ⟨j + 1, by go_num, by omega, by omega, HJ.out, by trivial⟩
            case measure => simp [intOf]; omega
          · have hjm' : Fil.mAt l j = false := by simpa using hjm
            have hj : Fil.re l k = j := by rw [← hre, Fil.re_not hjm']
            rw [hj] at hgt hle HBAD HGOOD
            by_cases hbad : k = 0 ∨ j = l.length ∨ gap < (j : Int) - k
            · have HB : Hid (Fil.rows l gap 0 = k) := HBAD.out hbad
              by_cases hjl : j < l.length
              · have hjl' : (j : Int) < (l.length : Int) := by omega
                obtain ⟨y, hy⟩ : ∃ x, l[j]? = some x := ⟨l[j], List.getElem?_eq_getElem hjl⟩
                obtain ⟨b', off', e', _, _, d0, d1, d2⟩ := h.at hy
                cases e'
                rw [← Fil.mAt_some hy, hjm'] at d2
                by_cases hk1 : k = 0
                · have q1 : ((k : Int) == 0) = true := by simp; omega
                  clear hy h hjm hjm' hre hma c2 hj hbad HBAD HGOOD hk1
                  go_wp2_with fail
                  go_ret
                  exact ⟨ret_int HB.out.symm, rfl⟩
                · have q1 : ((k : Int) == 0) = false := by simp; omega
                  have q2 : ((j : Int) == (l.length : Int)) = false := by simp; omega
                  have q3 : gap < (j : Int) - k := by omega
                  clear hy h hjm hjm' hre hma c2 hj hbad HBAD HGOOD hk1
                  go_wp2_with fail
                  go_ret
                  exact ⟨ret_int HB.out.symm, rfl⟩
              · have hjl' : ¬ (j : Int) < (l.length : Int) := by omega
                have q2 : ((j : Int) == (l.length : Int)) = true := by simp; omega
                by_cases hk1 : k = 0
                · have q1 : ((k : Int) == 0) = true := by simp; omega
                  clear h hjm hjm' hre hma c2 hj hbad HBAD HGOOD hk1
                  go_wp2_with fail
                  go_ret
                  exact ⟨ret_int HB.out.symm, rfl⟩
                · have q1 : ((k : Int) == 0) = false := by simp; omega
                  clear h hjm hjm' hre hma c2 hj hbad HBAD HGOOD hk1
                  go_wp2_with fail
                  go_ret
                  exact ⟨ret_int HB.out.symm, rfl⟩
            · have HG : Hid (Fil.rows l gap j = Fil.rows l gap 0) := HGOOD.out hbad
              have hjl : j < l.length := by omega
              have hjl' : (j : Int) < (l.length : Int) := by omega
              obtain ⟨y, hy⟩ : ∃ x, l[j]? = some x := ⟨l[j], List.getElem?_eq_getElem hjl⟩
              obtain ⟨b', off', e', _, _, d0, d1, d2⟩ := h.at hy
              cases e'
              rw [← Fil.mAt_some hy, hjm'] at d2
              have q1 : ((k : Int) == 0) = false := by simp; omega
              have q2 : ((j : Int) == (l.length : Int)) = false := by simp; omega
              have q3 : ¬ gap < (j : Int) - k := by omega
              clear hy h hjm hjm' hre hma c2 hj hbad HBAD HGOOD
              go_wp2_with fail
              go_roundw
              case rel => exact ⟨j, rfl, by omega, HG.out, by trivial⟩
              case measure => simp [intOf]; omega
    · have hlt' : ¬ (k : Int) < (l.length : Int) := by omega
      have HR : Hid (Fil.rows l gap 0 = -1) := by show _ = _; rw [← hr, Fil.rows_end hlt]
      clear hr
      go_wp2_with fail
      go_ret
      exact ⟨ret_int HR.out.symm, rfl⟩

end Go.Proofs.YtjaffmmocbplaabGreatDoor
