/-
  FilV, RowX in one text.
-/
import Derived.Test.YtjaffmmocbplaabDoorJ11
import Derived.Deep.RegionHeld3
import Derived.Deep.DrawnRows
import Derived.Test.YtjaffmmocbplaabDoorJ06
namespace Go.Proofs.YtjaffmmocbplaabDoor
open Go.RowKit
set_option linter.unusedVariables false
attribute [local go_sem ↓] Go.wp_at_zero Go.wp_at_succ

set_option maxRecDepth 1000000 in
set_option maxHeartbeats 1000000 in
theorem valueBetween_any (a b : Txt.Val) (i n : Int) (w : World) (ha : valB a = true) (hb : valB b = true) (i1 : 0 ≤ i) (i2 : i ≤ n) (n1 : 0 < n) (n2 : n ≤ 1000) :
    Calls Tryd.prog 80 #[.agg #[.int .i64 a.i, .int .i64 a.o, .bool a.m], .agg #[.int .i64 b.i, .int .i64 b.o, .bool b.m], .int .i64 i, .int .i64 n] w fun e w' =>
      e = .returned (.agg #[.int .i64 (Fil.btw a.i b.i i n), .int .i64 (Fil.btw a.o b.o i n), .bool false]) ∧ Below w.heap.size w w' := by
  obtain ⟨⟨p1, p2⟩, p3, p4⟩ := valB_bd ha
  obtain ⟨⟨q1, q2⟩, q3, q4⟩ := valB_bd hb
  clear ha hb
  go_enter Tryd.func80, Tryd.ntmps80
  go_wp2_with fail
  go_region_held3 (fun w' => w'.cell? ⟨w.heap.size, 0, none⟩ = some (.int .i64 a.i) ∧ w'.cell? ⟨w.heap.size, 1, none⟩ = some (.int .i64 a.o) ∧ w'.cell? ⟨w.heap.size + 1, 0, none⟩ = some (.int .i64 b.i) ∧ w'.cell? ⟨w.heap.size + 1, 1, none⟩ = some (.int .i64 b.o))
    (simp [go_sem])
    ((go_at_call 88; refine (numberBetween_any _ _ _ _ _ (by assumption) (by assumption) (by assumption) (by assumption) (by assumption) (by assumption) (by assumption) (by assumption)).mono ?_; rintro e w1 ⟨rfl, rfl⟩))
  all_goals
    go_wp2_with fail
    refine bodyPost_ret (v := .agg #[.int .i64 (Fil.btw a.i b.i i n), .int .i64 (Fil.btw a.o b.o i n), .bool false]) (by simp [results, Tryd.results80, go_sem]) rfl ⟨rfl, ?_⟩
    repeat (first | exact Below.refl _ _ | refine Below.setCell ?_ (by simp) _ | refine Below.drew ?_ | refine below_drewN ?_ _ | refine below_more ?_ _)

end Go.Proofs.YtjaffmmocbplaabDoor

namespace Go.Proofs.YtjaffmmocbplaabDoor
open Go.RowKit
set_option linter.unusedVariables false

set_option maxHeartbeats 1000000 in
theorem validMeter_any (step start : Int) (v : Value) (l : List Txt.Val) (w : World) (h : VRow w v l) :
    Calls Tryd.prog 26 #[.agg #[.int .i64 step, .int .i64 start, v]] w fun e w' => e = .returned (.bool (meterB step start l)) ∧ Below w.heap.size w w' := by
  obtain ⟨a, cap, rfl⟩ := h.form
  by_cases hst : step = 15 ∨ step = 30 ∨ step = 60
  · cases hlen : inB (l.length : Int) 1 200
    case false =>
      have HB : Hid (meterB step start l = false) := by show _ = _; simp [meterB, hlen]
      rcases hst with rfl | rfl | rfl
      all_goals
        go_enter Tryd.func26, Tryd.ntmps26
        go_wp2_with (go_at_call 45; refine (within_any _ _ _ _).mono ?_; rintro e w' ⟨rfl, rfl⟩)
        go_ret
        exact ⟨ret_bool HB.out.symm, below_more (Below.refl _ _) _⟩
    case true =>
      obtain ⟨n1, n2⟩ := inB_iff.mp hlen
      cases hsa : inB start 0 (52596000 - step * (l.length : Int))
      case false =>
        have HB : Hid (meterB step start l = false) := by show _ = _; simp [meterB, hsa]
        rcases hst with rfl | rfl | rfl
        all_goals
          go_enter Tryd.func26, Tryd.ntmps26
          go_wp2_with (go_at_call 45; refine (within_any _ _ _ _).mono ?_; rintro e w' ⟨rfl, rfl⟩)
          go_ret
          exact ⟨ret_bool HB.out.symm, below_more (Below.refl _ _) _⟩
      case true =>
        obtain ⟨s1, s2⟩ := inB_iff.mp hsa
        by_cases hmod : start % step = 0
        case neg =>
          have hmodB : (start % step == 0) = false := by simpa using hmod
          have HB : Hid (meterB step start l = false) := by show _ = _; simp [meterB, hmod]
          clear hmod
          rcases hst with rfl | rfl | rfl
          all_goals
            go_enter Tryd.func26, Tryd.ntmps26
            go_wp2_with (go_at_call 45; refine (within_any _ _ _ _).mono ?_; rintro e w' ⟨rfl, rfl⟩)
            go_ret
            exact ⟨ret_bool HB.out.symm, below_more (Below.refl _ _) _⟩
        case pos =>
          have hmodB : (start % step != 0) = false := by simpa using hmod
          have HB : Hid (meterB step start l = l.all valB) := by
            show _ = _
            have : (decide (step = 15) || decide (step = 30) || decide (step = 60)) = true := by simpa [or_assoc] using hst
            simp [meterB, hlen, hsa, hmod, this]
          clear hmod
          rcases hst with rfl | rfl | rfl
          all_goals
            go_enter Tryd.func26, Tryd.ntmps26
            go_wp2_with (go_at_call 45; refine (within_any _ _ _ _).mono ?_; rintro e w' ⟨rfl, rfl⟩)
            go_loopw [4] (fun i wr => ∃ k : Nat, i = .int .i64 k ∧ k ≤ l.length ∧ (l.take k).all valB = true ∧ Below w.heap.size w wr ∧ w.heap.size < wr.heap.size ∧ wr.cell? ⟨w.heap.size, 2, none⟩ = some (.slice a l.length cap)) (fun i _ => l.length - (intOf i).toNat)
            case atStart => exact ⟨0, rfl, by omega, by simp, below_more (Below.refl _ _) _, by simp, by simp [go_sem]⟩
            case round =>
              obtain ⟨k, rfl, hk, hall, hbw, hsz, m2⟩ := hrel
              by_cases hlt : k < l.length
              · have hlt' : (k : Int) < (l.length : Int) := by omega
                have hk0 : (0 : Int) ≤ (k : Int) := by omega
                obtain ⟨x, hx⟩ : ∃ x, l[k]? = some x := ⟨l[k], List.getElem?_eq_getElem hlt⟩
                obtain ⟨b, off, rfl, hcap, hblt, c0, c1, c2⟩ := (h.below hbw).at hx
                have hcap' : (l.length : Int) ≤ (cap : Int) := by omega
                cases hvx : valB x
                case true =>
                  have HA : Hid ((l.take (k + 1)).all valB = true) := by show _ = _; rw [all_take_succ hx, hall, hvx]; rfl
                  clear hx h hall
                  go_wp2_with (go_at_call 52; refine (validValue_any x _).mono ?_; rintro e w1 ⟨rfl, hb1⟩; obtain ⟨hc1, hf1⟩ := bcell hb1)
                  go_roundw
                  case rel => exact ⟨k + 1, by go_num, by omega, HA.out, below_then hbw hb1, by have := hb1.size; omega, by rw [hc1 _ _ hsz]; exact m2⟩
                  case measure => simp [intOf]; omega
                case false =>
                  have HA : Hid (l.all valB = false) := all_of_false hx hvx
                  clear hx h hall
                  go_wp2_with (go_at_call 52; refine (validValue_any x _).mono ?_; rintro e w1 ⟨rfl, hb1⟩)
                  go_ret
                  exact ⟨ret_bool (by rw [HB.out, HA.out]), below_then hbw hb1⟩
              · have hlt' : ¬ (k : Int) < (l.length : Int) := by omega
                have HA : Hid (l.all valB = true) := by show _ = _; rw [List.take_of_length_le (by omega)] at hall; exact hall
                go_wp2_with fail
                go_ret
                exact ⟨ret_bool (by rw [HB.out, HA.out]), hbw⟩
  · have HB : Hid (meterB step start l = false) := by
      show _ = _
      have : (decide (step = 15) || decide (step = 30) || decide (step = 60)) = false := by simp; omega
      simp [meterB, this]
    have b1 : (step != 15) = true := by simp; omega
    have b2 : (step != 30) = true := by simp; omega
    have b3 : (step != 60) = true := by simp; omega
    clear hst
    go_enter Tryd.func26, Tryd.ntmps26
    go_wp2_with fail
    go_ret
    exact ⟨ret_bool HB.out.symm, below_more (Below.refl _ _) _⟩

end Go.Proofs.YtjaffmmocbplaabDoor
