/-
  The program's badLine (made by tools/gentrf.py).
-/
import Derived.Test.YtjaffmmocbplaabGreatDoorJ07
import Derived.Test.YtjaffmmocbplaabGreatDoorJ08
import Derived.Test.YtjaffmmocbplaabGreatDoorJ14
namespace Go.Proofs.YtjaffmmocbplaabGreatDoor
open Go.RowKit
set_option linter.unusedVariables false

theorem lineB_case {t : Trf} {n : Nat} (h : ∀ j, j < n → lineB t j = true) (h' : lineB t n = true) : ∀ j, j < n + 1 → lineB t j = true := fun j hj => by
  rcases Nat.lt_or_ge j n with g | g
  · exact h j g
  · have : j = n := by omega
    subst this; exact h'

set_option maxRecDepth 1000000 in
set_option maxHeartbeats 4000000 in
theorem badLine_any (t : Trf) (w : World) (s0 : t.h0.size ≤ maxLen) (s1 : t.h1.size ≤ maxLen) (s2 : t.h2.size ≤ maxLen) (s3 : t.h3.size ≤ maxLen) :
    Calls Tryz.prog 22 #[.agg #[.int .i64 t.z.off, .int .i64 t.z.f.m, .int .i64 t.z.f.w, .int .i64 t.z.f.d, .int .i64 t.z.f.h, .int .i64 t.z.t.m, .int .i64 t.z.t.w, .int .i64 t.z.t.d, .int .i64 t.z.t.h, .int .i64 t.days, .int .i64 t.gap, .int .i64 t.first, .int .i64 t.last, .string t.h0, .string t.h1, .string t.h2, .string t.h3, .int .i64 t.b0.x, .int .i64 t.b0.y, .int .i64 t.b0.z, .int .i64 t.b1.x, .int .i64 t.b1.y, .int .i64 t.b1.z, .int .i64 t.b2.x, .int .i64 t.b2.y, .int .i64 t.b2.z, .int .i64 t.d.x, .int .i64 t.d.y, .int .i64 t.d.z, .int .i64 t.np, .int .i64 t.nn, .int .i64 t.fix, .int .i64 t.min, .int .i64 t.tax]] w fun e w' => e = .returned (.int .i64 (badN t)) ∧ Below w.heap.size w w' := by
  cases z0 : Zon.zoneB t.z
  case false =>
    have HB : Hid (badN t = 0) := badN_at (by omega) (fun j hj => by omega) z0
    go_enter Tryz.func22, Tryz.ntmps22
    go_wp2_with (first | (go_at_call 61; refine (validZone_any t.z _).mono ?_; rintro e w1 ⟨rfl, hb1⟩; obtain ⟨hc1, hf1⟩ := bcell hb1) | (go_at_call 54; refine (within_any _ _ _ _).mono ?_; rintro e wq ⟨rfl, hq⟩; have hq2 := hq.symm; subst hq2))
    go_ret
    exact ⟨ret_int (by rw [HB.out]; rfl), below_then (below_more (Below.refl _ _) _) hb1⟩
  case true =>
    have P1 : Hid (∀ j, j < 1 → lineB t j = true) := lineB_case (n := 0) (fun j hj => by omega) z0
    cases z1 : inB t.days 1 31
    case false =>
      have HB : Hid (badN t = 1) := badN_at (by omega) P1.out (by show (inB t.days 1 31 && inB t.gap 0 8) = false; rw [z1]; rfl)
      go_enter Tryz.func22, Tryz.ntmps22
      go_wp2_with (first | (go_at_call 61; refine (validZone_any t.z _).mono ?_; rintro e w1 ⟨rfl, hb1⟩; obtain ⟨hc1, hf1⟩ := bcell hb1) | (go_at_call 54; refine (within_any _ _ _ _).mono ?_; rintro e wq ⟨rfl, hq⟩; have hq2 := hq.symm; subst hq2))
      go_ret
      exact ⟨ret_int (by rw [HB.out]; rfl), below_then (below_more (Below.refl _ _) _) hb1⟩
    case true =>
      cases z2 : inB t.gap 0 8
      case false =>
        have HB : Hid (badN t = 1) := badN_at (by omega) P1.out (by show (inB t.days 1 31 && inB t.gap 0 8) = false; rw [z1, z2]; rfl)
        go_enter Tryz.func22, Tryz.ntmps22
        go_wp2_with (first | (go_at_call 61; refine (validZone_any t.z _).mono ?_; rintro e w1 ⟨rfl, hb1⟩; obtain ⟨hc1, hf1⟩ := bcell hb1) | (go_at_call 54; refine (within_any _ _ _ _).mono ?_; rintro e wq ⟨rfl, hq⟩; have hq2 := hq.symm; subst hq2))
        go_ret
        exact ⟨ret_int (by rw [HB.out]; rfl), below_then (below_more (Below.refl _ _) _) hb1⟩
      case true =>
        have P2 : Hid (∀ j, j < 2 → lineB t j = true) := lineB_case (n := 1) P1.out (by show (inB t.days 1 31 && inB t.gap 0 8) = true; rw [z1, z2]; rfl)
        cases z3 : inB t.first 1 t.last
        case false =>
          have HB : Hid (badN t = 2) := badN_at (by omega) P2.out (by show (inB t.first 1 t.last && decide (t.last ≤ 12)) = false; rw [z3]; rfl)
          go_enter Tryz.func22, Tryz.ntmps22
          go_wp2_with (first | (go_at_call 61; refine (validZone_any t.z _).mono ?_; rintro e w1 ⟨rfl, hb1⟩; obtain ⟨hc1, hf1⟩ := bcell hb1) | (go_at_call 54; refine (within_any _ _ _ _).mono ?_; rintro e wq ⟨rfl, hq⟩; have hq2 := hq.symm; subst hq2))
          go_ret
          exact ⟨ret_int (by rw [HB.out]; rfl), below_then (below_more (Below.refl _ _) _) hb1⟩
        case true =>
          by_cases z4 : 12 < t.last
          case pos =>
            have HB : Hid (badN t = 2) := badN_at (by omega) P2.out (by show (inB t.first 1 t.last && decide (t.last ≤ 12)) = false; rw [z3]; simp; omega)
            go_enter Tryz.func22, Tryz.ntmps22
            go_wp2_with (first | (go_at_call 61; refine (validZone_any t.z _).mono ?_; rintro e w1 ⟨rfl, hb1⟩; obtain ⟨hc1, hf1⟩ := bcell hb1) | (go_at_call 54; refine (within_any _ _ _ _).mono ?_; rintro e wq ⟨rfl, hq⟩; have hq2 := hq.symm; subst hq2))
            go_ret
            exact ⟨ret_int (by rw [HB.out]; rfl), below_then (below_more (Below.refl _ _) _) hb1⟩
          case neg =>
            have P3 : Hid (∀ j, j < 3 → lineB t j = true) := lineB_case (n := 2) P2.out (by show (inB t.first 1 t.last && decide (t.last ≤ 12)) = true; rw [z3]; simp; omega)
            clear P1 P2
            go_enter Tryz.func22, Tryz.ntmps22
            go_wp2_with (first | (go_at_call 61; refine (validZone_any t.z _).mono ?_; rintro e w1 ⟨rfl, hb1⟩; obtain ⟨hc1, hf1⟩ := bcell hb1) | (go_at_call 54; refine (within_any _ _ _ _).mono ?_; rintro e wq ⟨rfl, hq⟩; have hq2 := hq.symm; subst hq2))
            have hz1 : w.heap.size < w1.heap.size := by have := hb1.size; simp at this; omega
            go_loopw [3] (fun p wr => ∃ k : Nat, p = .int .i64 k ∧ k ≤ 4 ∧ (∀ j, j < 3 + k → lineB t j = true) ∧ wr = w1) (fun p _ => 4 - (intOf p).toNat)
            case atStart => exact ⟨0, rfl, by omega, P3.out, rfl⟩
            case round =>
              obtain ⟨k, rfl, hk, hpre, hwr⟩ := hrel
              have hwr2 := hwr.symm
              subst hwr2
              have HP : Hid (∀ j, j < 3 + k → lineB t j = true) := hpre
              clear hpre P3
              rcases (by omega : k = 0 ∨ k = 1 ∨ k = 2 ∨ k = 3 ∨ k = 4) with rfl | rfl | rfl | rfl | rfl
              · cases z5 : hoursB t.h0
                case false =>
                  have HB : Hid (badN t = 3) := badN_at (by omega) HP.out z5
                  go_wp2_with (go_at_call 62; refine (validHours_any t.h0 _ s0).mono ?_; rintro e wq ⟨rfl, hq⟩; have hq2 := hq.symm; subst hq2)
                  go_ret
                  exact ⟨ret_int (by rw [HB.out]; rfl), below_then (below_more (Below.refl _ _) _) hb1⟩
                case true =>
                  have HN : Hid (∀ j, j < 3 + 1 → lineB t j = true) := lineB_case (n := 3) HP.out z5
                  go_wp2_with (go_at_call 62; refine (validHours_any t.h0 _ s0).mono ?_; rintro e wq ⟨rfl, hq⟩; have hq2 := hq.symm; subst hq2)
                  go_roundw
                  case rel => exact ⟨1, by go_num, by omega, HN.out, by trivial⟩
                  case measure => simp [intOf]
              · cases z5 : hoursB t.h1
                case false =>
                  have HB : Hid (badN t = 4) := badN_at (by omega) HP.out z5
                  go_wp2_with (go_at_call 62; refine (validHours_any t.h1 _ s1).mono ?_; rintro e wq ⟨rfl, hq⟩; have hq2 := hq.symm; subst hq2)
                  go_ret
                  exact ⟨ret_int (by rw [HB.out]; rfl), below_then (below_more (Below.refl _ _) _) hb1⟩
                case true =>
                  have HN : Hid (∀ j, j < 3 + 2 → lineB t j = true) := lineB_case (n := 4) HP.out z5
                  go_wp2_with (go_at_call 62; refine (validHours_any t.h1 _ s1).mono ?_; rintro e wq ⟨rfl, hq⟩; have hq2 := hq.symm; subst hq2)
                  go_roundw
                  case rel => exact ⟨2, by go_num, by omega, HN.out, by trivial⟩
                  case measure => simp [intOf]
              · cases z5 : hoursB t.h2
                case false =>
                  have HB : Hid (badN t = 5) := badN_at (by omega) HP.out z5
                  go_wp2_with (go_at_call 62; refine (validHours_any t.h2 _ s2).mono ?_; rintro e wq ⟨rfl, hq⟩; have hq2 := hq.symm; subst hq2)
                  go_ret
                  exact ⟨ret_int (by rw [HB.out]; rfl), below_then (below_more (Below.refl _ _) _) hb1⟩
                case true =>
                  have HN : Hid (∀ j, j < 3 + 3 → lineB t j = true) := lineB_case (n := 5) HP.out z5
                  go_wp2_with (go_at_call 62; refine (validHours_any t.h2 _ s2).mono ?_; rintro e wq ⟨rfl, hq⟩; have hq2 := hq.symm; subst hq2)
                  go_roundw
                  case rel => exact ⟨3, by go_num, by omega, HN.out, by trivial⟩
                  case measure => simp [intOf]
              · cases z5 : hoursB t.h3
                case false =>
                  have HB : Hid (badN t = 6) := badN_at (by omega) HP.out z5
                  go_wp2_with (go_at_call 62; refine (validHours_any t.h3 _ s3).mono ?_; rintro e wq ⟨rfl, hq⟩; have hq2 := hq.symm; subst hq2)
                  go_ret
                  exact ⟨ret_int (by rw [HB.out]; rfl), below_then (below_more (Below.refl _ _) _) hb1⟩
                case true =>
                  have HN : Hid (∀ j, j < 3 + 4 → lineB t j = true) := lineB_case (n := 6) HP.out z5
                  go_wp2_with (go_at_call 62; refine (validHours_any t.h3 _ s3).mono ?_; rintro e wq ⟨rfl, hq⟩; have hq2 := hq.symm; subst hq2)
                  go_roundw
                  case rel => exact ⟨4, by go_num, by omega, HN.out, by trivial⟩
                  case measure => simp [intOf]
              · go_wp2_with fail
                go_loopw [4] (fun p wi => ∃ k : Nat, p = .int .i64 k ∧ k ≤ 3 ∧ (∀ j, j < 7 + k → lineB t j = true) ∧ Below w1.heap.size w1 wi) (fun p _ => 3 - (intOf p).toNat)
                case atStart => exact ⟨0, rfl, by omega, HP.out, Below.refl _ _⟩
                case round =>
                  obtain ⟨k, rfl, hk, hpre, hbi⟩ := hrel
                  obtain ⟨hci, hfi⟩ := bcell hbi
                  have BI := below_then (below_then (below_more (Below.refl _ _) _) hb1) hbi
                  have HQ : Hid (∀ j, j < 7 + k → lineB t j = true) := hpre
                  have hsi := hbi.size
                  clear hpre HP
                  rcases (by omega : k = 0 ∨ k = 1 ∨ k = 2 ∨ k = 3) with rfl | rfl | rfl | rfl
                  · cases z5 : blkB t.b0
                    case false =>
                      have HB : Hid (badN t = 7) := badN_at (by omega) HQ.out z5
                      go_wp2_with (go_at_call 63; refine (validBlock_any _ _ _ _).mono ?_; rintro e w2 ⟨rfl, hb2⟩; rw [show (inB t.b0.x 0 1000000 && inB t.b0.y 0 100000 && inB t.b0.z 0 100000) = _ from z5])
                      go_ret
                      exact ⟨ret_int (by rw [HB.out]; rfl), below_then BI hb2⟩
                    case true =>
                      have HN : Hid (∀ j, j < 7 + 1 → lineB t j = true) := lineB_case (n := 7) HQ.out z5
                      go_wp2_with (go_at_call 63; refine (validBlock_any _ _ _ _).mono ?_; rintro e w2 ⟨rfl, hb2⟩; rw [show (inB t.b0.x 0 1000000 && inB t.b0.y 0 100000 && inB t.b0.z 0 100000) = _ from z5])
                      go_roundw
                      case rel => exact ⟨1, by go_num, by omega, HN.out, below_then hbi hb2⟩
                      case measure => simp [intOf]
                  · cases z5 : blkB t.b1
                    case false =>
                      have HB : Hid (badN t = 8) := badN_at (by omega) HQ.out z5
                      go_wp2_with (go_at_call 63; refine (validBlock_any _ _ _ _).mono ?_; rintro e w2 ⟨rfl, hb2⟩; rw [show (inB t.b1.x 0 1000000 && inB t.b1.y 0 100000 && inB t.b1.z 0 100000) = _ from z5])
                      go_ret
                      exact ⟨ret_int (by rw [HB.out]; rfl), below_then BI hb2⟩
                    case true =>
                      have HN : Hid (∀ j, j < 7 + 2 → lineB t j = true) := lineB_case (n := 8) HQ.out z5
                      go_wp2_with (go_at_call 63; refine (validBlock_any _ _ _ _).mono ?_; rintro e w2 ⟨rfl, hb2⟩; rw [show (inB t.b1.x 0 1000000 && inB t.b1.y 0 100000 && inB t.b1.z 0 100000) = _ from z5])
                      go_roundw
                      case rel => exact ⟨2, by go_num, by omega, HN.out, below_then hbi hb2⟩
                      case measure => simp [intOf]
                  · cases z5 : blkB t.b2
                    case false =>
                      have HB : Hid (badN t = 9) := badN_at (by omega) HQ.out z5
                      go_wp2_with (go_at_call 63; refine (validBlock_any _ _ _ _).mono ?_; rintro e w2 ⟨rfl, hb2⟩; rw [show (inB t.b2.x 0 1000000 && inB t.b2.y 0 100000 && inB t.b2.z 0 100000) = _ from z5])
                      go_ret
                      exact ⟨ret_int (by rw [HB.out]; rfl), below_then BI hb2⟩
                    case true =>
                      have HN : Hid (∀ j, j < 7 + 3 → lineB t j = true) := lineB_case (n := 9) HQ.out z5
                      go_wp2_with (go_at_call 63; refine (validBlock_any _ _ _ _).mono ?_; rintro e w2 ⟨rfl, hb2⟩; rw [show (inB t.b2.x 0 1000000 && inB t.b2.y 0 100000 && inB t.b2.z 0 100000) = _ from z5])
                      go_roundw
                      case rel => exact ⟨3, by go_num, by omega, HN.out, below_then hbi hb2⟩
                      case measure => simp [intOf]
                  · have hwi : w.heap.size < wr.heap.size := by omega
                    cases y0 : dmdB t.d
                    case false =>
                      have HB : Hid (badN t = 10) := badN_at (by omega) HQ.out y0
                      go_wp2_with (first | (go_at_call 64; refine (validDemand_any _ _ _ _).mono ?_; rintro e w2 ⟨rfl, hb2⟩; obtain ⟨hc2, hf2⟩ := bcell hb2; rw [show (inB t.d.x 0 1000000 && inB t.d.y 0 100 && inB t.d.z 0 12) = _ from y0]) | (go_at_call 54; refine (within_any _ _ _ _).mono ?_; rintro e wq ⟨rfl, hq⟩; have hq2 := hq.symm; subst hq2))
                      go_ret
                      exact ⟨ret_int (by rw [HB.out]; rfl), below_then BI hb2⟩
                    case true =>
                      have Q1 : Hid (∀ j, j < 11 → lineB t j = true) := lineB_case (n := 10) HQ.out y0
                      cases y1 : inB t.np 0 100000
                      case false =>
                        have HB : Hid (badN t = 11) := badN_at (by omega) Q1.out (by show (inB t.np 0 100000 && inB t.nn 0 12) = false; rw [y1]; rfl)
                        go_wp2_with (first | (go_at_call 64; refine (validDemand_any _ _ _ _).mono ?_; rintro e w2 ⟨rfl, hb2⟩; obtain ⟨hc2, hf2⟩ := bcell hb2; rw [show (inB t.d.x 0 1000000 && inB t.d.y 0 100 && inB t.d.z 0 12) = _ from y0]) | (go_at_call 54; refine (within_any _ _ _ _).mono ?_; rintro e wq ⟨rfl, hq⟩; have hq2 := hq.symm; subst hq2))
                        go_ret
                        exact ⟨ret_int (by rw [HB.out]; rfl), below_then BI hb2⟩
                      case true =>
                        cases y2 : inB t.nn 0 12
                        case false =>
                          have HB : Hid (badN t = 11) := badN_at (by omega) Q1.out (by show (inB t.np 0 100000 && inB t.nn 0 12) = false; rw [y1, y2]; rfl)
                          go_wp2_with (first | (go_at_call 64; refine (validDemand_any _ _ _ _).mono ?_; rintro e w2 ⟨rfl, hb2⟩; obtain ⟨hc2, hf2⟩ := bcell hb2; rw [show (inB t.d.x 0 1000000 && inB t.d.y 0 100 && inB t.d.z 0 12) = _ from y0]) | (go_at_call 54; refine (within_any _ _ _ _).mono ?_; rintro e wq ⟨rfl, hq⟩; have hq2 := hq.symm; subst hq2))
                          go_ret
                          exact ⟨ret_int (by rw [HB.out]; rfl), below_then BI hb2⟩
                        case true =>
                          have Q2 : Hid (∀ j, j < 12 → lineB t j = true) := lineB_case (n := 11) Q1.out (by show (inB t.np 0 100000 && inB t.nn 0 12) = true; rw [y1, y2]; rfl)
                          cases y3 : inB t.fix 0 1000000
                          case false =>
                            have HB : Hid (badN t = 12) := badN_at (by omega) Q2.out (by show (inB t.fix 0 1000000 && inB t.min 0 1000000 && inB t.tax 0 1000) = false; rw [y3]; rfl)
                            go_wp2_with (first | (go_at_call 64; refine (validDemand_any _ _ _ _).mono ?_; rintro e w2 ⟨rfl, hb2⟩; obtain ⟨hc2, hf2⟩ := bcell hb2; rw [show (inB t.d.x 0 1000000 && inB t.d.y 0 100 && inB t.d.z 0 12) = _ from y0]) | (go_at_call 54; refine (within_any _ _ _ _).mono ?_; rintro e wq ⟨rfl, hq⟩; have hq2 := hq.symm; subst hq2))
                            go_ret
                            exact ⟨ret_int (by rw [HB.out]; rfl), below_then BI hb2⟩
                          case true =>
                            cases y4 : inB t.min 0 1000000
                            case false =>
                              have HB : Hid (badN t = 12) := badN_at (by omega) Q2.out (by show (inB t.fix 0 1000000 && inB t.min 0 1000000 && inB t.tax 0 1000) = false; rw [y3, y4]; rfl)
                              go_wp2_with (first | (go_at_call 64; refine (validDemand_any _ _ _ _).mono ?_; rintro e w2 ⟨rfl, hb2⟩; obtain ⟨hc2, hf2⟩ := bcell hb2; rw [show (inB t.d.x 0 1000000 && inB t.d.y 0 100 && inB t.d.z 0 12) = _ from y0]) | (go_at_call 54; refine (within_any _ _ _ _).mono ?_; rintro e wq ⟨rfl, hq⟩; have hq2 := hq.symm; subst hq2))
                              go_ret
                              exact ⟨ret_int (by rw [HB.out]; rfl), below_then BI hb2⟩
                            case true =>
                              cases y5 : inB t.tax 0 1000
                              case false =>
                                have HB : Hid (badN t = 12) := badN_at (by omega) Q2.out (by show (inB t.fix 0 1000000 && inB t.min 0 1000000 && inB t.tax 0 1000) = false; rw [y3, y4, y5]; rfl)
                                go_wp2_with (first | (go_at_call 64; refine (validDemand_any _ _ _ _).mono ?_; rintro e w2 ⟨rfl, hb2⟩; obtain ⟨hc2, hf2⟩ := bcell hb2; rw [show (inB t.d.x 0 1000000 && inB t.d.y 0 100 && inB t.d.z 0 12) = _ from y0]) | (go_at_call 54; refine (within_any _ _ _ _).mono ?_; rintro e wq ⟨rfl, hq⟩; have hq2 := hq.symm; subst hq2))
                                go_ret
                                exact ⟨ret_int (by rw [HB.out]; rfl), below_then BI hb2⟩
                              case true =>
                                have HB : Hid (badN t = 13) := badN_all (lineB_case (n := 12) Q2.out (by show (inB t.fix 0 1000000 && inB t.min 0 1000000 && inB t.tax 0 1000) = true; rw [y3, y4, y5]; rfl))
                                go_wp2_with (first | (go_at_call 64; refine (validDemand_any _ _ _ _).mono ?_; rintro e w2 ⟨rfl, hb2⟩; obtain ⟨hc2, hf2⟩ := bcell hb2; rw [show (inB t.d.x 0 1000000 && inB t.d.y 0 100 && inB t.d.z 0 12) = _ from y0]) | (go_at_call 54; refine (within_any _ _ _ _).mono ?_; rintro e wq ⟨rfl, hq⟩; have hq2 := hq.symm; subst hq2))
                                go_ret
                                exact ⟨ret_int (by rw [HB.out]; rfl), below_then BI hb2⟩

end Go.Proofs.YtjaffmmocbplaabGreatDoor
