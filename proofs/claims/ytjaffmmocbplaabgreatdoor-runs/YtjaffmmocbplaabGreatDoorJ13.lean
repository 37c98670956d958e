/-
  LetW, TrfW in one text.
-/
import Derived.Test.YtjaffmmocbplaabGreatDoorJ05
import Derived.Test.YtjaffmmocbplaabGreatDoorJ06
namespace Go.Proofs.YtjaffmmocbplaabGreatDoor
open Go.RowKit
set_option linter.unusedVariables false
set_option linter.unusedSimpArgs false

set_option maxHeartbeats 1000000 in
theorem letters_any (u : ByteArray) (w : World) (hu : u.size ≤ maxLen) :
    Calls Tryz.prog 75 #[.string u] w fun e w' => e = .returned (.bool (hoursB u)) ∧ w' = w := by
  unfold maxLen at hu
  by_cases h24 : u.size = 24
  · have hB : ((u.size : Int) != 24) = false := by simp; omega
    have HB : Hid (hoursB u = (u.data.toList.all fun c => clsB (c.toNat : Int))) := by show _ = _; simp [hoursB, h24]
    go_enter Tryz.func75, Tryz.ntmps75
    go_wp2_with fail
    go_loop [3] (fun i => ∃ k : Nat, i = .int .i64 k ∧ k ≤ 24 ∧ (u.data.toList.take k).all (fun c => clsB (c.toNat : Int)) = true) (fun i => 24 - (intOf i).toNat)
    case atStart => exact ⟨0, rfl, by omega, by simp⟩
    case round =>
      obtain ⟨k, rfl, hk, hall⟩ := hrel
      by_cases hlt : k < 24
      · have hlu : k < u.size := by omega
        have hlt' : (k : Int) < (u.size : Int) := by omega
        have hk0 : (0 : Int) ≤ (k : Int) := by omega
        cases hc : clsB (u[k].toNat : Int)
        case true =>
          have HA : Hid ((u.data.toList.take (k + 1)).all (fun c => clsB (c.toNat : Int)) = true) := by show _ = _; rw [hours_take hlu, hall, hc]; rfl
          obtain ⟨c1, c2⟩ := clsB_iff.mp hc
          clear hall hc
          go_wp2_with fail
          go_round
          case rel => exact ⟨k + 1, by go_num, by omega, HA.out⟩
          case measure => simp [intOf]; omega
        case false =>
          have HA : Hid (hoursB u = false) := hours_no hlu hc
          have hn : ¬ (65 ≤ (u[k].toNat : Int) ∧ (u[k].toNat : Int) ≤ 67) := fun q => by rw [clsB_iff.mpr q] at hc; cases hc
          clear hall hc
          by_cases hc1 : (u[k].toNat : Int) < 65
          all_goals
            try (have hc2 : 67 < (u[k].toNat : Int) := by omega)
            clear hn
            go_wp2_with fail
            go_ret
            exact ⟨ret_bool HA.out.symm, rfl⟩
      · have HA : Hid (hoursB u = true) := by show _ = _; rw [HB.out]; rw [List.take_of_length_le (by simp; omega)] at hall; exact hall
        clear hall
        go_wp2_with fail
        go_ret
        exact ⟨ret_bool HA.out.symm, rfl⟩
  · have hB : ((u.size : Int) != 24) = true := by simp; omega
    have HB : Hid (hoursB u = false) := by show _ = _; simp [hoursB, h24]
    go_enter Tryz.func75, Tryz.ntmps75
    go_wp2_with fail
    go_ret
    exact ⟨ret_bool HB.out.symm, rfl⟩

set_option maxHeartbeats 400000 in
theorem validBlock_any (x y z : Int) (w : World) :
    Calls Tryz.prog 63 #[.agg #[.int .i64 x, .int .i64 y, .int .i64 z]] w fun e w' => e = .returned (.bool (inB x 0 1000000 && inB y 0 100000 && inB z 0 100000)) ∧ Below w.heap.size w w' := by
  cases h1 : inB x 0 1000000 <;> cases h2 : inB y 0 100000
  all_goals
    go_enter Tryz.func63, Tryz.ntmps63
    go_wp2_with (go_at_call 54; refine (within_any _ _ _ _).mono ?_; rintro e w' ⟨rfl, rfl⟩)
    go_ret
    exact ⟨ret_bool (by simp [h1, h2]), below_more (Below.refl _ _) _⟩

set_option maxHeartbeats 400000 in
theorem validDemand_any (x y z : Int) (w : World) :
    Calls Tryz.prog 64 #[.agg #[.int .i64 x, .int .i64 y, .int .i64 z]] w fun e w' => e = .returned (.bool (inB x 0 1000000 && inB y 0 100 && inB z 0 12)) ∧ Below w.heap.size w w' := by
  cases h1 : inB x 0 1000000 <;> cases h2 : inB y 0 100
  all_goals
    go_enter Tryz.func64, Tryz.ntmps64
    go_wp2_with (go_at_call 54; refine (within_any _ _ _ _).mono ?_; rintro e w' ⟨rfl, rfl⟩)
    go_ret
    exact ⟨ret_bool (by simp [h1, h2]), below_more (Below.refl _ _) _⟩

/-- the place behind k newlines, from a on -/
def lsF (t : ByteArray) : Nat → Nat → Nat → Nat
  | 0, a, _ => a
  | f + 1, a, k => if a < t.size ∧ 0 < k then lsF t f (a + 1) (if Txt.byteAt t a = 10 then k - 1 else k) else a
def lineAt (t : ByteArray) (a k : Nat) : Nat := lsF t (t.size - a) a k
theorem lineAt_zero (t : ByteArray) (a : Nat) : lineAt t a 0 = a := by
  unfold lineAt; cases t.size - a with
  | zero => rfl
  | succ f => show (if _ then _ else _) = _; rw [if_neg (by omega)]
theorem lineAt_end {t : ByteArray} {a k : Nat} (h : ¬ a < t.size) : lineAt t a k = a := by
  unfold lineAt; rw [show t.size - a = 0 by omega]; rfl
theorem lineAt_step {t : ByteArray} {a k : Nat} (h : a < t.size) (hk : 0 < k) : lineAt t a k = lineAt t (a + 1) (if Txt.byteAt t a = 10 then k - 1 else k) := by
  unfold lineAt; rw [show t.size - a = (t.size - (a + 1)) + 1 by omega]
  show (if _ then _ else _) = _
  rw [if_pos ⟨h, hk⟩]

set_option maxHeartbeats 1000000 in
theorem lineStart_any (t : ByteArray) (k : Nat) (w : World) (ht : t.size ≤ 100000) (hk : k ≤ 100) :
    Calls Tryz.prog 23 #[.string t, .int .i64 k] w fun e w' => e = .returned (.int .i64 (lineAt t 0 k)) ∧ w' = w := by
  obtain ⟨R, hR⟩ : ∃ R, R = lineAt t 0 k := ⟨_, rfl⟩
  rw [← hR]
  have HR : Hid (lineAt t 0 k = R) := hR.symm
  clear hR
  go_enter Tryz.func23, Tryz.ntmps23
  go_wp2_with fail
  go_loop [1, 5] (fun l i => ∃ a j : Nat, i = .int .i64 a ∧ l = .int .i64 j ∧ a ≤ t.size ∧ j ≤ 100 ∧ lineAt t a j = R) (fun _ i => t.size - (intOf i).toNat)
  case atStart => exact ⟨0, k, rfl, rfl, by omega, hk, HR.out⟩
  case round =>
    obtain ⟨a, j, rfl, rfl, ha, hj, hl⟩ := hrel
    by_cases hlt : a < t.size
    · have hlt' : (a : Int) < (t.size : Int) := by omega
      have ha0 : (0 : Int) ≤ (a : Int) := by omega
      by_cases hj0 : 0 < j
      · have hj0' : (0 : Int) < (j : Int) := by omega
        have e := lineAt_step hlt hj0
        rw [Txt.byteAt_lt hlt] at e
        by_cases h10 : (t[a].toNat : Int) = 10
        · have h10B : ((t[a].toNat : Int) == 10) = true := by simpa using h10
          have HL : Hid (lineAt t (a + 1) (j - 1) = R) := by rw [if_pos h10] at e; rw [← e]; exact hl
          clear e hl h10
          go_wp2_with fail
          go_round
          case rel => exact ⟨a + 1, j - 1, by go_num, by congr 1; omega, by omega, by omega, HL.out⟩
          case measure => simp [intOf]; omega
        · have h10B : ((t[a].toNat : Int) == 10) = false := by simpa using h10
          have HL : Hid (lineAt t (a + 1) j = R) := by rw [if_neg h10] at e; rw [← e]; exact hl
          clear e hl h10
          go_wp2_with fail
          go_round
          case rel => exact ⟨a + 1, j, by go_num, rfl, by omega, by omega, HL.out⟩
          case measure => simp [intOf]; omega
      · have hj0' : ¬ (0 : Int) < (j : Int) := by omega
        have HL : Hid (a = R) := by have : j = 0 := by omega
                                    rw [this, lineAt_zero] at hl; exact hl
        clear hl
        go_wp2_with fail
        go_ret
        exact ⟨ret_int (by rw [HL.out]), rfl⟩
    · have hlt' : ¬ (a : Int) < (t.size : Int) := by omega
      have HL : Hid (a = R) := by rw [lineAt_end hlt] at hl; exact hl
      clear hl
      go_wp2_with fail
      go_ret
      exact ⟨ret_int (by rw [HL.out]), rfl⟩

/-! no newline from a on up to b -/
def noNL (t : ByteArray) (a b : Nat) : Prop := ∀ i, a ≤ i → i < b → Txt.byteAt t i ≠ 10
theorem lineAt_skip {t : ByteArray} {a k : Nat} (hk : 0 < k) : ∀ (d : Nat), a + d ≤ t.size → noNL t a (a + d) → lineAt t a k = lineAt t (a + d) k
  | 0, _, _ => rfl
  | d + 1, h, hn => by
    rw [lineAt_skip hk d (by omega) (fun i h1 h2 => hn i h1 (by omega)), lineAt_step (show a + d < t.size by omega) hk, if_neg (hn (a + d) (by omega) (by omega))]
    rfl
/-- a line: nothing but its last byte is a newline -/
theorem lineAt_line {t : ByteArray} {a b k : Nat} (hab : a ≤ b) (hb : b < t.size) (hn : noNL t a b) (h10 : Txt.byteAt t b = 10) : lineAt t a (k + 1) = lineAt t (b + 1) k := by
  obtain ⟨d, rfl⟩ := Nat.exists_eq_add_of_le hab
  rw [lineAt_skip (by omega) d (by omega) hn, lineAt_step hb (by omega), if_pos h10]
  rfl
theorem noNL_trans {t : ByteArray} {a b c : Nat} (h : noNL t a b) (h' : noNL t b c) : noNL t a c := fun i h1 h2 => by
  rcases Nat.lt_or_ge i b with g | g
  · exact h i h1 g
  · exact h' i g h2
theorem noNL_refl (t : ByteArray) (a : Nat) : noNL t a a := fun i h1 h2 => by omega
theorem noNL_take {t : ByteArray} {s : Txt.Sc} {c : Int} (hc : c ≠ 10) : noNL t s.pos (Txt.take t s c).pos := by
  unfold Txt.take; split
  · rename_i g
    intro i h1 h2
    have : i = s.pos := by simp at h2; omega
    rw [this, (Txt.seesB_iff.mp g).2]; exact hc
  · exact noNL_refl _ _
theorem noNL_runD (t : ByteArray) : ∀ (k p : Nat) (n : Int), noNL t p (Txt.runD t k p n).2
  | 0, p, n => noNL_refl _ _
  | k + 1, p, n => by
    unfold Txt.runD; split
    · rename_i g
      have g' := Txt.digB_iff.mp g
      refine noNL_trans (b := p + 1) (fun i h1 h2 => ?_) (noNL_runD t k (p + 1) _)
      have : i = p := by omega
      rw [this]; omega
    · exact noNL_refl _ _
theorem noNL_num {t : ByteArray} {k : Nat} {s : Txt.Sc} : noNL t s.pos (Txt.num t k s).2.pos := by
  unfold Txt.num; split
  · exact noNL_refl _ _
  · split
    · rename_i g
      intro i h1 h2
      have : i = s.pos := by simp at h2; omega
      rw [this, g]; omega
    · split
      · exact noNL_runD t k s.pos 0
      · exact noNL_refl _ _
theorem noNL_field {t : ByteArray} {k : Nat} {s : Txt.Sc} : noNL t s.pos (Txt.field t k s).2.pos := noNL_trans (noNL_take (by omega)) noNL_num
theorem noNL_fldS (t : ByteArray) (m : Nat) (s : Txt.Sc) : ∀ n, noNL t s.pos (fldS t m s n).pos
  | 0 => noNL_refl _ _
  | n + 1 => noNL_trans (noNL_fldS t m s n) noNL_field
theorem noNL_chS (t : ByteArray) (s : Txt.Sc) : ∀ n, noNL t s.pos (chS t s n).pos
  | 0 => noNL_refl _ _
  | n + 1 => by
    refine noNL_trans (noNL_chS t s n) ?_
    show noNL t _ (cls t (chS t s n)).2.pos
    unfold cls; split
    · rename_i g
      have g' := clsB_bd g.2
      intro i h1 h2
      have : i = (chS t s n).pos := by simp at h2; omega
      rw [this]; omega
    · exact noNL_refl _ _

end Go.Proofs.YtjaffmmocbplaabGreatDoor

namespace Go.Proofs.YtjaffmmocbplaabGreatDoor
open Go.RowKit
set_option linter.unusedVariables false

theorem lineB_case {t : Trf} {n : Nat} (h : ∀ j, j < n → lineB t j = true) (h' : lineB t n = true) : ∀ j, j < n + 1 → lineB t j = true := fun j hj => by
  rcases Nat.lt_or_ge j n with g | g
  · exact h j g
  · have : j = n := by omega
    subst this; exact h'

set_option maxRecDepth 1000000 in
set_option maxHeartbeats 4000000 in
theorem badLine_any (t : Trf) (w : World) (s0 : t.h0.size ≤ maxLen) (s1 : t.h1.size ≤ maxLen) (s2 : t.h2.size ≤ maxLen) (s3 : t.h3.size ≤ maxLen) :
    Calls Tryz.prog 22 #[.agg #[.int .i64 t.z.off, .int .i64 t.z.f.m, .int .i64 t.z.f.w, .int .i64 t.z.f.d, .int .i64 t.z.f.h, .int .i64 t.z.t.m, .int .i64 t.z.t.w, .int .i64 t.z.t.d, .int .i64 t.z.t.h, .int .i64 t.days, .int .i64 t.gap, .int .i64 t.first, .int .i64 t.last, .string t.h0, .string t.h1, .string t.h2, .string t.h3, .int .i64 t.b0.x, .int .i64 t.b0.y, .int .i64 t.b0.z, .int .i64 t.b1.x, .int .i64 t.b1.y, .int .i64 t.b1.z, .int .i64 t.b2.x, .int .i64 t.b2.y, .int .i64 t.b2.z, .int .i64 t.d.x, .int .i64 t.d.y, .int .i64 t.d.z, .int .i64 t.np, .int .i64 t.nn, .int .i64 t.fix, .int .i64 t.min, .int .i64 t.tax]] w fun e w' => e = .returned (.int .i64 (badN t)) ∧ Below w.heap.size w w' := by
  cases z0 : Zon.zoneB t.z
  case false =>
    have HB : Hid (badN t = 0) := badN_at (by omega) (fun j hj => by omega) z0
    go_enter Tryz.func22, Tryz.ntmps22
    go_wp2_with (first | (go_at_call 61; refine (validZone_any t.z _).mono ?_; rintro e w1 ⟨rfl, hb1⟩; obtain ⟨hc1, hf1⟩ := bcell hb1) | (go_at_call 54; refine (within_any _ _ _ _).mono ?_; rintro e wq ⟨rfl, hq⟩; have hq2 := hq.symm; subst hq2))
    go_ret
    exact ⟨ret_int (by rw [HB.out]; rfl), below_then (below_more (Below.refl _ _) _) hb1⟩
  case true =>
    have P1 : Hid (∀ j, j < 1 → lineB t j = true) := lineB_case (n := 0) (fun j hj => by omega) z0
    cases z1 : inB t.days 1 31
    case false =>
      have HB : Hid (badN t = 1) := badN_at (by omega) P1.out (by show (inB t.days 1 31 && inB t.gap 0 8) = false; rw [z1]; rfl)
      go_enter Tryz.func22, Tryz.ntmps22
      go_wp2_with (first | (go_at_call 61; refine (validZone_any t.z _).mono ?_; rintro e w1 ⟨rfl, hb1⟩; obtain ⟨hc1, hf1⟩ := bcell hb1) | (go_at_call 54; refine (within_any _ _ _ _).mono ?_; rintro e wq ⟨rfl, hq⟩; have hq2 := hq.symm; subst hq2))
      go_ret
      exact ⟨ret_int (by rw [HB.out]; rfl), below_then (below_more (Below.refl _ _) _) hb1⟩
    case true =>
      cases z2 : inB t.gap 0 8
      case false =>
        have HB : Hid (badN t = 1) := badN_at (by omega) P1.out (by show (inB t.days 1 31 && inB t.gap 0 8) = false; rw [z1, z2]; rfl)
        go_enter Tryz.func22, Tryz.ntmps22
        go_wp2_with (first | (go_at_call 61; refine (validZone_any t.z _).mono ?_; rintro e w1 ⟨rfl, hb1⟩; obtain ⟨hc1, hf1⟩ := bcell hb1) | (go_at_call 54; refine (within_any _ _ _ _).mono ?_; rintro e wq ⟨rfl, hq⟩; have hq2 := hq.symm; subst hq2))
        go_ret
        exact ⟨ret_int (by rw [HB.out]; rfl), below_then (below_more (Below.refl _ _) _) hb1⟩
      case true =>
        have P2 : Hid (∀ j, j < 2 → lineB t j = true) := lineB_case (n := 1) P1.out (by show (inB t.days 1 31 && inB t.gap 0 8) = true; rw [z1, z2]; rfl)
        cases z3 : inB t.first 1 t.last
        case false =>
          have HB : Hid (badN t = 2) := badN_at (by omega) P2.out (by show (inB t.first 1 t.last && decide (t.last ≤ 12)) = false; rw [z3]; rfl)
          go_enter Tryz.func22, Tryz.ntmps22
          go_wp2_with (first | (go_at_call 61; refine (validZone_any t.z _).mono ?_; rintro e w1 ⟨rfl, hb1⟩; obtain ⟨hc1, hf1⟩ := bcell hb1) | (go_at_call 54; refine (within_any _ _ _ _).mono ?_; rintro e wq ⟨rfl, hq⟩; have hq2 := hq.symm; subst hq2))
          go_ret
          exact ⟨ret_int (by rw [HB.out]; rfl), below_then (below_more (Below.refl _ _) _) hb1⟩
        case true =>
          by_cases z4 : 12 < t.last
          case pos =>
            have HB : Hid (badN t = 2) := badN_at (by omega) P2.out (by show (inB t.first 1 t.last && decide (t.last ≤ 12)) = false; rw [z3]; simp; omega)
            go_enter Tryz.func22, Tryz.ntmps22
            go_wp2_with (first | (go_at_call 61; refine (validZone_any t.z _).mono ?_; rintro e w1 ⟨rfl, hb1⟩; obtain ⟨hc1, hf1⟩ := bcell hb1) | (go_at_call 54; refine (within_any _ _ _ _).mono ?_; rintro e wq ⟨rfl, hq⟩; have hq2 := hq.symm; subst hq2))
            go_ret
            exact ⟨ret_int (by rw [HB.out]; rfl), below_then (below_more (Below.refl _ _) _) hb1⟩
          case neg =>
            have P3 : Hid (∀ j, j < 3 → lineB t j = true) := lineB_case (n := 2) P2.out (by show (inB t.first 1 t.last && decide (t.last ≤ 12)) = true; rw [z3]; simp; omega)
            clear P1 P2
            go_enter Tryz.func22, Tryz.ntmps22
            go_wp2_with (first | (go_at_call 61; refine (validZone_any t.z _).mono ?_; rintro e w1 ⟨rfl, hb1⟩; obtain ⟨hc1, hf1⟩ := bcell hb1) | (go_at_call 54; refine (within_any _ _ _ _).mono ?_; rintro e wq ⟨rfl, hq⟩; have hq2 := hq.symm; subst hq2))
            have hz1 : w.heap.size < w1.heap.size := by have := hb1.size; simp at this; omega
            go_loopw [3] (fun p wr => ∃ k : Nat, p = .int .i64 k ∧ k ≤ 4 ∧ (∀ j, j < 3 + k → lineB t j = true) ∧ wr = w1) (fun p _ => 4 - (intOf p).toNat)
            case atStart => exact ⟨0, rfl, by omega, P3.out, rfl⟩
            case round =>
              obtain ⟨k, rfl, hk, hpre, hwr⟩ := hrel
              have hwr2 := hwr.symm
              subst hwr2
              have HP : Hid (∀ j, j < 3 + k → lineB t j = true) := hpre
              clear hpre P3
              rcases (by omega : k = 0 ∨ k = 1 ∨ k = 2 ∨ k = 3 ∨ k = 4) with rfl | rfl | rfl | rfl | rfl
              · cases z5 : hoursB t.h0
                case false =>
                  have HB : Hid (badN t = 3) := badN_at (by omega) HP.out z5
                  go_wp2_with (go_at_call 62; refine (validHours_any t.h0 _ s0).mono ?_; rintro e wq ⟨rfl, hq⟩; have hq2 := hq.symm; subst hq2)
                  go_ret
                  exact ⟨ret_int (by rw [HB.out]; rfl), below_then (below_more (Below.refl _ _) _) hb1⟩
                case true =>
                  have HN : Hid (∀ j, j < 3 + 1 → lineB t j = true) := lineB_case (n := 3) HP.out z5
                  go_wp2_with (go_at_call 62; refine (validHours_any t.h0 _ s0).mono ?_; rintro e wq ⟨rfl, hq⟩; have hq2 := hq.symm; subst hq2)
                  go_roundw
                  case rel => exact ⟨1, by go_num, by omega, HN.out, by trivial⟩
                  case measure => simp [intOf]
              · cases z5 : hoursB t.h1
                case false =>
                  have HB : Hid (badN t = 4) := badN_at (by omega) HP.out z5
                  go_wp2_with (go_at_call 62; refine (validHours_any t.h1 _ s1).mono ?_; rintro e wq ⟨rfl, hq⟩; have hq2 := hq.symm; subst hq2)
                  go_ret
                  exact ⟨ret_int (by rw [HB.out]; rfl), below_then (below_more (Below.refl _ _) _) hb1⟩
                case true =>
                  have HN : Hid (∀ j, j < 3 + 2 → lineB t j = true) := lineB_case (n := 4) HP.out z5
                  go_wp2_with (go_at_call 62; refine (validHours_any t.h1 _ s1).mono ?_; rintro e wq ⟨rfl, hq⟩; have hq2 := hq.symm; subst hq2)
                  go_roundw
                  case rel => exact ⟨2, by go_num, by omega, HN.out, by trivial⟩
                  case measure => simp [intOf]
              · cases z5 : hoursB t.h2
                case false =>
                  have HB : Hid (badN t = 5) := badN_at (by omega) HP.out z5
                  go_wp2_with (go_at_call 62; refine (validHours_any t.h2 _ s2).mono ?_; rintro e wq ⟨rfl, hq⟩; have hq2 := hq.symm; subst hq2)
                  go_ret
                  exact ⟨ret_int (by rw [HB.out]; rfl), below_then (below_more (Below.refl _ _) _) hb1⟩
                case true =>
                  have HN : Hid (∀ j, j < 3 + 3 → lineB t j = true) := lineB_case (n := 5) HP.out z5
                  go_wp2_with (go_at_call 62; refine (validHours_any t.h2 _ s2).mono ?_; rintro e wq ⟨rfl, hq⟩; have hq2 := hq.symm; subst hq2)
                  go_roundw
                  case rel => exact ⟨3, by go_num, by omega, HN.out, by trivial⟩
                  case measure => simp [intOf]
              · cases z5 : hoursB t.h3
                case false =>
                  have HB : Hid (badN t = 6) := badN_at (by omega) HP.out z5
                  go_wp2_with (go_at_call 62; refine (validHours_any t.h3 _ s3).mono ?_; rintro e wq ⟨rfl, hq⟩; have hq2 := hq.symm; subst hq2)
                  go_ret
                  exact ⟨ret_int (by rw [HB.out]; rfl), below_then (below_more (Below.refl _ _) _) hb1⟩
                case true =>
                  have HN : Hid (∀ j, j < 3 + 4 → lineB t j = true) := lineB_case (n := 6) HP.out z5
                  go_wp2_with (go_at_call 62; refine (validHours_any t.h3 _ s3).mono ?_; rintro e wq ⟨rfl, hq⟩; have hq2 := hq.symm; subst hq2)
                  go_roundw
                  case rel => exact ⟨4, by go_num, by omega, HN.out, by trivial⟩
                  case measure => simp [intOf]
              · go_wp2_with fail
                go_loopw [4] (fun p wi => ∃ k : Nat, p = .int .i64 k ∧ k ≤ 3 ∧ (∀ j, j < 7 + k → lineB t j = true) ∧ Below w1.heap.size w1 wi) (fun p _ => 3 - (intOf p).toNat)
                case atStart => exact ⟨0, rfl, by omega, HP.out, Below.refl _ _⟩
                case round =>
                  obtain ⟨k, rfl, hk, hpre, hbi⟩ := hrel
                  obtain ⟨hci, hfi⟩ := bcell hbi
                  have BI := below_then (below_then (below_more (Below.refl _ _) _) hb1) hbi
                  have HQ : Hid (∀ j, j < 7 + k → lineB t j = true) := hpre
                  have hsi := hbi.size
                  clear hpre HP
                  rcases (by omega : k = 0 ∨ k = 1 ∨ k = 2 ∨ k = 3) with rfl | rfl | rfl | rfl
                  · cases z5 : blkB t.b0
                    case false =>
                      have HB : Hid (badN t = 7) := badN_at (by omega) HQ.out z5
                      go_wp2_with (go_at_call 63; refine (validBlock_any _ _ _ _).mono ?_; rintro e w2 ⟨rfl, hb2⟩; rw [show (inB t.b0.x 0 1000000 && inB t.b0.y 0 100000 && inB t.b0.z 0 100000) = _ from z5])
                      go_ret
                      exact ⟨ret_int (by rw [HB.out]; rfl), below_then BI hb2⟩
                    case true =>
                      have HN : Hid (∀ j, j < 7 + 1 → lineB t j = true) := lineB_case (n := 7) HQ.out z5
                      go_wp2_with (go_at_call 63; refine (validBlock_any _ _ _ _).mono ?_; rintro e w2 ⟨rfl, hb2⟩; rw [show (inB t.b0.x 0 1000000 && inB t.b0.y 0 100000 && inB t.b0.z 0 100000) = _ from z5])
                      go_roundw
                      case rel => exact ⟨1, by go_num, by omega, HN.out, below_then hbi hb2⟩
                      case measure => simp [intOf]
                  · cases z5 : blkB t.b1
                    case false =>
                      have HB : Hid (badN t = 8) := badN_at (by omega) HQ.out z5
                      go_wp2_with (go_at_call 63; refine (validBlock_any _ _ _ _).mono ?_; rintro e w2 ⟨rfl, hb2⟩; rw [show (inB t.b1.x 0 1000000 && inB t.b1.y 0 100000 && inB t.b1.z 0 100000) = _ from z5])
                      go_ret
                      exact ⟨ret_int (by rw [HB.out]; rfl), below_then BI hb2⟩
                    case true =>
                      have HN : Hid (∀ j, j < 7 + 2 → lineB t j = true) := lineB_case (n := 8) HQ.out z5
                      go_wp2_with (go_at_call 63; refine (validBlock_any _ _ _ _).mono ?_; rintro e w2 ⟨rfl, hb2⟩; rw [show (inB t.b1.x 0 1000000 && inB t.b1.y 0 100000 && inB t.b1.z 0 100000) = _ from z5])
                      go_roundw
                      case rel => exact ⟨2, by go_num, by omega, HN.out, below_then hbi hb2⟩
                      case measure => simp [intOf]
                  · cases z5 : blkB t.b2
                    case false =>
                      have HB : Hid (badN t = 9) := badN_at (by omega) HQ.out z5
                      go_wp2_with (go_at_call 63; refine (validBlock_any _ _ _ _).mono ?_; rintro e w2 ⟨rfl, hb2⟩; rw [show (inB t.b2.x 0 1000000 && inB t.b2.y 0 100000 && inB t.b2.z 0 100000) = _ from z5])
                      go_ret
                      exact ⟨ret_int (by rw [HB.out]; rfl), below_then BI hb2⟩
                    case true =>
                      have HN : Hid (∀ j, j < 7 + 3 → lineB t j = true) := lineB_case (n := 9) HQ.out z5
                      go_wp2_with (go_at_call 63; refine (validBlock_any _ _ _ _).mono ?_; rintro e w2 ⟨rfl, hb2⟩; rw [show (inB t.b2.x 0 1000000 && inB t.b2.y 0 100000 && inB t.b2.z 0 100000) = _ from z5])
                      go_roundw
                      case rel => exact ⟨3, by go_num, by omega, HN.out, below_then hbi hb2⟩
                      case measure => simp [intOf]
                  · have hwi : w.heap.size < wr.heap.size := by omega
                    cases y0 : dmdB t.d
                    case false =>
                      have HB : Hid (badN t = 10) := badN_at (by omega) HQ.out y0
                      go_wp2_with (first | (go_at_call 64; refine (validDemand_any _ _ _ _).mono ?_; rintro e w2 ⟨rfl, hb2⟩; obtain ⟨hc2, hf2⟩ := bcell hb2; rw [show (inB t.d.x 0 1000000 && inB t.d.y 0 100 && inB t.d.z 0 12) = _ from y0]) | (go_at_call 54; refine (within_any _ _ _ _).mono ?_; rintro e wq ⟨rfl, hq⟩; have hq2 := hq.symm; subst hq2))
                      go_ret
                      exact ⟨ret_int (by rw [HB.out]; rfl), below_then BI hb2⟩
                    case true =>
                      have Q1 : Hid (∀ j, j < 11 → lineB t j = true) := lineB_case (n := 10) HQ.out y0
                      cases y1 : inB t.np 0 100000
                      case false =>
                        have HB : Hid (badN t = 11) := badN_at (by omega) Q1.out (by show (inB t.np 0 100000 && inB t.nn 0 12) = false; rw [y1]; rfl)
                        go_wp2_with (first | (go_at_call 64; refine (validDemand_any _ _ _ _).mono ?_; rintro e w2 ⟨rfl, hb2⟩; obtain ⟨hc2, hf2⟩ := bcell hb2; rw [show (inB t.d.x 0 1000000 && inB t.d.y 0 100 && inB t.d.z 0 12) = _ from y0]) | (go_at_call 54; refine (within_any _ _ _ _).mono ?_; rintro e wq ⟨rfl, hq⟩; have hq2 := hq.symm; subst hq2))
                        go_ret
                        exact ⟨ret_int (by rw [HB.out]; rfl), below_then BI hb2⟩
                      case true =>
                        cases y2 : inB t.nn 0 12
                        case false =>
                          have HB : Hid (badN t = 11) := badN_at (by omega) Q1.out (by show (inB t.np 0 100000 && inB t.nn 0 12) = false; rw [y1, y2]; rfl)
                          go_wp2_with (first | (go_at_call 64; refine (validDemand_any _ _ _ _).mono ?_; rintro e w2 ⟨rfl, hb2⟩; obtain ⟨hc2, hf2⟩ := bcell hb2; rw [show (inB t.d.x 0 1000000 && inB t.d.y 0 100 && inB t.d.z 0 12) = _ from y0]) | (go_at_call 54; refine (within_any _ _ _ _).mono ?_; rintro e wq ⟨rfl, hq⟩; have hq2 := hq.symm; subst hq2))
                          go_ret
                          exact ⟨ret_int (by rw [HB.out]; rfl), below_then BI hb2⟩
                        case true =>
                          have Q2 : Hid (∀ j, j < 12 → lineB t j = true) := lineB_case (n := 11) Q1.out (by show (inB t.np 0 100000 && inB t.nn 0 12) = true; rw [y1, y2]; rfl)
                          cases y3 : inB t.fix 0 1000000
                          case false =>
                            have HB : Hid (badN t = 12) := badN_at (by omega) Q2.out (by show (inB t.fix 0 1000000 && inB t.min 0 1000000 && inB t.tax 0 1000) = false; rw [y3]; rfl)
                            go_wp2_with (first | (go_at_call 64; refine (validDemand_any _ _ _ _).mono ?_; rintro e w2 ⟨rfl, hb2⟩; obtain ⟨hc2, hf2⟩ := bcell hb2; rw [show (inB t.d.x 0 1000000 && inB t.d.y 0 100 && inB t.d.z 0 12) = _ from y0]) | (go_at_call 54; refine (within_any _ _ _ _).mono ?_; rintro e wq ⟨rfl, hq⟩; have hq2 := hq.symm; subst hq2))
                            go_ret
                            exact ⟨ret_int (by rw [HB.out]; rfl), below_then BI hb2⟩
                          case true =>
                            cases y4 : inB t.min 0 1000000
                            case false =>
                              have HB : Hid (badN t = 12) := badN_at (by omega) Q2.out (by show (inB t.fix 0 1000000 && inB t.min 0 1000000 && inB t.tax 0 1000) = false; rw [y3, y4]; rfl)
                              go_wp2_with (first | (go_at_call 64; refine (validDemand_any _ _ _ _).mono ?_; rintro e w2 ⟨rfl, hb2⟩; obtain ⟨hc2, hf2⟩ := bcell hb2; rw [show (inB t.d.x 0 1000000 && inB t.d.y 0 100 && inB t.d.z 0 12) = _ from y0]) | (go_at_call 54; refine (within_any _ _ _ _).mono ?_; rintro e wq ⟨rfl, hq⟩; have hq2 := hq.symm; subst hq2))
                              go_ret
                              exact ⟨ret_int (by rw [HB.out]; rfl), below_then BI hb2⟩
                            case true =>
                              cases y5 : inB t.tax 0 1000
                              case false =>
                                have HB : Hid (badN t = 12) := badN_at (by omega) Q2.out (by show (inB t.fix 0 1000000 && inB t.min 0 1000000 && inB t.tax 0 1000) = false; rw [y3, y4, y5]; rfl)
                                go_wp2_with (first | (go_at_call 64; refine (validDemand_any _ _ _ _).mono ?_; rintro e w2 ⟨rfl, hb2⟩; obtain ⟨hc2, hf2⟩ := bcell hb2; rw [show (inB t.d.x 0 1000000 && inB t.d.y 0 100 && inB t.d.z 0 12) = _ from y0]) | (go_at_call 54; refine (within_any _ _ _ _).mono ?_; rintro e wq ⟨rfl, hq⟩; have hq2 := hq.symm; subst hq2))
                                go_ret
                                exact ⟨ret_int (by rw [HB.out]; rfl), below_then BI hb2⟩
                              case true =>
                                have HB : Hid (badN t = 13) := badN_all (lineB_case (n := 12) Q2.out (by show (inB t.fix 0 1000000 && inB t.min 0 1000000 && inB t.tax 0 1000) = true; rw [y3, y4, y5]; rfl))
                                go_wp2_with (first | (go_at_call 64; refine (validDemand_any _ _ _ _).mono ?_; rintro e w2 ⟨rfl, hb2⟩; obtain ⟨hc2, hf2⟩ := bcell hb2; rw [show (inB t.d.x 0 1000000 && inB t.d.y 0 100 && inB t.d.z 0 12) = _ from y0]) | (go_at_call 54; refine (within_any _ _ _ _).mono ?_; rintro e wq ⟨rfl, hq⟩; have hq2 := hq.symm; subst hq2))
                                go_ret
                                exact ⟨ret_int (by rw [HB.out]; rfl), below_then BI hb2⟩

end Go.Proofs.YtjaffmmocbplaabGreatDoor
