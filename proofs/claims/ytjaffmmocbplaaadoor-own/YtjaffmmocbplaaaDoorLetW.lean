/-
  The walks on the parts of a tariff: 24 letters (the document's), blocks, demand.
-/
import Derived.Test.YtjaffmmocbplaaaDoorPenH
namespace Go.Proofs.YtjaffmmocbplaaaDoor
open Go.RowKit
set_option linter.unusedVariables false
set_option linter.unusedSimpArgs false

set_option maxHeartbeats 1000000 in
theorem letters_any (u : ByteArray) (w : World) (hu : u.size ≤ maxLen) :
    Calls Tryd.prog 80 #[.string u] w fun e w' => e = .returned (.bool (hoursB u)) ∧ w' = w := by
  unfold maxLen at hu
  by_cases h24 : u.size = 24
  · have hB : ((u.size : Int) != 24) = false := by simp; omega
    have HB : Hid (hoursB u = (u.data.toList.all fun c => clsB (c.toNat : Int))) := by show _ = _; simp [hoursB, h24]
    go_enter Tryd.func80, Tryd.ntmps80
    go_wp2_with fail
    go_loop [3] (fun i => ∃ k : Nat, i = .int .i64 k ∧ k ≤ 24 ∧ (u.data.toList.take k).all (fun c => clsB (c.toNat : Int)) = true) (fun i => 24 - (intOf i).toNat)
    case atStart => exact ⟨0, rfl, by omega, by simp⟩
    case round =>
      obtain ⟨k, rfl, hk, hall⟩ := hrel
      by_cases hlt : k < 24
      · have hlu : k < u.size := by omega
        have hlt' : (k : Int) < (u.size : Int) := by omega
        have hk0 : (0 : Int) ≤ (k : Int) := by omega
        cases hc : clsB (u[k].toNat : Int)
        case true =>
          have HA : Hid ((u.data.toList.take (k + 1)).all (fun c => clsB (c.toNat : Int)) = true) := by show _ = _; rw [hours_take hlu, hall, hc]; rfl
          obtain ⟨c1, c2⟩ := clsB_iff.mp hc
          clear hall hc
          go_wp2_with fail
          go_round
          case rel => exact ⟨k + 1, by go_num, by omega, HA.out⟩
          case measure => simp [intOf]; omega
        case false =>
          have HA : Hid (hoursB u = false) := hours_no hlu hc
          have hn : ¬ (65 ≤ (u[k].toNat : Int) ∧ (u[k].toNat : Int) ≤ 67) := fun q => by rw [clsB_iff.mpr q] at hc; cases hc
          clear hall hc
          by_cases hc1 : (u[k].toNat : Int) < 65
          all_goals
            try (have hc2 : 67 < (u[k].toNat : Int) := by omega)
            clear hn
            go_wp2_with fail
            go_ret
            exact ⟨ret_bool HA.out.symm, rfl⟩
      · have HA : Hid (hoursB u = true) := by show _ = _; rw [HB.out]; rw [List.take_of_length_le (by simp; omega)] at hall; exact hall
        clear hall
        go_wp2_with fail
        go_ret
        exact ⟨ret_bool HA.out.symm, rfl⟩
  · have hB : ((u.size : Int) != 24) = true := by simp; omega
    have HB : Hid (hoursB u = false) := by show _ = _; simp [hoursB, h24]
    go_enter Tryd.func80, Tryd.ntmps80
    go_wp2_with fail
    go_ret
    exact ⟨ret_bool HB.out.symm, rfl⟩

set_option maxHeartbeats 400000 in
theorem validBlock_any (x y z : Int) (w : World) :
    Calls Tryd.prog 73 #[.agg #[.int .i64 x, .int .i64 y, .int .i64 z]] w fun e w' => e = .returned (.bool (inB x 0 1000000 && inB y 0 100000 && inB z 0 100000)) ∧ Below w.heap.size w w' := by
  cases h1 : inB x 0 1000000 <;> cases h2 : inB y 0 100000
  all_goals
    go_enter Tryd.func73, Tryd.ntmps73
    go_wp2_with (go_at_call 51; refine (within_any _ _ _ _).mono ?_; rintro e w' ⟨rfl, rfl⟩)
    go_ret
    exact ⟨ret_bool (by simp [h1, h2]), below_more (Below.refl _ _) _⟩

set_option maxHeartbeats 400000 in
theorem validDemand_any (x y z : Int) (w : World) :
    Calls Tryd.prog 74 #[.agg #[.int .i64 x, .int .i64 y, .int .i64 z]] w fun e w' => e = .returned (.bool (inB x 0 1000000 && inB y 0 100 && inB z 0 12)) ∧ Below w.heap.size w w' := by
  cases h1 : inB x 0 1000000 <;> cases h2 : inB y 0 100
  all_goals
    go_enter Tryd.func74, Tryd.ntmps74
    go_wp2_with (go_at_call 51; refine (within_any _ _ _ _).mono ?_; rintro e w' ⟨rfl, rfl⟩)
    go_ret
    exact ⟨ret_bool (by simp [h1, h2]), below_more (Below.refl _ _) _⟩

/-- the place behind k newlines, from a on -/
def lsF (t : ByteArray) : Nat → Nat → Nat → Nat
  | 0, a, _ => a
  | f + 1, a, k => if a < t.size ∧ 0 < k then lsF t f (a + 1) (if Txt.byteAt t a = 10 then k - 1 else k) else a
def lineAt (t : ByteArray) (a k : Nat) : Nat := lsF t (t.size - a) a k
theorem lineAt_zero (t : ByteArray) (a : Nat) : lineAt t a 0 = a := by
  unfold lineAt; cases t.size - a with
  | zero => rfl
  | succ f => show (if _ then _ else _) = _; rw [if_neg (by omega)]
theorem lineAt_end {t : ByteArray} {a k : Nat} (h : ¬ a < t.size) : lineAt t a k = a := by
  unfold lineAt; rw [show t.size - a = 0 by omega]; rfl
theorem lineAt_step {t : ByteArray} {a k : Nat} (h : a < t.size) (hk : 0 < k) : lineAt t a k = lineAt t (a + 1) (if Txt.byteAt t a = 10 then k - 1 else k) := by
  unfold lineAt; rw [show t.size - a = (t.size - (a + 1)) + 1 by omega]
  show (if _ then _ else _) = _
  rw [if_pos ⟨h, hk⟩]

set_option maxHeartbeats 1000000 in
theorem lineStart_any (t : ByteArray) (k : Nat) (w : World) (ht : t.size ≤ 100000) (hk : k ≤ 100) :
    Calls Tryd.prog 49 #[.string t, .int .i64 k] w fun e w' => e = .returned (.int .i64 (lineAt t 0 k)) ∧ w' = w := by
  obtain ⟨R, hR⟩ : ∃ R, R = lineAt t 0 k := ⟨_, rfl⟩
  rw [← hR]
  have HR : Hid (lineAt t 0 k = R) := hR.symm
  clear hR
  go_enter Tryd.func49, Tryd.ntmps49
  go_wp2_with fail
  go_loop [1, 5] (fun l i => ∃ a j : Nat, i = .int .i64 a ∧ l = .int .i64 j ∧ a ≤ t.size ∧ j ≤ 100 ∧ lineAt t a j = R) (fun _ i => t.size - (intOf i).toNat)
  case atStart => exact ⟨0, k, rfl, rfl, by omega, hk, HR.out⟩
  case round =>
    obtain ⟨a, j, rfl, rfl, ha, hj, hl⟩ := hrel
    by_cases hlt : a < t.size
    · have hlt' : (a : Int) < (t.size : Int) := by omega
      have ha0 : (0 : Int) ≤ (a : Int) := by omega
      by_cases hj0 : 0 < j
      · have hj0' : (0 : Int) < (j : Int) := by omega
        have e := lineAt_step hlt hj0
        rw [Txt.byteAt_lt hlt] at e
        by_cases h10 : (t[a].toNat : Int) = 10
        · have h10B : ((t[a].toNat : Int) == 10) = true := by simpa using h10
          have HL : Hid (lineAt t (a + 1) (j - 1) = R) := by rw [if_pos h10] at e; rw [← e]; exact hl
          clear e hl h10
          go_wp2_with fail
          go_round
          case rel => exact ⟨a + 1, j - 1, by go_num, by congr 1; omega, by omega, by omega, HL.out⟩
          case measure => simp [intOf]; omega
        · have h10B : ((t[a].toNat : Int) == 10) = false := by simpa using h10
          have HL : Hid (lineAt t (a + 1) j = R) := by rw [if_neg h10] at e; rw [← e]; exact hl
          clear e hl h10
          go_wp2_with fail
          go_round
          case rel => exact ⟨a + 1, j, by go_num, rfl, by omega, by omega, HL.out⟩
          case measure => simp [intOf]; omega
      · have hj0' : ¬ (0 : Int) < (j : Int) := by omega
        have HL : Hid (a = R) := by have : j = 0 := by omega
                                    rw [this, lineAt_zero] at hl; exact hl
        clear hl
        go_wp2_with fail
        go_ret
        exact ⟨ret_int (by rw [HL.out]), rfl⟩
    · have hlt' : ¬ (a : Int) < (t.size : Int) := by omega
      have HL : Hid (a = R) := by rw [lineAt_end hlt] at hl; exact hl
      clear hl
      go_wp2_with fail
      go_ret
      exact ⟨ret_int (by rw [HL.out]), rfl⟩

/-! no newline from a on up to b -/
def noNL (t : ByteArray) (a b : Nat) : Prop := ∀ i, a ≤ i → i < b → Txt.byteAt t i ≠ 10
theorem lineAt_skip {t : ByteArray} {a k : Nat} (hk : 0 < k) : ∀ (d : Nat), a + d ≤ t.size → noNL t a (a + d) → lineAt t a k = lineAt t (a + d) k
  | 0, _, _ => rfl
  | d + 1, h, hn => by
    rw [lineAt_skip hk d (by omega) (fun i h1 h2 => hn i h1 (by omega)), lineAt_step (show a + d < t.size by omega) hk, if_neg (hn (a + d) (by omega) (by omega))]
    rfl
/-- a line: nothing but its last byte is a newline -/
theorem lineAt_line {t : ByteArray} {a b k : Nat} (hab : a ≤ b) (hb : b < t.size) (hn : noNL t a b) (h10 : Txt.byteAt t b = 10) : lineAt t a (k + 1) = lineAt t (b + 1) k := by
  obtain ⟨d, rfl⟩ := Nat.exists_eq_add_of_le hab
  rw [lineAt_skip (by omega) d (by omega) hn, lineAt_step hb (by omega), if_pos h10]
  rfl
theorem noNL_trans {t : ByteArray} {a b c : Nat} (h : noNL t a b) (h' : noNL t b c) : noNL t a c := fun i h1 h2 => by
  rcases Nat.lt_or_ge i b with g | g
  · exact h i h1 g
  · exact h' i g h2
theorem noNL_refl (t : ByteArray) (a : Nat) : noNL t a a := fun i h1 h2 => by omega
theorem noNL_take {t : ByteArray} {s : Txt.Sc} {c : Int} (hc : c ≠ 10) : noNL t s.pos (Txt.take t s c).pos := by
  unfold Txt.take; split
  · rename_i g
    intro i h1 h2
    have : i = s.pos := by simp at h2; omega
    rw [this, (Txt.seesB_iff.mp g).2]; exact hc
  · exact noNL_refl _ _
theorem noNL_runD (t : ByteArray) : ∀ (k p : Nat) (n : Int), noNL t p (Txt.runD t k p n).2
  | 0, p, n => noNL_refl _ _
  | k + 1, p, n => by
    unfold Txt.runD; split
    · rename_i g
      have g' := Txt.digB_iff.mp g
      refine noNL_trans (b := p + 1) (fun i h1 h2 => ?_) (noNL_runD t k (p + 1) _)
      have : i = p := by omega
      rw [this]; omega
    · exact noNL_refl _ _
theorem noNL_num {t : ByteArray} {k : Nat} {s : Txt.Sc} : noNL t s.pos (Txt.num t k s).2.pos := by
  unfold Txt.num; split
  · exact noNL_refl _ _
  · split
    · rename_i g
      intro i h1 h2
      have : i = s.pos := by simp at h2; omega
      rw [this, g]; omega
    · split
      · exact noNL_runD t k s.pos 0
      · exact noNL_refl _ _
theorem noNL_field {t : ByteArray} {k : Nat} {s : Txt.Sc} : noNL t s.pos (Txt.field t k s).2.pos := noNL_trans (noNL_take (by omega)) noNL_num
theorem noNL_fldS (t : ByteArray) (m : Nat) (s : Txt.Sc) : ∀ n, noNL t s.pos (fldS t m s n).pos
  | 0 => noNL_refl _ _
  | n + 1 => noNL_trans (noNL_fldS t m s n) noNL_field
theorem noNL_chS (t : ByteArray) (s : Txt.Sc) : ∀ n, noNL t s.pos (chS t s n).pos
  | 0 => noNL_refl _ _
  | n + 1 => by
    refine noNL_trans (noNL_chS t s n) ?_
    show noNL t _ (cls t (chS t s n)).2.pos
    unfold cls; split
    · rename_i g
      have g' := clsB_bd g.2
      intro i h1 h2
      have : i = (chS t s n).pos := by simp at h2; omega
      rw [this]; omega
    · exact noNL_refl _ _

end Go.Proofs.YtjaffmmocbplaaaDoor
