/-
  Reading a text from left to right, as plain mathematics: a place and whether it has gone wrong there. Nothing of the program is imported here.
-/
import Derived.Test.YtjaffmmocbplaabGreatDoorJ01
namespace Go.Proofs.YtjaffmmocbplaabGreatDoor.Txt
set_option linter.unusedVariables false

/-- the byte at a place; -1 behind the end -/
def byteAt (t : ByteArray) (i : Nat) : Int := if h : i < t.size then (t[i].toNat : Int) else -1
/-- where a reader stands, and whether it has gone wrong -/
structure Sc where
  pos : Nat
  bad : Bool
def seesB (t : ByteArray) (s : Sc) (c : Int) : Bool := !s.bad && decide (byteAt t s.pos = c)
def take (t : ByteArray) (s : Sc) (c : Int) : Sc := if seesB t s c then ⟨s.pos + 1, false⟩ else ⟨s.pos, true⟩
def digB (c : Int) : Bool := decide (48 ≤ c) && decide (c ≤ 57)
def digitB (t : ByteArray) (s : Sc) : Bool := !s.bad && digB (byteAt t s.pos)
def runD (t : ByteArray) : Nat → Nat → Int → Int × Nat
  | 0, p, n => (n, p)
  | k + 1, p, n => if digB (byteAt t p) then runD t k (p + 1) (n * 10 + (byteAt t p - 48)) else (n, p)
def num (t : ByteArray) (k : Nat) (s : Sc) : Int × Sc :=
  if s.bad then (0, s) else if byteAt t s.pos = 48 then (0, ⟨s.pos + 1, false⟩)
  else if digB (byteAt t s.pos) then ((runD t k s.pos 0).1, ⟨(runD t k s.pos 0).2, false⟩) else (0, ⟨s.pos, true⟩)
def field (t : ByteArray) (k : Nat) (s : Sc) : Int × Sc := num t k (take t s 32)
def fin (t : ByteArray) (s : Sc) : Sc := if s.pos < t.size then ⟨s.pos, true⟩ else s

theorem byteAt_lt {t : ByteArray} {i : Nat} (h : i < t.size) : byteAt t i = (t[i].toNat : Int) := by unfold byteAt; rw [dif_pos h]
theorem byteAt_ge {t : ByteArray} {i : Nat} (h : ¬ i < t.size) : byteAt t i = -1 := by unfold byteAt; rw [dif_neg h]
theorem byteAt_bd (t : ByteArray) (i : Nat) : -1 ≤ byteAt t i ∧ byteAt t i ≤ 255 := by
  unfold byteAt; split
  · have := UInt8.toNat_lt t[i]; omega
  · omega
theorem lt_of_byteAt {t : ByteArray} {i : Nat} (h : 0 ≤ byteAt t i) : i < t.size := by
  by_cases g : i < t.size
  · exact g
  · rw [byteAt_ge g] at h; omega
theorem digB_iff {c : Int} : digB c = true ↔ 48 ≤ c ∧ c ≤ 57 := by simp [digB]
theorem seesB_iff {t : ByteArray} {s : Sc} {c : Int} : seesB t s c = true ↔ s.bad = false ∧ byteAt t s.pos = c := by simp [seesB]
theorem take_le {t : ByteArray} {s : Sc} {c : Int} (hc : 0 ≤ c) (h : s.pos ≤ t.size) : (take t s c).pos ≤ t.size := by
  unfold take; split
  · rename_i g; obtain ⟨_, g⟩ := seesB_iff.mp g
    have := lt_of_byteAt (t := t) (i := s.pos) (by omega)
    show s.pos + 1 ≤ t.size; omega
  · exact h
theorem take_bad {t : ByteArray} {s : Sc} {c : Int} (h : s.bad = true) : take t s c = s := by
  unfold take; rw [if_neg (by simp [seesB, h])]; rw [← h]
theorem runD_le (t : ByteArray) : ∀ (k p : Nat) (n : Int), p ≤ t.size → p ≤ (runD t k p n).2 ∧ (runD t k p n).2 ≤ t.size
  | 0, p, n, h => ⟨Nat.le_refl _, h⟩
  | k + 1, p, n, h => by
    unfold runD; split
    · rename_i g
      have g' := digB_iff.mp g
      have := lt_of_byteAt (t := t) (i := p) (by omega)
      have := runD_le t k (p + 1) (n * 10 + (byteAt t p - 48)) (by omega)
      omega
    · exact ⟨Nat.le_refl _, h⟩
theorem pow_pos10 (k : Nat) : (0 : Int) < 10 ^ k := by
  induction k with
  | zero => simp
  | succ k ih => rw [Int.pow_succ]; omega
theorem pow_le10 {k m : Nat} (h : k ≤ m) : (10 : Int) ^ k ≤ 10 ^ m := by
  obtain ⟨d, rfl⟩ := Nat.exists_eq_add_of_le h
  clear h
  induction d with
  | zero => exact Int.le_refl _
  | succ d ih => have := pow_pos10 (k + d); rw [← Nat.add_assoc, Int.pow_succ]; omega
/-- a bound that grows with each digit -/
theorem runD_bd (t : ByteArray) : ∀ (k p : Nat) (n M : Int), 0 ≤ n → n < M → 0 ≤ (runD t k p n).1 ∧ (runD t k p n).1 < M * 10 ^ k
  | 0, p, n, M, h, h' => by unfold runD; simp; omega
  | k + 1, p, n, M, h, h' => by
    unfold runD; split
    · rename_i g
      have g' := digB_iff.mp g
      have := runD_bd t k (p + 1) (n * 10 + (byteAt t p - 48)) (M * 10) (by omega) (by omega)
      have e : M * 10 ^ (k + 1) = M * 10 * 10 ^ k := by rw [Int.pow_succ]; rw [Int.mul_assoc, Int.mul_comm 10]
      rw [e]; exact this
    · refine ⟨h, ?_⟩
      have : (1 : Int) ≤ 10 ^ (k + 1) := by have := pow_pos10 (k + 1); omega
      have h0 : 0 < M := by omega
      have := Int.mul_le_mul_of_nonneg_left this (Int.le_of_lt h0)
      show n < M * 10 ^ (k + 1)
      omega
theorem num_le {t : ByteArray} {k : Nat} {s : Sc} (h : s.pos ≤ t.size) : (num t k s).2.pos ≤ t.size := by
  unfold num; split
  · exact h
  · split
    · rename_i g; have := lt_of_byteAt (t := t) (i := s.pos) (by omega); show s.pos + 1 ≤ t.size; omega
    · split
      · exact (runD_le t k s.pos 0 h).2
      · exact h
theorem num_bd (t : ByteArray) (k : Nat) (s : Sc) : 0 ≤ (num t k s).1 ∧ (num t k s).1 < 10 ^ k := by
  have hp := pow_pos10 k
  unfold num; split
  · exact ⟨Int.le_refl _, hp⟩
  · split
    · exact ⟨Int.le_refl _, hp⟩
    · split
      · have := runD_bd t k s.pos 0 1 (by omega) (by omega)
        rw [Int.one_mul] at this; exact this
      · exact ⟨Int.le_refl _, hp⟩
theorem num_bad {t : ByteArray} {k : Nat} {s : Sc} (h : s.bad = true) : num t k s = (0, s) := by unfold num; rw [if_pos h]
theorem field_le {t : ByteArray} {k : Nat} {s : Sc} (h : s.pos ≤ t.size) : (field t k s).2.pos ≤ t.size := num_le (take_le (by omega) h)
theorem field_bd (t : ByteArray) (k : Nat) (s : Sc) : 0 ≤ (field t k s).1 ∧ (field t k s).1 < 10 ^ k := num_bd _ _ _
theorem fin_le {t : ByteArray} {s : Sc} (h : s.pos ≤ t.size) : (fin t s).pos ≤ t.size := by unfold fin; split <;> exact h
end Go.Proofs.YtjaffmmocbplaabGreatDoor.Txt
