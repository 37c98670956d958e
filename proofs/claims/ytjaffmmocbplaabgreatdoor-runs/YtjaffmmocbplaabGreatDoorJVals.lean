/-
  The values of a meter file, as plain mathematics. Nothing of the program is imported here.
-/
import Derived.Test.YtjaffmmocbplaabGreatDoorJTxt
namespace Go.Proofs.YtjaffmmocbplaabGreatDoor.Txt
set_option linter.unusedVariables false

structure Val where
  i : Int
  o : Int
  m : Bool
/-- one line of values -/
def vstep (t : ByteArray) (s : Sc) : Val × Sc :=
  if seesB t s 45 then (⟨0, 0, true⟩, take t ⟨s.pos + 1, false⟩ 10)
  else (⟨(num t 9 s).1, (field t 9 (num t 9 s).2).1, false⟩, take t (field t 9 (num t 9 s).2).2 10)
/-- where the reader stands behind n lines, and the values -/
def vS (t : ByteArray) (s : Sc) : Nat → Sc
  | 0 => s
  | n + 1 => (vstep t (vS t s n)).2
def vL (t : ByteArray) (s : Sc) : Nat → List Val
  | 0 => []
  | n + 1 => vL t s n ++ [(vstep t (vS t s n)).1]
def stopB (t : ByteArray) (s : Sc) : Bool := s.bad || decide (byteAt t s.pos = 84)

theorem vL_length (t : ByteArray) (s : Sc) : ∀ n, (vL t s n).length = n
  | 0 => rfl
  | n + 1 => by simp [vL, vL_length t s n]
theorem take_mono {t : ByteArray} {s : Sc} {c : Int} : s.pos ≤ (take t s c).pos := by unfold take; split <;> simp
theorem take_good {t : ByteArray} {s : Sc} {c : Int} (h : (take t s c).bad = false) : s.bad = false ∧ (take t s c).pos = s.pos + 1 := by
  unfold take at h ⊢; split at h
  · rename_i g; rw [if_pos g]; exact ⟨(seesB_iff.mp g).1, rfl⟩
  · cases h
theorem num_mono {t : ByteArray} {k : Nat} {s : Sc} (h : s.pos ≤ t.size) : s.pos ≤ (num t k s).2.pos := by
  unfold num; split
  · exact Nat.le_refl _
  · split
    · exact Nat.le_succ _
    · split
      · exact (runD_le t k s.pos 0 h).1
      · exact Nat.le_refl _
theorem field_mono {t : ByteArray} {k : Nat} {s : Sc} (h : s.pos ≤ t.size) : s.pos ≤ (field t k s).2.pos :=
  Nat.le_trans take_mono (num_mono (take_le (by omega) h))
theorem vstep_le {t : ByteArray} {s : Sc} (h : s.pos ≤ t.size) : (vstep t s).2.pos ≤ t.size := by
  unfold vstep; split
  · rename_i g
    have := lt_of_byteAt (t := t) (i := s.pos) (by rw [(seesB_iff.mp g).2]; omega)
    exact take_le (by omega) (by show s.pos + 1 ≤ t.size; omega)
  · exact take_le (by omega) (field_le (num_le h))
theorem vstep_adv {t : ByteArray} {s : Sc} (h : s.pos ≤ t.size) (g : (vstep t s).2.bad = false) : s.pos < (vstep t s).2.pos := by
  unfold vstep at g ⊢; split at g
  · rename_i q; rw [if_pos q]
    have := (take_good g).2
    show s.pos < (take t ⟨s.pos + 1, false⟩ 10).pos
    rw [this]; show s.pos < s.pos + 1 + 1; omega
  · rename_i q; rw [if_neg q]
    have := (take_good g).2
    show s.pos < (take t (field t 9 (num t 9 s).2).2 10).pos
    rw [this]
    have a := num_mono (t := t) (k := 9) h
    have b := field_mono (t := t) (k := 9) (num_le (k := 9) h)
    omega
theorem vS_le {t : ByteArray} {s : Sc} (h : s.pos ≤ t.size) : ∀ n, (vS t s n).pos ≤ t.size
  | 0 => h
  | n + 1 => vstep_le (vS_le h n)
theorem vstep_bd (t : ByteArray) (s : Sc) : (0 ≤ (vstep t s).1.i ∧ (vstep t s).1.i ≤ 999999999) ∧ (0 ≤ (vstep t s).1.o ∧ (vstep t s).1.o ≤ 999999999) := by
  unfold vstep; split
  · exact ⟨by show (0 : Int) ≤ 0 ∧ (0 : Int) ≤ 999999999; omega, by show (0 : Int) ≤ 0 ∧ (0 : Int) ≤ 999999999; omega⟩
  · have a := num_bd t 9 s; have b := field_bd t 9 (num t 9 s).2
    exact ⟨by show 0 ≤ (num t 9 s).1 ∧ (num t 9 s).1 ≤ 999999999; omega, by show 0 ≤ (field t 9 (num t 9 s).2).1 ∧ (field t 9 (num t 9 s).2).1 ≤ 999999999; omega⟩
/-- each line takes at least a byte: so there are no more lines than bytes -/
theorem vS_count {t : ByteArray} {s : Sc} (h : s.pos ≤ t.size) : ∀ n, (∀ k, k < n → stopB t (vS t s k) = false) → n ≤ (vS t s n).pos + 1 ∧ ((vS t s n).bad = false → n ≤ (vS t s n).pos)
  | 0, _ => ⟨by omega, fun _ => by omega⟩
  | n + 1, hn => by
    have ih := vS_count h n (fun k hk => hn k (by omega))
    have hs := hn n (by omega)
    have hb : (vS t s n).bad = false := by simp [stopB] at hs; exact hs.1
    have h2 := ih.2 hb
    have hle := vS_le h n
    by_cases g : (vS t s (n + 1)).bad = false
    · have := vstep_adv hle (t := t) g
      have e : (vS t s (n + 1)).pos = (vstep t (vS t s n)).2.pos := rfl
      exact ⟨by omega, fun _ => by omega⟩
    · refine ⟨?_, fun q => absurd q g⟩
      have a : (vS t s n).pos ≤ (vS t s (n + 1)).pos := by
        show _ ≤ (vstep t (vS t s n)).2.pos
        unfold vstep; split
        · exact Nat.le_trans (Nat.le_succ _) (take_mono (s := ⟨(vS t s n).pos + 1, false⟩))
        · exact Nat.le_trans (num_mono (k := 9) hle) (Nat.le_trans (field_mono (k := 9) (num_le hle)) take_mono)
      omega
/-- the reader stops at one place -/
theorem stop_unique {t : ByteArray} {s : Sc} {n n' : Nat} (h : ∀ k, k < n → stopB t (vS t s k) = false) (h1 : stopB t (vS t s n) = true) (h' : ∀ k, k < n' → stopB t (vS t s k) = false) (h1' : stopB t (vS t s n') = true) : n = n' := by
  rcases Nat.lt_trichotomy n n' with g | g | g
  · have := h' n g; rw [h1] at this; cases this
  · exact g
  · have := h n' g; rw [h1'] at this; cases this
end Go.Proofs.YtjaffmmocbplaabGreatDoor.Txt
