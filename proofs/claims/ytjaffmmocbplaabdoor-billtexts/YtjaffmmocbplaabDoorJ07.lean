/-
  PenH, TrfM in one text.
-/
import Derived.Test.YtjaffmmocbplaabDoorJHourW
import Derived.Test.YtjaffmmocbplaabDoorJ06
namespace Go.Proofs.YtjaffmmocbplaabDoor
open Go.RowKit
set_option linter.unusedVariables false

theorem cls_bad {t : ByteArray} {s : Txt.Sc} (h : s.bad = true) : (cls t s).2 = s := by
  unfold cls; rw [if_neg (by simp [h])]; show (⟨s.pos, true⟩ : Txt.Sc) = s; rw [← h]
theorem chS_bad {t : ByteArray} {s : Txt.Sc} {k : Nat} (h : (chS t s k).bad = true) : ∀ n, chS t s (k + n) = chS t s k
  | 0 => rfl
  | n + 1 => by show (cls t (chS t s (k + n))).2 = _; rw [chS_bad h n]; exact cls_bad h
theorem clsB_iff {c : Int} : clsB c = true ↔ 65 ≤ c ∧ c ≤ 67 := by simp [clsB]; omega
theorem cls_good {t : ByteArray} {s : Txt.Sc} (h : s.bad = false) (g : 65 ≤ Txt.byteAt t s.pos ∧ Txt.byteAt t s.pos ≤ 67) : cls t s = (Txt.byteAt t s.pos, ⟨s.pos + 1, false⟩) := by
  unfold cls; rw [if_pos ⟨h, clsB_iff.mpr g⟩]
theorem cls_none {t : ByteArray} {s : Txt.Sc} (g : ¬ (65 ≤ Txt.byteAt t s.pos ∧ Txt.byteAt t s.pos ≤ 67)) : cls t s = (0, ⟨s.pos, true⟩) := by
  unfold cls; rw [if_neg (fun q => g (clsB_iff.mp q.2))]
theorem cls_mono {t : ByteArray} {s : Txt.Sc} : s.pos ≤ (cls t s).2.pos := by unfold cls; split <;> simp
theorem chS_mono {t : ByteArray} {s : Txt.Sc} : ∀ n, s.pos ≤ (chS t s n).pos
  | 0 => Nat.le_refl _
  | n + 1 => Nat.le_trans (chS_mono n) cls_mono

def hoursB (u : ByteArray) : Bool := decide (u.size = 24) && (u.data.toList.all fun c => clsB (c.toNat : Int))
theorem hours_take {u : ByteArray} {k : Nat} (h : k < u.size) : (u.data.toList.take (k + 1)).all (fun c => clsB (c.toNat : Int)) = ((u.data.toList.take k).all (fun c => clsB (c.toNat : Int)) && clsB (u[k].toNat : Int)) := by
  have hk : k < u.data.toList.length := by simpa using h
  rw [List.take_add_one, List.getElem?_eq_getElem hk]; simp; rfl
theorem hours_no {u : ByteArray} {k : Nat} (h : k < u.size) (g : clsB (u[k].toNat : Int) = false) : hoursB u = false := by
  have hk : k < u.data.toList.length := by simpa using h
  have : (u.data.toList.all fun c => clsB (c.toNat : Int)) = false := by
    rw [List.all_eq_false]
    exact ⟨u.data.toList[k], List.getElem_mem hk, by have e : u.data.toList[k] = u[k] := (by simp; rfl); rw [e, g]; simp⟩
  simp [hoursB, this]

set_option maxHeartbeats 1000000 in
theorem validHours_any (u : ByteArray) (w : World) (hu : u.size ≤ maxLen) :
    Calls Tryd.prog 55 #[.string u] w fun e w' => e = .returned (.bool (hoursB u)) ∧ w' = w := by
  unfold maxLen at hu
  by_cases h24 : u.size = 24
  · have hB : ((u.size : Int) != 24) = false := by simp; omega
    have HB : Hid (hoursB u = (u.data.toList.all fun c => clsB (c.toNat : Int))) := by show _ = _; simp [hoursB, h24]
    go_enter Tryd.func55, Tryd.ntmps55
    go_wp2_with fail
    go_loop [3] (fun i => ∃ k : Nat, i = .int .i64 k ∧ k ≤ u.size ∧ (u.data.toList.take k).all (fun c => clsB (c.toNat : Int)) = true) (fun i => u.size - (intOf i).toNat)
    case atStart => exact ⟨0, rfl, by omega, by simp⟩
    case round =>
      obtain ⟨k, rfl, hk, hall⟩ := hrel
      by_cases hlt : k < u.size
      · have hlt' : (k : Int) < (u.size : Int) := by omega
        have hk0 : (0 : Int) ≤ (k : Int) := by omega
        cases hc : clsB (u[k].toNat : Int)
        case true =>
          have HA : Hid ((u.data.toList.take (k + 1)).all (fun c => clsB (c.toNat : Int)) = true) := by show _ = _; rw [hours_take hlt, hall, hc]; rfl
          clear hall
          go_wp2_with (go_at_call 71; refine (isClass_any _ _).mono ?_; rintro e w' ⟨rfl, rfl⟩)
          go_round
          case rel => exact ⟨k + 1, by go_num, by omega, HA.out⟩
          case measure => simp [intOf]; omega
        case false =>
          have HA : Hid (hoursB u = false) := hours_no hlt hc
          clear hall
          go_wp2_with (go_at_call 71; refine (isClass_any _ _).mono ?_; rintro e w' ⟨rfl, rfl⟩)
          go_ret
          exact ⟨ret_bool HA.out.symm, rfl⟩
      · have hlt' : ¬ (k : Int) < (u.size : Int) := by omega
        have HA : Hid (hoursB u = true) := by show _ = _; rw [HB.out]; rw [List.take_of_length_le (by simp; omega)] at hall; exact hall
        clear hall
        go_wp2_with fail
        go_ret
        exact ⟨ret_bool HA.out.symm, rfl⟩
  · have hB : ((u.size : Int) != 24) = true := by simp; omega
    have HB : Hid (hoursB u = false) := by show _ = _; simp [hoursB, h24]
    go_enter Tryd.func55, Tryd.ntmps55
    go_wp2_with fail
    go_ret
    exact ⟨ret_bool HB.out.symm, rfl⟩

end Go.Proofs.YtjaffmmocbplaabDoor

namespace Go.Proofs.YtjaffmmocbplaabDoor
set_option linter.unusedVariables false

structure Blk where
  x : Int
  y : Int
  z : Int
structure Trf where
  z : Zon.Zn
  days : Int
  gap : Int
  first : Int
  last : Int
  h0 : ByteArray
  h1 : ByteArray
  h2 : ByteArray
  h3 : ByteArray
  b0 : Blk
  b1 : Blk
  b2 : Blk
  d : Blk
  np : Int
  nn : Int
  fix : Int
  min : Int
  tax : Int
def blkB (b : Blk) : Bool := inB b.x 0 1000000 && inB b.y 0 100000 && inB b.z 0 100000
def dmdB (b : Blk) : Bool := inB b.x 0 1000000 && inB b.y 0 100 && inB b.z 0 12
/-- is line k of the tariff as it must be? -/
def lineB (t : Trf) (k : Nat) : Bool :=
  match k with
  | 0 => Zon.zoneB t.z
  | 1 => inB t.days 1 31 && inB t.gap 0 8
  | 2 => inB t.first 1 t.last && decide (t.last ≤ 12)
  | 3 => hoursB t.h0
  | 4 => hoursB t.h1
  | 5 => hoursB t.h2
  | 6 => hoursB t.h3
  | 7 => blkB t.b0
  | 8 => blkB t.b1
  | 9 => blkB t.b2
  | 10 => dmdB t.d
  | 11 => inB t.np 0 100000 && inB t.nn 0 12
  | _ => inB t.fix 0 1000000 && inB t.min 0 1000000 && inB t.tax 0 1000
/-- the first wrong one from k on, of f -/
def firstBad (p : Nat → Bool) : Nat → Nat → Nat
  | 0, k => k
  | f + 1, k => if p k then firstBad p f (k + 1) else k
def badN (t : Trf) : Nat := firstBad (lineB t) 13 0
theorem firstBad_at {p : Nat → Bool} : ∀ (f k n : Nat), k ≤ n → n < k + f → (∀ j, k ≤ j → j < n → p j = true) → p n = false → firstBad p f k = n
  | 0, k, n, h1, h2, _, _ => by omega
  | f + 1, k, n, h1, h2, h3, h4 => by
    unfold firstBad
    rcases Nat.lt_or_ge k n with g | g
    · rw [if_pos (h3 k (by omega) g)]; exact firstBad_at f (k + 1) n (by omega) (by omega) (fun j g1 g2 => h3 j (by omega) g2) h4
    · have : n = k := by omega
      subst this; rw [h4]; rfl
theorem firstBad_all {p : Nat → Bool} : ∀ (f k : Nat), (∀ j, k ≤ j → j < k + f → p j = true) → firstBad p f k = k + f
  | 0, k, _ => rfl
  | f + 1, k, h => by
    unfold firstBad
    rw [if_pos (h k (by omega) (by omega)), firstBad_all f (k + 1) (fun j g1 g2 => h j (by omega) (by omega))]; omega
theorem badN_at {t : Trf} {n : Nat} (hn : n < 13) (h : ∀ j, j < n → lineB t j = true) (h' : lineB t n = false) : badN t = n := firstBad_at 13 0 n (by omega) (by omega) (fun j _ g => h j g) h'
theorem badN_all {t : Trf} (h : ∀ j, j < 13 → lineB t j = true) : badN t = 13 := firstBad_all 13 0 (fun j _ g => h j (by omega))
theorem firstBad_facts {p : Nat → Bool} : ∀ (f k : Nat), k ≤ firstBad p f k ∧ firstBad p f k ≤ k + f ∧ (∀ j, k ≤ j → j < firstBad p f k → p j = true) ∧ (firstBad p f k < k + f → p (firstBad p f k) = false)
  | 0, k => ⟨Nat.le_refl _, Nat.le_refl _, fun j h1 h2 => by unfold firstBad at h2; omega, fun h => by unfold firstBad at h; omega⟩
  | f + 1, k => by
    unfold firstBad
    cases g : p k
    · simp only [Bool.false_eq_true, if_false]
      exact ⟨Nat.le_refl _, by omega, fun j h1 h2 => by omega, fun _ => g⟩
    · simp only [if_true]
      obtain ⟨a, b, c, d⟩ := firstBad_facts (p := p) f (k + 1)
      refine ⟨by omega, by omega, fun j h1 h2 => ?_, fun h => d (by omega)⟩
      rcases Nat.lt_or_ge k j with q | q
      · exact c j (by omega) h2
      · have : j = k := by omega
        subst this; exact g
theorem badN_le (t : Trf) : badN t ≤ 13 := by have := (firstBad_facts (p := lineB t) 13 0).2.1; unfold badN; omega
theorem badN_good {t : Trf} {j : Nat} (h : j < badN t) : lineB t j = true := (firstBad_facts (p := lineB t) 13 0).2.2.1 j (by omega) h
theorem badN_bad {t : Trf} (h : badN t < 13) : lineB t (badN t) = false := (firstBad_facts (p := lineB t) 13 0).2.2.2 (by unfold badN at h; omega)
end Go.Proofs.YtjaffmmocbplaabDoor
