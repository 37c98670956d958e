/-
  The walks on the letters of a tariff: the document's pen; are 24 letters valid; blocks and demand.
-/
import Derived.Test.YtjaffmmocbplaaaDoorHourW
namespace Go.Proofs.YtjaffmmocbplaaaDoor
open Go.RowKit
set_option linter.unusedVariables false

theorem cls_bad {t : ByteArray} {s : Txt.Sc} (h : s.bad = true) : (cls t s).2 = s := by
  unfold cls; rw [if_neg (by simp [h])]; show (⟨s.pos, true⟩ : Txt.Sc) = s; rw [← h]
theorem chS_bad {t : ByteArray} {s : Txt.Sc} {k : Nat} (h : (chS t s k).bad = true) : ∀ n, chS t s (k + n) = chS t s k
  | 0 => rfl
  | n + 1 => by show (cls t (chS t s (k + n))).2 = _; rw [chS_bad h n]; exact cls_bad h
theorem clsB_iff {c : Int} : clsB c = true ↔ 65 ≤ c ∧ c ≤ 67 := by simp [clsB]; omega
theorem cls_good {t : ByteArray} {s : Txt.Sc} (h : s.bad = false) (g : 65 ≤ Txt.byteAt t s.pos ∧ Txt.byteAt t s.pos ≤ 67) : cls t s = (Txt.byteAt t s.pos, ⟨s.pos + 1, false⟩) := by
  unfold cls; rw [if_pos ⟨h, clsB_iff.mpr g⟩]
theorem cls_none {t : ByteArray} {s : Txt.Sc} (g : ¬ (65 ≤ Txt.byteAt t s.pos ∧ Txt.byteAt t s.pos ≤ 67)) : cls t s = (0, ⟨s.pos, true⟩) := by
  unfold cls; rw [if_neg (fun q => g (clsB_iff.mp q.2))]
theorem cls_mono {t : ByteArray} {s : Txt.Sc} : s.pos ≤ (cls t s).2.pos := by unfold cls; split <;> simp
theorem chS_mono {t : ByteArray} {s : Txt.Sc} : ∀ n, s.pos ≤ (chS t s n).pos
  | 0 => Nat.le_refl _
  | n + 1 => Nat.le_trans (chS_mono n) cls_mono

def hoursB (u : ByteArray) : Bool := decide (u.size = 24) && (u.data.toList.all fun c => clsB (c.toNat : Int))
theorem hours_take {u : ByteArray} {k : Nat} (h : k < u.size) : (u.data.toList.take (k + 1)).all (fun c => clsB (c.toNat : Int)) = ((u.data.toList.take k).all (fun c => clsB (c.toNat : Int)) && clsB (u[k].toNat : Int)) := by
  have hk : k < u.data.toList.length := by simpa using h
  rw [List.take_add_one, List.getElem?_eq_getElem hk]; simp; rfl
theorem hours_no {u : ByteArray} {k : Nat} (h : k < u.size) (g : clsB (u[k].toNat : Int) = false) : hoursB u = false := by
  have hk : k < u.data.toList.length := by simpa using h
  have : (u.data.toList.all fun c => clsB (c.toNat : Int)) = false := by
    rw [List.all_eq_false]
    exact ⟨u.data.toList[k], List.getElem_mem hk, by have e : u.data.toList[k] = u[k] := (by simp; rfl); rw [e, g]; simp⟩
  simp [hoursB, this]

set_option maxHeartbeats 1000000 in
theorem validHours_any (u : ByteArray) (w : World) (hu : u.size ≤ maxLen) :
    Calls Tryd.prog 72 #[.string u] w fun e w' => e = .returned (.bool (hoursB u)) ∧ w' = w := by
  unfold maxLen at hu
  by_cases h24 : u.size = 24
  · have hB : ((u.size : Int) != 24) = false := by simp; omega
    have HB : Hid (hoursB u = (u.data.toList.all fun c => clsB (c.toNat : Int))) := by show _ = _; simp [hoursB, h24]
    go_enter Tryd.func72, Tryd.ntmps72
    go_wp2_with fail
    go_loop [3] (fun i => ∃ k : Nat, i = .int .i64 k ∧ k ≤ u.size ∧ (u.data.toList.take k).all (fun c => clsB (c.toNat : Int)) = true) (fun i => u.size - (intOf i).toNat)
    case atStart => exact ⟨0, rfl, by omega, by simp⟩
    case round =>
      obtain ⟨k, rfl, hk, hall⟩ := hrel
      by_cases hlt : k < u.size
      · have hlt' : (k : Int) < (u.size : Int) := by omega
        have hk0 : (0 : Int) ≤ (k : Int) := by omega
        cases hc : clsB (u[k].toNat : Int)
        case true =>
          have HA : Hid ((u.data.toList.take (k + 1)).all (fun c => clsB (c.toNat : Int)) = true) := by show _ = _; rw [hours_take hlt, hall, hc]; rfl
          clear hall
          go_wp2_with (go_at_call 96; refine (isClass_any _ _).mono ?_; rintro e w' ⟨rfl, rfl⟩)
          go_round
          case rel => exact ⟨k + 1, by go_num, by omega, HA.out⟩
          case measure => simp [intOf]; omega
        case false =>
          have HA : Hid (hoursB u = false) := hours_no hlt hc
          clear hall
          go_wp2_with (go_at_call 96; refine (isClass_any _ _).mono ?_; rintro e w' ⟨rfl, rfl⟩)
          go_ret
          exact ⟨ret_bool HA.out.symm, rfl⟩
      · have hlt' : ¬ (k : Int) < (u.size : Int) := by omega
        have HA : Hid (hoursB u = true) := by show _ = _; rw [HB.out]; rw [List.take_of_length_le (by simp; omega)] at hall; exact hall
        clear hall
        go_wp2_with fail
        go_ret
        exact ⟨ret_bool HA.out.symm, rfl⟩
  · have hB : ((u.size : Int) != 24) = true := by simp; omega
    have HB : Hid (hoursB u = false) := by show _ = _; simp [hoursB, h24]
    go_enter Tryd.func72, Tryd.ntmps72
    go_wp2_with fail
    go_ret
    exact ⟨ret_bool HB.out.symm, rfl⟩

end Go.Proofs.YtjaffmmocbplaaaDoor
