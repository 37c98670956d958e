/-
  The walks on the letters of a tariff: the document's pen; are 24 letters valid; blocks and demand.
-/
import Derived.Test.YtjaffmmocbplaaaHourW
namespace Go.Proofs.Ytjaffmmocbplaaa
open Go.RowKit
set_option linter.unusedVariables false

theorem cls_bad {t : ByteArray} {s : Txt.Sc} (h : s.bad = true) : (cls t s).2 = s := by
  unfold cls; rw [if_neg (by simp [h])]; show (⟨s.pos, true⟩ : Txt.Sc) = s; rw [← h]
theorem chS_bad {t : ByteArray} {s : Txt.Sc} {k : Nat} (h : (chS t s k).bad = true) : ∀ n, chS t s (k + n) = chS t s k
  | 0 => rfl
  | n + 1 => by show (cls t (chS t s (k + n))).2 = _; rw [chS_bad h n]; exact cls_bad h
theorem clsB_iff {c : Int} : clsB c = true ↔ 65 ≤ c ∧ c ≤ 67 := by simp [clsB]; omega
theorem cls_good {t : ByteArray} {s : Txt.Sc} (h : s.bad = false) (g : 65 ≤ Txt.byteAt t s.pos ∧ Txt.byteAt t s.pos ≤ 67) : cls t s = (Txt.byteAt t s.pos, ⟨s.pos + 1, false⟩) := by
  unfold cls; rw [if_pos ⟨h, clsB_iff.mpr g⟩]
theorem cls_none {t : ByteArray} {s : Txt.Sc} (g : ¬ (65 ≤ Txt.byteAt t s.pos ∧ Txt.byteAt t s.pos ≤ 67)) : cls t s = (0, ⟨s.pos, true⟩) := by
  unfold cls; rw [if_neg (fun q => g (clsB_iff.mp q.2))]
theorem cls_mono {t : ByteArray} {s : Txt.Sc} : s.pos ≤ (cls t s).2.pos := by unfold cls; split <;> simp
theorem chS_mono {t : ByteArray} {s : Txt.Sc} : ∀ n, s.pos ≤ (chS t s n).pos
  | 0 => Nat.le_refl _
  | n + 1 => Nat.le_trans (chS_mono n) cls_mono

set_option maxRecDepth 1000000 in
set_option maxHeartbeats 1000000 in
theorem penHours_any (t : ByteArray) (s : Txt.Sc) (b : Nat) (w : World) (hK : PenAt w b t s) (hs : s.pos ≤ t.size) (ht : t.size ≤ 100000) :
    Calls Try.prog 63 #[.pointer (some ⟨b, 0, none⟩)] w fun e w' => e = .returned (.string (t.extract (Txt.take t (Txt.take t s 87) 32).pos (chS t (Txt.take t (Txt.take t s 87) 32) 24).pos)) ∧ w.grownBy w' (some b) ∧ PenAt w' b t (Txt.take t (chS t (Txt.take t (Txt.take t s 87) 32) 24) 10) := by
  have l2 : (Txt.take t (Txt.take t s 87) 32).pos ≤ t.size := Txt.take_le (by omega) (Txt.take_le (by omega) hs)
  have lt0 : ∀ W, PenAt W b t s → Calls Try.prog 80 #[.pointer (some ⟨b, 0, none⟩), .string ⟨#[87, 32]⟩] W fun e w' => e = .returned (.tuple #[]) ∧ W.grownBy w' (some b) ∧ PenAt w' b t (Txt.take t (Txt.take t s 87) 32) := fun W h => lit_any t s ⟨#[87, 32]⟩ b W h hs ht (by show 2 ≤ 1000; omega)
  obtain ⟨Q, hQ⟩ : ∃ Q, Q = Txt.take t (Txt.take t s 87) 32 := ⟨_, rfl⟩
  rw [← hQ] at l2 lt0 ⊢
  clear hQ
  have lt1 : ∀ W, PenAt W b t (chS t Q 24) → Calls Try.prog 80 #[.pointer (some ⟨b, 0, none⟩), .string ⟨#[10]⟩] W fun e w' => e = .returned (.tuple #[]) ∧ W.grownBy w' (some b) ∧ PenAt w' b t (Txt.take t (chS t Q 24) 10) := fun W h => lit1_any t _ 10 b W h (chS_le l2 24) ht
  go_enter Try.func63, Try.ntmps63
  go_wp2_with (go_at_call 80; refine (lt0 _ hK).mono ?_; rintro e w1 ⟨rfl, g1, s1⟩; have q1 := s1.c1)
  go_loopw [4] (fun i wr => ∃ k : Nat, i = .int .i64 k ∧ k ≤ 24 ∧ w.grownBy wr (some b) ∧ PenAt wr b t (chS t Q k)) (fun i _ => 24 - (intOf i).toNat)
  case atStart => exact ⟨0, rfl, by omega, g1, s1⟩
  case round =>
    clear g1 s1 q1 lt0
    obtain ⟨k, rfl, hk, hg, hsc⟩ := hrel
    have hle := chS_le l2 k
    have hmo := chS_mono (t := t) (s := Q) k
    have hsc' := hsc
    obtain ⟨klt, k0, k1, k2, kf1, kf2⟩ := hsc'
    by_cases hlt : k < 24
    · have hlt' : (k : Int) < 24 := by omega
      cases hb : (chS t Q k).bad
      case false =>
        obtain ⟨c, hc⟩ : ∃ c, c = Txt.byteAt t (chS t Q k).pos := ⟨_, rfl⟩
        have hah : ∀ w1, PenAt w1 b t (chS t Q k) → Calls Try.prog 55 #[.pointer (some ⟨b, 0, none⟩)] w1 fun e w' => e = .returned (.int .i64 c) ∧ ∃ n, w' = w1.drewN n := fun w1 h1 => by rw [hc]; exact ahead_any t (chS t Q k) b w1 h1 ht
        have hfa := fun w h => fail_any t (chS t Q k) b w h
        rw [badI_false hb] at k2
        by_cases hcc : 65 ≤ c ∧ c ≤ 67
        · have HS : Hid (chS t Q (k + 1) = ⟨(chS t Q k).pos + 1, false⟩) := by show (cls t (chS t Q k)).2 = _; rw [cls_good hb (by rw [← hc]; exact hcc)]
          obtain ⟨c1, c2⟩ := hcc
          clear hc
          go_wp2_with (go_at_call 55; refine (hah _ hsc).mono ?_; rintro e w2 ⟨rfl, n1, rfl⟩)
          go_roundw
          case rel => exact ⟨k + 1, by go_num, by omega, grown_setCell (grown_drewN hg _) _, by rw [HS.out]; exact (hsc.drewN _).moved hb _ _ (by omega)⟩
          case measure => simp [intOf]; omega
        · have HS : Hid (chS t Q (k + 1) = ⟨(chS t Q k).pos, true⟩) := by show (cls t (chS t Q k)).2 = _; rw [cls_none (by rw [← hc]; exact hcc)]
          clear hc
          by_cases hc1 : 65 ≤ c
          all_goals
            try (have hc2 : 67 < c := by omega)
            clear hcc
            go_wp2_with (first | (go_at_call 55; refine (hah _ hsc).mono ?_; rintro e w2 ⟨rfl, n1, rfl⟩) | (go_at_call 82; refine (hfa _ (hsc.drewN _)).mono ?_; rintro e w3 ⟨rfl, g3, s3⟩))
            go_roundw
            case rel => exact ⟨k + 1, by go_num, by omega, grown_trans (grown_drewN hg _) g3, by rw [HS.out]; exact s3⟩
            case measure => simp [intOf]; omega
      case true =>
        have hend : chS t Q 24 = chS t Q k := by
          have := chS_bad hb (24 - k)
          rw [show k + (24 - k) = 24 by omega] at this; exact this
        rw [badI_true hb] at k2
        have hng : ¬ ((chS t Q k).pos : Int) < 0 := by omega
        rw [hend] at lt1
        have HEND : Hid (chS t Q 24 = chS t Q k) := hend
        have b1 : (0 : Int) ≤ (Q.pos : Int) := by omega
        have b2 : (Q.pos : Int) ≤ ((chS t Q k).pos : Int) := by omega
        have b3 : ((chS t Q k).pos : Int) ≤ (t.size : Int) := by omega
        clear hend
        go_wp2_with fail
        go_quiet (fail)
        go_wp2_with (go_at_call 80; refine (lt1 _ (hsc.drewN _)).mono ?_; rintro e w2 ⟨rfl, g2, s2⟩)
        go_ret
        exact ⟨by rw [HEND.out]; simp, grown_trans (grown_drewN hg _) g2, by rw [HEND.out]; exact s2⟩
    · have hk24 : k = 24 := by omega
      subst hk24
      have b1 : (0 : Int) ≤ (Q.pos : Int) := by omega
      have b2 : (Q.pos : Int) ≤ ((chS t Q 24).pos : Int) := by omega
      have b3 : ((chS t Q 24).pos : Int) ≤ (t.size : Int) := by omega
      go_wp2_with fail
      go_quiet (fail)
      go_wp2_with (go_at_call 80; refine (lt1 _ (hsc.drewN _)).mono ?_; rintro e w2 ⟨rfl, g2, s2⟩)
      go_ret
      exact ⟨by simp, grown_trans (grown_drewN hg _) g2, s2⟩

def hoursB (u : ByteArray) : Bool := decide (u.size = 24) && (u.data.toList.all fun c => clsB (c.toNat : Int))
theorem hours_take {u : ByteArray} {k : Nat} (h : k < u.size) : (u.data.toList.take (k + 1)).all (fun c => clsB (c.toNat : Int)) = ((u.data.toList.take k).all (fun c => clsB (c.toNat : Int)) && clsB (u[k].toNat : Int)) := by
  have hk : k < u.data.toList.length := by simpa using h
  rw [List.take_add_one, List.getElem?_eq_getElem hk]; simp; rfl
theorem hours_no {u : ByteArray} {k : Nat} (h : k < u.size) (g : clsB (u[k].toNat : Int) = false) : hoursB u = false := by
  have hk : k < u.data.toList.length := by simpa using h
  have : (u.data.toList.all fun c => clsB (c.toNat : Int)) = false := by
    rw [List.all_eq_false]
    exact ⟨u.data.toList[k], List.getElem_mem hk, by have e : u.data.toList[k] = u[k] := (by simp; rfl); rw [e, g]; simp⟩
  simp [hoursB, this]

set_option maxHeartbeats 1000000 in
theorem validHours_any (u : ByteArray) (w : World) (hu : u.size ≤ maxLen) :
    Calls Try.prog 88 #[.string u] w fun e w' => e = .returned (.bool (hoursB u)) ∧ w' = w := by
  unfold maxLen at hu
  by_cases h24 : u.size = 24
  · have hB : ((u.size : Int) != 24) = false := by simp; omega
    have HB : Hid (hoursB u = (u.data.toList.all fun c => clsB (c.toNat : Int))) := by show _ = _; simp [hoursB, h24]
    go_enter Try.func88, Try.ntmps88
    go_wp2_with fail
    go_loop [3] (fun i => ∃ k : Nat, i = .int .i64 k ∧ k ≤ u.size ∧ (u.data.toList.take k).all (fun c => clsB (c.toNat : Int)) = true) (fun i => u.size - (intOf i).toNat)
    case atStart => exact ⟨0, rfl, by omega, by simp⟩
    case round =>
      obtain ⟨k, rfl, hk, hall⟩ := hrel
      by_cases hlt : k < u.size
      · have hlt' : (k : Int) < (u.size : Int) := by omega
        have hk0 : (0 : Int) ≤ (k : Int) := by omega
        cases hc : clsB (u[k].toNat : Int)
        case true =>
          have HA : Hid ((u.data.toList.take (k + 1)).all (fun c => clsB (c.toNat : Int)) = true) := by show _ = _; rw [hours_take hlt, hall, hc]; rfl
          clear hall
          go_wp2_with (go_at_call 99; refine (isClass_any _ _).mono ?_; rintro e w' ⟨rfl, rfl⟩)
          go_round
          case rel => exact ⟨k + 1, by go_num, by omega, HA.out⟩
          case measure => simp [intOf]; omega
        case false =>
          have HA : Hid (hoursB u = false) := hours_no hlt hc
          clear hall
          go_wp2_with (go_at_call 99; refine (isClass_any _ _).mono ?_; rintro e w' ⟨rfl, rfl⟩)
          go_ret
          exact ⟨ret_bool HA.out.symm, rfl⟩
      · have hlt' : ¬ (k : Int) < (u.size : Int) := by omega
        have HA : Hid (hoursB u = true) := by show _ = _; rw [HB.out]; rw [List.take_of_length_le (by simp; omega)] at hall; exact hall
        clear hall
        go_wp2_with fail
        go_ret
        exact ⟨ret_bool HA.out.symm, rfl⟩
  · have hB : ((u.size : Int) != 24) = true := by simp; omega
    have HB : Hid (hoursB u = false) := by show _ = _; simp [hoursB, h24]
    go_enter Try.func88, Try.ntmps88
    go_wp2_with fail
    go_ret
    exact ⟨ret_bool HB.out.symm, rfl⟩

end Go.Proofs.Ytjaffmmocbplaaa
