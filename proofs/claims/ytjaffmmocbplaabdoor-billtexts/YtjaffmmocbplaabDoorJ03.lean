/-
  ScanN, PenN in one text.
-/
import Derived.Test.YtjaffmmocbplaabDoorJ02
namespace Go.Proofs.YtjaffmmocbplaabDoor
open Go.RowKit
set_option linter.unusedVariables false

/-- what number makes of the scanner -/
theorem runD_step {t : ByteArray} {k p : Nat} {n : Int} (h : Txt.digB (Txt.byteAt t p) = true) : Txt.runD t (k + 1) p n = Txt.runD t k (p + 1) (n * 10 + (Txt.byteAt t p - 48)) := by
  show (if _ then _ else _) = _
  rw [if_pos h]
theorem runD_stop {t : ByteArray} {k p : Nat} {n : Int} (h : Txt.digB (Txt.byteAt t p) = false) : Txt.runD t k p n = (n, p) := by
  cases k with
  | zero => rfl
  | succ k => show (if _ then _ else _) = _; rw [if_neg (by simp [h])]
theorem byte_sub (c : UInt8) (h : 48 ≤ (c.toNat : Int)) : IntKind.u8.wrap ((c.toNat : Int) - 48) = (c.toNat : Int) - 48 := by
  have := UInt8.toNat_lt c
  simp [IntKind.wrap, IntKind.bits, IntKind.signed]; omega

set_option maxHeartbeats 1000000 in
theorem upTo_any (m : Nat) (hm : m ≤ 15) (t : ByteArray) (s : Txt.Sc) (b : Nat) (w : World) (h : ScanAt w b t s) (hs : s.pos ≤ t.size) (ht : t.size ≤ 100000) :
    Calls Tryd.prog 66 #[.pointer (some ⟨b, 0, none⟩), .int .i64 m] w fun e w' => e = .returned (.int .i64 (Txt.num t m s).1) ∧ w.grownBy w' (some b) ∧ ScanAt w' b t (Txt.num t m s).2 := by
  have hsee := fun w h => sees_any t s 48 b w h (by omega) ht
  have hdig := fun w h => seesDigit_any t s b w h ht
  have h' := h
  obtain ⟨hlt, h0, h1, h2, g1, g2⟩ := h'
  cases hq : Txt.seesB t s 48
  case true =>
    obtain ⟨q1, q2⟩ := Txt.seesB_iff.mp hq
    have e : Txt.num t m s = (0, ⟨s.pos + 1, s.bad⟩) := by unfold Txt.num; rw [if_neg (by simp [q1]), if_pos q2, q1]
    rw [e]
    clear e q1 q2
    go_enter Tryd.func66, Tryd.ntmps66
    go_wp2_with (go_at_call 65; refine (hsee _ h).mono ?_; rintro e w1 ⟨rfl, n1, rfl⟩)
    go_ret
    exact ⟨rfl, grown_setCell (grown_drewN (grown_refl _ _) _) _, (h.drewN _).moved _ _ (by omega)⟩
  case false =>
    cases hd : Txt.digitB t s
    case false =>
      have e : Txt.num t m s = (0, ⟨s.pos, true⟩) := by
        unfold Txt.num
        cases hb : s.bad
        · have n48 : ¬ Txt.byteAt t s.pos = 48 := by simpa [Txt.seesB, hb] using hq
          have nd : Txt.digB (Txt.byteAt t s.pos) = false := by simpa [Txt.digitB, hb] using hd
          rw [if_neg (by simp), if_neg n48, if_neg (by simp [nd])]
        · rw [if_pos rfl, ← hb]
      rw [e]
      clear e
      go_enter Tryd.func66, Tryd.ntmps66
      go_wp2_with (first | (go_at_call 65; refine (hsee _ h).mono ?_; rintro e w1 ⟨rfl, n1, rfl⟩) | (go_at_call 84; refine (hdig _ (h.drewN _)).mono ?_; rintro e w1 ⟨rfl, n2, rfl⟩))
      go_ret
      exact ⟨rfl, grown_setCell (grown_drewN (grown_refl _ _) _) _, (h.drewN _).gone true⟩
    case true =>
      have hb : s.bad = false := by cases g : s.bad; rfl; simp [Txt.digitB, g] at hd
      have hd1 : Txt.digB (Txt.byteAt t s.pos) = true := by simpa [Txt.digitB, hb] using hd
      have n48 : ¬ Txt.byteAt t s.pos = 48 := by simpa [Txt.seesB, hb] using hq
      obtain ⟨R, hR⟩ : ∃ R, R = Txt.runD t m s.pos 0 := ⟨_, rfl⟩
      have e : Txt.num t m s = (R.1, ⟨R.2, false⟩) := by unfold Txt.num; rw [if_neg (by simp [hb]), if_neg n48, if_pos hd1, hR]
      rw [e]
      have HR : Hid (Txt.runD t m s.pos 0 = R) := hR.symm
      clear e hR n48 hd1
      go_enter Tryd.func66, Tryd.ntmps66
      go_wp2_with (first | (go_at_call 65; refine (hsee _ h).mono ?_; rintro e w1 ⟨rfl, n1, rfl⟩) | (go_at_call 84; refine (hdig _ (h.drewN _)).mono ?_; rintro e w1 ⟨rfl, n2, rfl⟩))
      go_loopw [5, 6] (fun n d wr => ∃ (k p : Nat) (x : Int), d = .int .i64 k ∧ k ≤ m ∧ n = .int .i64 x ∧ 0 ≤ x ∧ x < 10 ^ k ∧ p ≤ t.size ∧ Txt.runD t (m - k) p x = R ∧ w.grownBy wr (some b) ∧ ScanAt wr b t ⟨p, false⟩) (fun _ d _ => m - (intOf d).toNat)
      case atStart =>
        exact ⟨0, s.pos, 0, rfl, by omega, rfl, by omega, by simp, hs, HR.out, grown_drewN (grown_refl _ _) _, by have := h.drewN (n1 + n2); rw [← hb]; exact this⟩
      case round =>
        obtain ⟨k, p, x, rfl, hk, rfl, hx0, hx1, hp, hrun, hg, hsc⟩ := hrel
        have hdig2 := fun w h => seesDigit_any t ⟨p, false⟩ b w h ht
        have hsc' := hsc
        obtain ⟨klt, k0, k1, k2, kg1, kg2⟩ := hsc'
        have hx2 : x < 1000000000000000 := by
          have : (10 : Int) ^ k ≤ 10 ^ 15 := Txt.pow_le10 (by omega)
          omega
        have HX : Hid (x < 10 ^ k) := hx1
        clear hx1
        by_cases hk9 : k < m
        · have hk9' : (k : Int) < (m : Int) := by omega
          cases hd2 : Txt.digitB t ⟨p, false⟩
          case true =>
            have hdb : Txt.digB (Txt.byteAt t p) = true := by simpa [Txt.digitB] using hd2
            have hdi := Txt.digB_iff.mp hdb
            have hplt : p < t.size := Txt.lt_of_byteAt (by omega)
            have hplt' : (p : Int) < (t.size : Int) := by omega
            have eb := Txt.byteAt_lt hplt
            have HS : Hid (Txt.runD t (m - (k + 1)) (p + 1) (x * 10 + ((t[p].toNat : Int) - 48)) = R) := by
              have : m - k = (m - (k + 1)) + 1 := by omega
              rw [this, runD_step hdb, eb] at hrun; exact hrun
            have hc48 : 48 ≤ (t[p].toNat : Int) ∧ (t[p].toNat : Int) ≤ 57 := by rw [← eb]; exact hdi
            clear hrun eb hdi hdb
            go_wp2_with (go_at_call 84; refine (hdig2 _ hsc).mono ?_; rintro e w1 ⟨rfl, n3, rfl⟩)
            go_quiet (fail)
            go_wp2_with fail
            go_roundw
            case rel =>
              refine ⟨k + 1, p + 1, x * 10 + ((t[p].toNat : Int) - 48), by go_num, by omega, rfl, by omega, ?_, by omega, HS.out, grown_setCell (grown_drewN hg _) _, (hsc.drewN _).moved _ _ (by omega)⟩
              rw [Int.pow_succ]; have := HX.out; omega
            case measure => simp [intOf]; omega
          case false =>
            have hdb : Txt.digB (Txt.byteAt t p) = false := by simpa [Txt.digitB] using hd2
            have HS : Hid ((x, p) = R) := by rw [runD_stop hdb] at hrun; exact hrun
            clear hrun hdb
            go_wp2_with (go_at_call 84; refine (hdig2 _ hsc).mono ?_; rintro e w1 ⟨rfl, n3, rfl⟩)
            go_ret
            exact ⟨ret_int (by rw [← HS.out]), grown_drewN hg _, by rw [← HS.out]; exact hsc.drewN _⟩
        · have h9 : ¬ (k : Int) < (m : Int) := by omega
          have HS : Hid ((x, p) = R) := by
            have e0 : m - k = 0 := by omega
            rw [e0] at hrun; exact hrun
          clear hrun
          go_wp2_with fail
          go_ret
          exact ⟨ret_int (by rw [← HS.out]), hg, by rw [← HS.out]; exact hsc⟩

set_option maxHeartbeats 400000 in
theorem number_any (t : ByteArray) (s : Txt.Sc) (b : Nat) (w : World) (h : ScanAt w b t s) (hs : s.pos ≤ t.size) (ht : t.size ≤ 100000) :
    Calls Tryd.prog 73 #[.pointer (some ⟨b, 0, none⟩)] w fun e w' => e = .returned (.int .i64 (Txt.num t 9 s).1) ∧ w.grownBy w' (some b) ∧ ScanAt w' b t (Txt.num t 9 s).2 := by
  go_enter Tryd.func73, Tryd.ntmps73
  go_wp2_with (go_at_call 66; refine (upTo_any 9 (by omega) t s b _ h hs ht).mono ?_; rintro e w1 ⟨rfl, g1, s1⟩)
  go_ret
  exact ⟨rfl, g1, s1⟩

set_option maxHeartbeats 400000 in
theorem field_any (t : ByteArray) (s : Txt.Sc) (b : Nat) (w : World) (h : ScanAt w b t s) (hs : s.pos ≤ t.size) (ht : t.size ≤ 100000) :
    Calls Tryd.prog 59 #[.pointer (some ⟨b, 0, none⟩)] w fun e w' => e = .returned (.int .i64 (Txt.field t 9 s).1) ∧ w.grownBy w' (some b) ∧ ScanAt w' b t (Txt.field t 9 s).2 := by
  go_enter Tryd.func59, Tryd.ntmps59
  go_wp2_with (first | (go_at_call 46; refine (take_any t s 32 b _ h (by omega) hs ht).mono ?_; rintro e w1 ⟨rfl, g1, s1⟩) | (go_at_call 73; refine (number_any t _ b _ s1 (Txt.take_le (by omega) hs) ht).mono ?_; rintro e w2 ⟨rfl, g2, s2⟩))
  go_ret
  exact ⟨rfl, grown_trans g1 g2, s2⟩

end Go.Proofs.YtjaffmmocbplaabDoor

namespace Go.Proofs.YtjaffmmocbplaabDoor
open Go.RowKit
set_option linter.unusedVariables false

/-- how far the document's number has come, behind k digits of value x, at place p -/
def numSt (t : ByteArray) (m : Nat) (s : Txt.Sc) (k p : Nat) (x : Int) : Prop :=
  (k = 0 ∧ p = s.pos ∧ x = 0) ∨ (s.bad = false ∧ k = 1 ∧ x = 0 ∧ Txt.num t m s = (0, ⟨p, false⟩)) ∨
  (s.bad = false ∧ 1 ≤ k ∧ 1 ≤ x ∧ Txt.num t m s = ((Txt.runD t (m - k) p x).1, ⟨(Txt.runD t (m - k) p x).2, false⟩))

theorem num_zero {t : ByteArray} {m : Nat} {s : Txt.Sc} (hb : s.bad = false) (h : Txt.byteAt t s.pos = 48) : Txt.num t m s = (0, ⟨s.pos + 1, false⟩) := by
  unfold Txt.num; rw [if_neg (by simp [hb]), if_pos h]
theorem num_none {t : ByteArray} {m : Nat} {s : Txt.Sc} (hb : s.bad = false) (h : ¬ (48 ≤ Txt.byteAt t s.pos ∧ Txt.byteAt t s.pos ≤ 57)) : Txt.num t m s = (0, ⟨s.pos, true⟩) := by
  unfold Txt.num; rw [if_neg (by simp [hb]), if_neg (by omega), if_neg (by rw [Txt.digB_iff]; exact h)]
theorem num_some {t : ByteArray} {m : Nat} {s : Txt.Sc} (hb : s.bad = false) (hm : 1 ≤ m) (h : 49 ≤ Txt.byteAt t s.pos ∧ Txt.byteAt t s.pos ≤ 57) :
    Txt.num t m s = ((Txt.runD t (m - 1) (s.pos + 1) (Txt.byteAt t s.pos - 48)).1, ⟨(Txt.runD t (m - 1) (s.pos + 1) (Txt.byteAt t s.pos - 48)).2, false⟩) := by
  have hd : Txt.digB (Txt.byteAt t s.pos) = true := Txt.digB_iff.mpr (by omega)
  unfold Txt.num; rw [if_neg (by simp [hb]), if_neg (by omega), if_pos hd]
  obtain ⟨k, rfl⟩ : ∃ k, m = k + 1 := ⟨m - 1, by omega⟩
  rw [runD_step hd]; simp

set_option maxHeartbeats 2000000 in
theorem penNumber_any (t : ByteArray) (s : Txt.Sc) (m : Nat) (b : Nat) (w : World) (h : PenAt w b t s) (hs : s.pos ≤ t.size) (ht : t.size ≤ 100000) (hm : 2 ≤ m) (hm' : m ≤ 15) :
    Calls Tryd.prog 50 #[.pointer (some ⟨b, 0, none⟩), .int .i64 m] w fun e w' => e = .returned (.int .i64 (Txt.num t m s).1) ∧ w.grownBy w' (some b) ∧ PenAt w' b t (Txt.num t m s).2 := by
  obtain ⟨R, hR⟩ : ∃ R, R = Txt.num t m s := ⟨_, rfl⟩
  rw [← hR]
  have HR : Hid (Txt.num t m s = R) := hR.symm
  clear hR
  go_enter Tryd.func50, Tryd.ntmps50
  go_wp2_with fail
  go_loopw [5, 6] (fun n d wr => ∃ (k p : Nat) (x : Int), d = .int .i64 k ∧ k ≤ m ∧ n = .int .i64 x ∧ 0 ≤ x ∧ x < 10 ^ k ∧ p ≤ t.size ∧ numSt t m s k p x ∧ w.grownBy wr (some b) ∧ PenAt wr b t ⟨p, s.bad⟩) (fun _ d _ => m - (intOf d).toNat)
  case atStart =>
    exact ⟨0, s.pos, 0, rfl, by omega, rfl, by omega, by simp, hs, .inl ⟨rfl, rfl, rfl⟩, grown_refl _ _, h⟩
  case round =>
    obtain ⟨k, p, x, rfl, hk, rfl, hx0, hx1, hp, hst, hg, hsc⟩ := hrel
    have hx2 : x < 1000000000000000 := by
      have : (10 : Int) ^ k ≤ 10 ^ 15 := Txt.pow_le10 (by omega)
      omega
    have HX : Hid (x < 10 ^ k) := hx1
    have hsc' := hsc
    obtain ⟨klt, k0, k1, k2, kg1, kg2⟩ := hsc'
    clear hx1
    cases hb : s.bad
    case true =>
      have hk0 : k = 0 ∧ p = s.pos ∧ x = 0 := by rcases hst with q | ⟨q, _⟩ | ⟨q, _⟩ <;> simp_all
      obtain ⟨rfl, rfl, rfl⟩ := hk0
      have HE : Hid (R = (0, s)) := by rw [← HR.out]; exact Txt.num_bad hb
      have k2' : wr.cell? ⟨b, 2, none⟩ = some (.int .i64 s.pos) := by rw [k2]; simp [badI, hb]
      have hn : ¬ (s.pos : Int) < 0 := by omega
      clear k2 hst
      go_wp2_with fail
      go_ret
      exact ⟨ret_int (by rw [HE.out]), hg, by rw [HE.out]; exact hsc⟩
    case false =>
      rw [hb] at hsc
      have k2' : wr.cell? ⟨b, 2, none⟩ = some (.int .i64 (-1)) := by rw [k2]; simp [badI, hb]
      clear k2
      obtain ⟨c, hc⟩ : ∃ c, c = Txt.byteAt t p := ⟨_, rfl⟩
      have hcb : -1 ≤ c ∧ c ≤ 255 := by rw [hc]; exact Txt.byteAt_bd t p
      have hah : ∀ w1, PenAt w1 b t ⟨p, false⟩ → Calls Tryd.prog 67 #[.pointer (some ⟨b, 0, none⟩)] w1 fun e w' => e = .returned (.int .i64 c) ∧ ∃ n, w' = w1.drewN n := fun w1 h1 => by rw [hc]; exact ahead_any t ⟨p, false⟩ b w1 h1 ht
      have hfa := fun w h => fail_any t ⟨p, false⟩ b w h
      have HC : Hid (c = Txt.byteAt t p) := hc
      clear hc
      by_cases hkm : k < m
      · have hkm' : (k : Int) < (m : Int) := by omega
        rcases hst with ⟨rfl, rfl, rfl⟩ | ⟨-, rfl, rfl, hnum⟩ | ⟨-, hk1, hx3, hnum⟩
        · by_cases hd : 48 ≤ c ∧ c ≤ 57
          · obtain ⟨hd1, hd2⟩ := hd
            have hlt : s.pos < t.size := Txt.lt_of_byteAt (by rw [← HC.out]; omega)
            have HN : Hid (numSt t m s 1 (s.pos + 1) (c - 48)) := by
              by_cases h48 : c = 48
              · exact .inr (.inl ⟨hb, rfl, by omega, num_zero hb (by rw [← HC.out]; exact h48)⟩)
              · exact .inr (.inr ⟨hb, by omega, by omega, by have := num_some (m := m) hb (by omega) (t := t) (by rw [← HC.out]; omega); rw [← HC.out] at this; exact this⟩)
            go_wp2_with (go_at_call 67; refine (hah _ hsc).mono ?_; rintro e w1 ⟨rfl, n1, rfl⟩)
            go_roundw
            case rel =>
              refine ⟨1, s.pos + 1, c - 48, by go_num, by omega, by go_num, by omega, by omega, by omega, HN.out, grown_setCell (grown_drewN hg _) _, ?_⟩
              exact (hsc.drewN _).moved rfl _ _ (by omega)
            case measure => simp [intOf]; omega
          · have HE : Hid (R = (0, ⟨s.pos, true⟩)) := by rw [← HR.out]; exact num_none hb (by rw [← HC.out]; exact hd)
            by_cases hd1 : c < 48
            all_goals
              try (have hd2 : 57 < c := by omega)
              clear hd
              go_wp2_with (first | (go_at_call 67; refine (hah _ hsc).mono ?_; rintro e w1 ⟨rfl, n1, rfl⟩) | (go_at_call 51; refine (hfa _ (hsc.drewN _)).mono ?_; rintro e w2 ⟨rfl, g2, hp2⟩))
              go_ret
              exact ⟨ret_int (by rw [HE.out]), grown_trans (grown_drewN hg _) g2, by rw [HE.out]; exact hp2⟩
        · have HE : Hid (R = (0, ⟨p, false⟩)) := by rw [← HR.out]; exact hnum
          clear hnum
          by_cases hd1 : c < 48
          · go_wp2_with (first | (go_at_call 67; refine (hah _ hsc).mono ?_; rintro e w1 ⟨rfl, n1, rfl⟩))
            go_ret
            exact ⟨ret_int (by rw [HE.out]), grown_drewN hg _, by rw [HE.out]; exact hsc.drewN _⟩
          · by_cases hd2 : 57 < c
            all_goals
              go_wp2_with (first | (go_at_call 67; refine (hah _ hsc).mono ?_; rintro e w1 ⟨rfl, n1, rfl⟩))
              go_ret
              exact ⟨ret_int (by rw [HE.out]), grown_drewN hg _, by rw [HE.out]; exact hsc.drewN _⟩
        · have hx0B : ((x : Int) == 0) = false := by simp; omega
          have hk0B : ((k : Int) == 0) = false := by simp; omega
          by_cases hd : 48 ≤ c ∧ c ≤ 57
          · obtain ⟨hd1, hd2⟩ := hd
            have hlt : p < t.size := Txt.lt_of_byteAt (by rw [← HC.out]; omega)
            have hdb : Txt.digB (Txt.byteAt t p) = true := Txt.digB_iff.mpr (by rw [← HC.out]; omega)
            have HN : Hid (numSt t m s (k + 1) (p + 1) (x * 10 + c - 48)) := by
              have e1 : m - k = (m - (k + 1)) + 1 := by omega
              have e2 : x * 10 + c - 48 = x * 10 + (Txt.byteAt t p - 48) := by rw [← HC.out]; omega
              rw [e1, runD_step hdb, ← e2] at hnum
              exact .inr (.inr ⟨hb, by omega, by omega, hnum⟩)
            clear hnum hdb
            by_cases hk1B : k = 1
            · have hk1' : ((k : Int) == 1) = true := by simp; omega
              clear hk1B
              go_wp2_with (go_at_call 67; refine (hah _ hsc).mono ?_; rintro e w1 ⟨rfl, n1, rfl⟩)
              go_roundw
              case rel =>
                refine ⟨k + 1, p + 1, x * 10 + c - 48, by go_num, by omega, rfl, by omega, ?_, by omega, HN.out, grown_setCell (grown_drewN hg _) _, ?_⟩
                · rw [Int.pow_succ]; have := HX.out; omega
                · exact (hsc.drewN _).moved rfl _ _ (by omega)
              case measure => simp [intOf]; omega
            · have hk1' : ((k : Int) == 1) = false := by simp; omega
              clear hk1B
              go_wp2_with (go_at_call 67; refine (hah _ hsc).mono ?_; rintro e w1 ⟨rfl, n1, rfl⟩)
              go_roundw
              case rel =>
                refine ⟨k + 1, p + 1, x * 10 + c - 48, by go_num, by omega, rfl, by omega, ?_, by omega, HN.out, grown_setCell (grown_drewN hg _) _, ?_⟩
                · rw [Int.pow_succ]; have := HX.out; omega
                · exact (hsc.drewN _).moved rfl _ _ (by omega)
              case measure => simp [intOf]; omega
          · have hdb : Txt.digB (Txt.byteAt t p) = false := by
              cases g : Txt.digB (Txt.byteAt t p)
              · rfl
              · exact absurd (Txt.digB_iff.mp g) (by rw [← HC.out]; exact hd)
            have HE : Hid (R = (x, ⟨p, false⟩)) := by rw [← HR.out, hnum, runD_stop hdb]; rfl
            clear hnum hdb
            by_cases hd1 : c < 48
            all_goals
              try (have hd2 : 57 < c := by omega)
              clear hd
              go_wp2_with (first | (go_at_call 67; refine (hah _ hsc).mono ?_; rintro e w1 ⟨rfl, n1, rfl⟩))
              go_ret
              exact ⟨ret_int (by rw [HE.out]), grown_drewN hg _, by rw [HE.out]; exact hsc.drewN _⟩
      · have hkm' : ¬ (k : Int) < (m : Int) := by omega
        have HE : Hid (R = (x, ⟨p, false⟩)) := by
          rw [← HR.out]
          rcases hst with ⟨h1, _⟩ | ⟨_, h1, _⟩ | ⟨_, _, _, hnum⟩
          · omega
          · omega
          · rw [hnum]; have : m - k = 0 := by omega
            rw [this]; rfl
        clear hst
        go_wp2_with fail
        go_ret
        exact ⟨ret_int (by rw [HE.out]), hg, by rw [HE.out]; exact hsc⟩

end Go.Proofs.YtjaffmmocbplaabDoor
