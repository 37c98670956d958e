/-
  The walks of the program's scanner: numbers.
-/
import Derived.Test.YtjaffmmocbplaaaDoorScanW
namespace Go.Proofs.YtjaffmmocbplaaaDoor
open Go.RowKit
set_option linter.unusedVariables false

/-- what number makes of the scanner -/
theorem runD_step {t : ByteArray} {k p : Nat} {n : Int} (h : Txt.digB (Txt.byteAt t p) = true) : Txt.runD t (k + 1) p n = Txt.runD t k (p + 1) (n * 10 + (Txt.byteAt t p - 48)) := by
  show (if _ then _ else _) = _
  rw [if_pos h]
theorem runD_stop {t : ByteArray} {k p : Nat} {n : Int} (h : Txt.digB (Txt.byteAt t p) = false) : Txt.runD t k p n = (n, p) := by
  cases k with
  | zero => rfl
  | succ k => show (if _ then _ else _) = _; rw [if_neg (by simp [h])]
theorem byte_sub (c : UInt8) (h : 48 ≤ (c.toNat : Int)) : IntKind.u8.wrap ((c.toNat : Int) - 48) = (c.toNat : Int) - 48 := by
  have := UInt8.toNat_lt c
  simp [IntKind.wrap, IntKind.bits, IntKind.signed]; omega

set_option maxHeartbeats 1000000 in
theorem upTo_any (m : Nat) (hm : m ≤ 15) (t : ByteArray) (s : Txt.Sc) (b : Nat) (w : World) (h : ScanAt w b t s) (hs : s.pos ≤ t.size) (ht : t.size ≤ 100000) :
    Calls Tryd.prog 97 #[.pointer (some ⟨b, 0, none⟩), .int .i64 m] w fun e w' => e = .returned (.int .i64 (Txt.num t m s).1) ∧ w.grownBy w' (some b) ∧ ScanAt w' b t (Txt.num t m s).2 := by
  have hsee := fun w h => sees_any t s 48 b w h (by omega) ht
  have hdig := fun w h => seesDigit_any t s b w h ht
  have h' := h
  obtain ⟨hlt, h0, h1, h2, g1, g2⟩ := h'
  cases hq : Txt.seesB t s 48
  case true =>
    obtain ⟨q1, q2⟩ := Txt.seesB_iff.mp hq
    have e : Txt.num t m s = (0, ⟨s.pos + 1, s.bad⟩) := by unfold Txt.num; rw [if_neg (by simp [q1]), if_pos q2, q1]
    rw [e]
    clear e q1 q2
    go_enter Tryd.func97, Tryd.ntmps97
    go_wp2_with (go_at_call 76; refine (hsee _ h).mono ?_; rintro e w1 ⟨rfl, n1, rfl⟩)
    go_ret
    exact ⟨rfl, grown_setCell (grown_drewN (grown_refl _ _) _) _, (h.drewN _).moved _ _ (by omega)⟩
  case false =>
    cases hd : Txt.digitB t s
    case false =>
      have e : Txt.num t m s = (0, ⟨s.pos, true⟩) := by
        unfold Txt.num
        cases hb : s.bad
        · have n48 : ¬ Txt.byteAt t s.pos = 48 := by simpa [Txt.seesB, hb] using hq
          have nd : Txt.digB (Txt.byteAt t s.pos) = false := by simpa [Txt.digitB, hb] using hd
          rw [if_neg (by simp), if_neg n48, if_neg (by simp [nd])]
        · rw [if_pos rfl, ← hb]
      rw [e]
      clear e
      go_enter Tryd.func97, Tryd.ntmps97
      go_wp2_with (first | (go_at_call 76; refine (hsee _ h).mono ?_; rintro e w1 ⟨rfl, n1, rfl⟩) | (go_at_call 106; refine (hdig _ (h.drewN _)).mono ?_; rintro e w1 ⟨rfl, n2, rfl⟩))
      go_ret
      exact ⟨rfl, grown_setCell (grown_drewN (grown_refl _ _) _) _, (h.drewN _).gone true⟩
    case true =>
      have hb : s.bad = false := by cases g : s.bad; rfl; simp [Txt.digitB, g] at hd
      have hd1 : Txt.digB (Txt.byteAt t s.pos) = true := by simpa [Txt.digitB, hb] using hd
      have n48 : ¬ Txt.byteAt t s.pos = 48 := by simpa [Txt.seesB, hb] using hq
      obtain ⟨R, hR⟩ : ∃ R, R = Txt.runD t m s.pos 0 := ⟨_, rfl⟩
      have e : Txt.num t m s = (R.1, ⟨R.2, false⟩) := by unfold Txt.num; rw [if_neg (by simp [hb]), if_neg n48, if_pos hd1, hR]
      rw [e]
      have HR : Hid (Txt.runD t m s.pos 0 = R) := hR.symm
      clear e hR n48 hd1
      go_enter Tryd.func97, Tryd.ntmps97
      go_wp2_with (first | (go_at_call 76; refine (hsee _ h).mono ?_; rintro e w1 ⟨rfl, n1, rfl⟩) | (go_at_call 106; refine (hdig _ (h.drewN _)).mono ?_; rintro e w1 ⟨rfl, n2, rfl⟩))
      go_loopw [5, 6] (fun n d wr => ∃ (k p : Nat) (x : Int), d = .int .i64 k ∧ k ≤ m ∧ n = .int .i64 x ∧ 0 ≤ x ∧ x < 10 ^ k ∧ p ≤ t.size ∧ Txt.runD t (m - k) p x = R ∧ w.grownBy wr (some b) ∧ ScanAt wr b t ⟨p, false⟩) (fun _ d _ => m - (intOf d).toNat)
      case atStart =>
        exact ⟨0, s.pos, 0, rfl, by omega, rfl, by omega, by simp, hs, HR.out, grown_drewN (grown_refl _ _) _, by have := h.drewN (n1 + n2); rw [← hb]; exact this⟩
      case round =>
        obtain ⟨k, p, x, rfl, hk, rfl, hx0, hx1, hp, hrun, hg, hsc⟩ := hrel
        have hdig2 := fun w h => seesDigit_any t ⟨p, false⟩ b w h ht
        have hsc' := hsc
        obtain ⟨klt, k0, k1, k2, kg1, kg2⟩ := hsc'
        have hx2 : x < 1000000000000000 := by
          have : (10 : Int) ^ k ≤ 10 ^ 15 := Txt.pow_le10 (by omega)
          omega
        have HX : Hid (x < 10 ^ k) := hx1
        clear hx1
        by_cases hk9 : k < m
        · have hk9' : (k : Int) < (m : Int) := by omega
          cases hd2 : Txt.digitB t ⟨p, false⟩
          case true =>
            have hdb : Txt.digB (Txt.byteAt t p) = true := by simpa [Txt.digitB] using hd2
            have hdi := Txt.digB_iff.mp hdb
            have hplt : p < t.size := Txt.lt_of_byteAt (by omega)
            have hplt' : (p : Int) < (t.size : Int) := by omega
            have eb := Txt.byteAt_lt hplt
            have HS : Hid (Txt.runD t (m - (k + 1)) (p + 1) (x * 10 + ((t[p].toNat : Int) - 48)) = R) := by
              have : m - k = (m - (k + 1)) + 1 := by omega
              rw [this, runD_step hdb, eb] at hrun; exact hrun
            have hc48 : 48 ≤ (t[p].toNat : Int) ∧ (t[p].toNat : Int) ≤ 57 := by rw [← eb]; exact hdi
            clear hrun eb hdi hdb
            go_wp2_with (go_at_call 106; refine (hdig2 _ hsc).mono ?_; rintro e w1 ⟨rfl, n3, rfl⟩)
            go_quiet (fail)
            go_wp2_with fail
            go_roundw
            case rel =>
              refine ⟨k + 1, p + 1, x * 10 + ((t[p].toNat : Int) - 48), by go_num, by omega, rfl, by omega, ?_, by omega, HS.out, grown_setCell (grown_drewN hg _) _, (hsc.drewN _).moved _ _ (by omega)⟩
              rw [Int.pow_succ]; have := HX.out; omega
            case measure => simp [intOf]; omega
          case false =>
            have hdb : Txt.digB (Txt.byteAt t p) = false := by simpa [Txt.digitB] using hd2
            have HS : Hid ((x, p) = R) := by rw [runD_stop hdb] at hrun; exact hrun
            clear hrun hdb
            go_wp2_with (go_at_call 106; refine (hdig2 _ hsc).mono ?_; rintro e w1 ⟨rfl, n3, rfl⟩)
            go_ret
            exact ⟨ret_int (by rw [← HS.out]), grown_drewN hg _, by rw [← HS.out]; exact hsc.drewN _⟩
        · have h9 : ¬ (k : Int) < (m : Int) := by omega
          have HS : Hid ((x, p) = R) := by
            have e0 : m - k = 0 := by omega
            rw [e0] at hrun; exact hrun
          clear hrun
          go_wp2_with fail
          go_ret
          exact ⟨ret_int (by rw [← HS.out]), hg, by rw [← HS.out]; exact hsc⟩

set_option maxHeartbeats 400000 in
theorem number_any (t : ByteArray) (s : Txt.Sc) (b : Nat) (w : World) (h : ScanAt w b t s) (hs : s.pos ≤ t.size) (ht : t.size ≤ 100000) :
    Calls Tryd.prog 78 #[.pointer (some ⟨b, 0, none⟩)] w fun e w' => e = .returned (.int .i64 (Txt.num t 9 s).1) ∧ w.grownBy w' (some b) ∧ ScanAt w' b t (Txt.num t 9 s).2 := by
  go_enter Tryd.func78, Tryd.ntmps78
  go_wp2_with (go_at_call 97; refine (upTo_any 9 (by omega) t s b _ h hs ht).mono ?_; rintro e w1 ⟨rfl, g1, s1⟩)
  go_ret
  exact ⟨rfl, g1, s1⟩

set_option maxHeartbeats 400000 in
theorem field_any (t : ByteArray) (s : Txt.Sc) (b : Nat) (w : World) (h : ScanAt w b t s) (hs : s.pos ≤ t.size) (ht : t.size ≤ 100000) :
    Calls Tryd.prog 45 #[.pointer (some ⟨b, 0, none⟩)] w fun e w' => e = .returned (.int .i64 (Txt.field t 9 s).1) ∧ w.grownBy w' (some b) ∧ ScanAt w' b t (Txt.field t 9 s).2 := by
  go_enter Tryd.func45, Tryd.ntmps45
  go_wp2_with (first | (go_at_call 44; refine (take_any t s 32 b _ h (by omega) hs ht).mono ?_; rintro e w1 ⟨rfl, g1, s1⟩) | (go_at_call 78; refine (number_any t _ b _ s1 (Txt.take_le (by omega) hs) ht).mono ?_; rintro e w2 ⟨rfl, g2, s2⟩))
  go_ret
  exact ⟨rfl, grown_trans g1 g2, s2⟩

end Go.Proofs.YtjaffmmocbplaaaDoor
