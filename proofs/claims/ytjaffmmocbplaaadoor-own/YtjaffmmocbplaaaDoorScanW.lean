/-
  The walks of the program's scanner.
-/
import Derived.Test.YtjaffmmocbplaaaDoorTxt
import Derived.Test.YtjaffmmocbplaaaDoorDateX
namespace Go.Proofs.YtjaffmmocbplaaaDoor
open Go.RowKit
set_option linter.unusedVariables false

/-- the scanner in block b -/
structure ScanAt (w : World) (b : Nat) (t : ByteArray) (s : Txt.Sc) : Prop where
  lt : b < w.heap.size
  c0 : w.cell? ⟨b, 0, none⟩ = some (.string t)
  c1 : w.cell? ⟨b, 1, none⟩ = some (.int .i64 s.pos)
  c2 : w.cell? ⟨b, 2, none⟩ = some (.bool s.bad)
  f1 : w.frozen? ⟨b, 1, none⟩ = false
  f2 : w.frozen? ⟨b, 2, none⟩ = false

theorem ret_bool {a b : Bool} (h : a = b) : Ending.returned (.bool a) = .returned (.bool b) := by rw [h]
theorem ScanAt.drewN {w : World} {b : Nat} {t : ByteArray} {s : Txt.Sc} (h : ScanAt w b t s) (n : Nat) : ScanAt (w.drewN n) b t s := ⟨h.lt, h.c0, h.c1, h.c2, h.f1, h.f2⟩
theorem grown_refl (w : World) (r : Option Nat) : w.grownBy w r := ⟨rfl, rfl, rfl, Nat.le_refl _, fun _ _ _ => rfl⟩
theorem grown_trans {a b c : World} {r : Option Nat} (h : a.grownBy b r) (h' : b.grownBy c r) : a.grownBy c r :=
  ⟨h'.os.trans h.os, h'.tape.trans h.tape, h'.output.trans h.output, Nat.le_trans h.size h'.size, fun k hk hr => (h'.block k (Nat.lt_of_lt_of_le hk h.size) hr).trans (h.block k hk hr)⟩
theorem grown_drewN {a b : World} {r : Option Nat} (h : a.grownBy b r) (n : Nat) : a.grownBy (b.drewN n) r := grown_trans h ⟨rfl, rfl, rfl, Nat.le_refl _, fun _ _ _ => rfl⟩
theorem grown_setCell {a w : World} {b o : Nat} (h : a.grownBy w (some b)) (u : Value) : a.grownBy (w.setCell ⟨b, o, none⟩ u) (some b) :=
  grown_trans h ⟨rfl, rfl, rfl, by simp [World.setCell], fun k hk hr => Below.heap_setCell _ _ _ _ (by intro e; apply hr; rw [e])⟩
theorem grown_alloc {a w : World} {r : Option Nat} (h : a.grownBy w r) (o : Obj) : a.grownBy (w.alloc o) r := grown_trans h (World.grownBy_alloc w o r)
theorem ScanAt.moved {w : World} {b : Nat} {t : ByteArray} {s : Txt.Sc} (h : ScanAt w b t s) (p : Nat) (v : Int) (e : v = p) : ScanAt (w.setCell ⟨b, 1, none⟩ (.int .i64 v)) b t ⟨p, s.bad⟩ := by
  obtain ⟨hlt, h0, h1, h2, g1, g2⟩ := h
  subst e
  exact ⟨by simpa [World.setCell] using hlt, by simp [go_sem, h0], by simp [go_sem, h1], by simp [go_sem, h2], by simp [go_sem, g1], by simp [go_sem, g2]⟩
theorem ScanAt.gone {w : World} {b : Nat} {t : ByteArray} {s : Txt.Sc} (h : ScanAt w b t s) (v : Bool) : ScanAt (w.setCell ⟨b, 2, none⟩ (.bool v)) b t ⟨s.pos, v⟩ := by
  obtain ⟨hlt, h0, h1, h2, g1, g2⟩ := h
  exact ⟨by simpa [World.setCell] using hlt, by simp [go_sem, h0], by simp [go_sem, h1], by simp [go_sem, h2], by simp [go_sem, g1], by simp [go_sem, g2]⟩

set_option maxHeartbeats 400000 in
theorem sees_any (t : ByteArray) (s : Txt.Sc) (c : Int) (b : Nat) (w : World) (h : ScanAt w b t s) (hc : 0 ≤ c) (ht : t.size ≤ 100000) :
    Calls Tryd.prog 76 #[.pointer (some ⟨b, 0, none⟩), .int .u8 c] w fun e w' => e = .returned (.bool (Txt.seesB t s c)) ∧ ∃ n, w' = w.drewN n := by
  obtain ⟨hlt, h0, h1, h2, -, -⟩ := h
  cases hb : s.bad
  case true =>
    rw [hb] at h2
    go_enter Tryd.func76, Tryd.ntmps76
    go_wp2_with fail
    go_quiet (fail)
    go_wp2_with fail
    go_ret
    exact ⟨ret_bool (by simp [Txt.seesB, hb]), _, rfl⟩
  case false =>
    rw [hb] at h2
    by_cases hp : s.pos < t.size
    · have hp' : (s.pos : Int) < (t.size : Int) := by omega
      have hp0 : (0 : Int) ≤ (s.pos : Int) := by omega
      go_enter Tryd.func76, Tryd.ntmps76
      go_wp2_with fail
      go_quiet (fail)
      go_wp2_with fail
      go_ret
      exact ⟨ret_bool (by simp only [Txt.seesB, hb, Txt.byteAt_lt hp]; rfl), _, rfl⟩
    · have hp' : decide ((s.pos : Int) < (t.size : Int)) = false := by simp; omega
      go_enter Tryd.func76, Tryd.ntmps76
      go_wp2_with fail
      go_quiet (fail)
      go_wp2_with fail
      go_ret
      exact ⟨ret_bool (by simp only [Txt.seesB, hb, Txt.byteAt_ge hp]; simp; omega), _, rfl⟩

set_option maxHeartbeats 400000 in
theorem seesDigit_any (t : ByteArray) (s : Txt.Sc) (b : Nat) (w : World) (h : ScanAt w b t s) (ht : t.size ≤ 100000) :
    Calls Tryd.prog 106 #[.pointer (some ⟨b, 0, none⟩)] w fun e w' => e = .returned (.bool (Txt.digitB t s)) ∧ ∃ n, w' = w.drewN n := by
  obtain ⟨hlt, h0, h1, h2, -, -⟩ := h
  cases hb : s.bad
  case true =>
    rw [hb] at h2
    go_enter Tryd.func106, Tryd.ntmps106
    go_wp2_with fail
    go_quiet (fail)
    go_wp2_with fail
    go_ret
    exact ⟨ret_bool (by simp [Txt.digitB, hb]), _, rfl⟩
  case false =>
    rw [hb] at h2
    by_cases hp : s.pos < t.size
    · have hp' : (s.pos : Int) < (t.size : Int) := by omega
      have hp0 : (0 : Int) ≤ (s.pos : Int) := by omega
      by_cases h48 : 48 ≤ (t[s.pos].toNat : Int)
      · go_enter Tryd.func106, Tryd.ntmps106
        go_wp2_with fail
        go_quiet (fail)
        go_wp2_with fail
        go_ret
        exact ⟨ret_bool (by simp [Txt.digitB, Txt.digB, hb, Txt.byteAt_lt hp, h48]), _, rfl⟩
      · have h48' : decide (48 ≤ (t[s.pos].toNat : Int)) = false := by simp; omega
        go_enter Tryd.func106, Tryd.ntmps106
        go_wp2_with fail
        go_quiet (fail)
        go_wp2_with fail
        go_ret
        exact ⟨ret_bool (by simp only [Txt.digitB, Txt.digB, hb, Txt.byteAt_lt hp, h48']; simp), _, rfl⟩
    · have hp' : decide ((s.pos : Int) < (t.size : Int)) = false := by simp; omega
      go_enter Tryd.func106, Tryd.ntmps106
      go_wp2_with fail
      go_quiet (fail)
      go_wp2_with fail
      go_ret
      exact ⟨ret_bool (by simp [Txt.digitB, Txt.digB, hb, Txt.byteAt_ge hp]), _, rfl⟩

set_option maxHeartbeats 400000 in
theorem take_any (t : ByteArray) (s : Txt.Sc) (c : Int) (b : Nat) (w : World) (h : ScanAt w b t s) (hc : 0 ≤ c) (hs : s.pos ≤ t.size) (ht : t.size ≤ 100000) :
    Calls Tryd.prog 44 #[.pointer (some ⟨b, 0, none⟩), .int .u8 c] w fun e w' => e = .returned (.tuple #[]) ∧ w.grownBy w' (some b) ∧ ScanAt w' b t (Txt.take t s c) := by
  have hsee := fun w h => sees_any t s c b w h hc ht
  have h' := h
  obtain ⟨hlt, h0, h1, h2, g1, g2⟩ := h'
  cases hq : Txt.seesB t s c
  case true =>
    have e : Txt.take t s c = ⟨s.pos + 1, s.bad⟩ := by unfold Txt.take; rw [if_pos hq]; rw [(Txt.seesB_iff.mp hq).1]
    rw [e]
    clear e
    go_enter Tryd.func44, Tryd.ntmps44
    go_wp2_with (go_at_call 76; refine (hsee _ h).mono ?_; rintro e w1 ⟨rfl, n1, rfl⟩)
    exact bodyPost_ret (v := .tuple #[]) (by simp [results, Tryd.results44, go_sem]) rfl ⟨rfl, grown_setCell (grown_drewN (grown_refl _ _) _) _, (h.drewN _).moved _ _ (by omega)⟩
  case false =>
    have e : Txt.take t s c = ⟨s.pos, true⟩ := by unfold Txt.take; rw [if_neg (by simp [hq])]
    rw [e]
    clear e
    go_enter Tryd.func44, Tryd.ntmps44
    go_wp2_with (go_at_call 76; refine (hsee _ h).mono ?_; rintro e w1 ⟨rfl, n1, rfl⟩)
    go_end0
    exact ⟨rfl, grown_setCell (grown_drewN (grown_refl _ _) _) _, (h.drewN _).gone true⟩

set_option maxHeartbeats 400000 in
theorem end_any (t : ByteArray) (s : Txt.Sc) (b : Nat) (w : World) (h : ScanAt w b t s) (hs : s.pos ≤ t.size) (ht : t.size ≤ 100000) :
    Calls Tryd.prog 46 #[.pointer (some ⟨b, 0, none⟩)] w fun e w' => e = .returned (.tuple #[]) ∧ w.grownBy w' (some b) ∧ ScanAt w' b t (Txt.fin t s) := by
  have h' := h
  obtain ⟨hlt, h0, h1, h2, g1, g2⟩ := h'
  by_cases hp : s.pos < t.size
  · have hp' : (s.pos : Int) < (t.size : Int) := by omega
    have e : Txt.fin t s = ⟨s.pos, true⟩ := by unfold Txt.fin; rw [if_pos hp]
    rw [e]
    clear e
    go_enter Tryd.func46, Tryd.ntmps46
    go_wp2_with fail
    go_quiet (fail)
    go_wp2_with fail
    go_end0
    exact ⟨rfl, grown_setCell (grown_drewN (grown_refl _ _) _) _, (h.drewN _).gone true⟩
  · have hp' : ¬ (s.pos : Int) < (t.size : Int) := by omega
    have e : Txt.fin t s = s := by unfold Txt.fin; rw [if_neg hp]
    rw [e]
    clear e
    go_enter Tryd.func46, Tryd.ntmps46
    go_wp2_with fail
    go_quiet (fail)
    go_wp2_with fail
    go_end0
    exact ⟨rfl, grown_drewN (grown_refl _ _) _, h.drewN _⟩

end Go.Proofs.YtjaffmmocbplaaaDoor
