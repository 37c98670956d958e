/-
  ScanW, PenW in one text.
-/
import Derived.Test.YtjaffmmocbplaabDoorTxt
import Derived.Test.YtjaffmmocbplaabDoorK01
namespace Go.Proofs.YtjaffmmocbplaabDoor
open Go.RowKit
set_option linter.unusedVariables false

/-- the scanner in block b -/
structure ScanAt (w : World) (b : Nat) (t : ByteArray) (s : Txt.Sc) : Prop where
  lt : b < w.heap.size
  c0 : w.cell? ⟨b, 0, none⟩ = some (.string t)
  c1 : w.cell? ⟨b, 1, none⟩ = some (.int .i64 s.pos)
  c2 : w.cell? ⟨b, 2, none⟩ = some (.bool s.bad)
  f1 : w.frozen? ⟨b, 1, none⟩ = false
  f2 : w.frozen? ⟨b, 2, none⟩ = false

theorem ret_bool {a b : Bool} (h : a = b) : Ending.returned (.bool a) = .returned (.bool b) := by rw [h]
theorem ScanAt.drewN {w : World} {b : Nat} {t : ByteArray} {s : Txt.Sc} (h : ScanAt w b t s) (n : Nat) : ScanAt (w.drewN n) b t s := ⟨h.lt, h.c0, h.c1, h.c2, h.f1, h.f2⟩
theorem grown_refl (w : World) (r : Option Nat) : w.grownBy w r := ⟨rfl, rfl, rfl, Nat.le_refl _, fun _ _ _ => rfl⟩
theorem grown_trans {a b c : World} {r : Option Nat} (h : a.grownBy b r) (h' : b.grownBy c r) : a.grownBy c r :=
  ⟨h'.os.trans h.os, h'.tape.trans h.tape, h'.output.trans h.output, Nat.le_trans h.size h'.size, fun k hk hr => (h'.block k (Nat.lt_of_lt_of_le hk h.size) hr).trans (h.block k hk hr)⟩
theorem grown_drewN {a b : World} {r : Option Nat} (h : a.grownBy b r) (n : Nat) : a.grownBy (b.drewN n) r := grown_trans h ⟨rfl, rfl, rfl, Nat.le_refl _, fun _ _ _ => rfl⟩
theorem grown_setCell {a w : World} {b o : Nat} (h : a.grownBy w (some b)) (u : Value) : a.grownBy (w.setCell ⟨b, o, none⟩ u) (some b) :=
  grown_trans h ⟨rfl, rfl, rfl, by simp [World.setCell], fun k hk hr => Below.heap_setCell _ _ _ _ (by intro e; apply hr; rw [e])⟩
theorem grown_alloc {a w : World} {r : Option Nat} (h : a.grownBy w r) (o : Obj) : a.grownBy (w.alloc o) r := grown_trans h (World.grownBy_alloc w o r)
theorem ScanAt.moved {w : World} {b : Nat} {t : ByteArray} {s : Txt.Sc} (h : ScanAt w b t s) (p : Nat) (v : Int) (e : v = p) : ScanAt (w.setCell ⟨b, 1, none⟩ (.int .i64 v)) b t ⟨p, s.bad⟩ := by
  obtain ⟨hlt, h0, h1, h2, g1, g2⟩ := h
  subst e
  exact ⟨by simpa [World.setCell] using hlt, by simp [go_sem, h0], by simp [go_sem, h1], by simp [go_sem, h2], by simp [go_sem, g1], by simp [go_sem, g2]⟩
theorem ScanAt.gone {w : World} {b : Nat} {t : ByteArray} {s : Txt.Sc} (h : ScanAt w b t s) (v : Bool) : ScanAt (w.setCell ⟨b, 2, none⟩ (.bool v)) b t ⟨s.pos, v⟩ := by
  obtain ⟨hlt, h0, h1, h2, g1, g2⟩ := h
  exact ⟨by simpa [World.setCell] using hlt, by simp [go_sem, h0], by simp [go_sem, h1], by simp [go_sem, h2], by simp [go_sem, g1], by simp [go_sem, g2]⟩

set_option maxHeartbeats 400000 in
theorem sees_any (t : ByteArray) (s : Txt.Sc) (c : Int) (b : Nat) (w : World) (h : ScanAt w b t s) (hc : 0 ≤ c) (ht : t.size ≤ 100000) :
    Calls Tryd.prog 65 #[.pointer (some ⟨b, 0, none⟩), .int .u8 c] w fun e w' => e = .returned (.bool (Txt.seesB t s c)) ∧ ∃ n, w' = w.drewN n := by
  obtain ⟨hlt, h0, h1, h2, -, -⟩ := h
  cases hb : s.bad
  case true =>
    rw [hb] at h2
    go_enter Tryd.func65, Tryd.ntmps65
    go_wp2_with fail
    go_quiet (fail)
    go_wp2_with fail
    go_ret
    exact ⟨ret_bool (by simp [Txt.seesB, hb]), _, rfl⟩
  case false =>
    rw [hb] at h2
    by_cases hp : s.pos < t.size
    · have hp' : (s.pos : Int) < (t.size : Int) := by omega
      have hp0 : (0 : Int) ≤ (s.pos : Int) := by omega
      go_enter Tryd.func65, Tryd.ntmps65
      go_wp2_with fail
      go_quiet (fail)
      go_wp2_with fail
      go_ret
      exact ⟨ret_bool (by simp only [Txt.seesB, hb, Txt.byteAt_lt hp]; rfl), _, rfl⟩
    · have hp' : decide ((s.pos : Int) < (t.size : Int)) = false := by simp; omega
      go_enter Tryd.func65, Tryd.ntmps65
      go_wp2_with fail
      go_quiet (fail)
      go_wp2_with fail
      go_ret
      exact ⟨ret_bool (by simp only [Txt.seesB, hb, Txt.byteAt_ge hp]; simp; omega), _, rfl⟩

set_option maxHeartbeats 400000 in
theorem seesDigit_any (t : ByteArray) (s : Txt.Sc) (b : Nat) (w : World) (h : ScanAt w b t s) (ht : t.size ≤ 100000) :
    Calls Tryd.prog 84 #[.pointer (some ⟨b, 0, none⟩)] w fun e w' => e = .returned (.bool (Txt.digitB t s)) ∧ ∃ n, w' = w.drewN n := by
  obtain ⟨hlt, h0, h1, h2, -, -⟩ := h
  cases hb : s.bad
  case true =>
    rw [hb] at h2
    go_enter Tryd.func84, Tryd.ntmps84
    go_wp2_with fail
    go_quiet (fail)
    go_wp2_with fail
    go_ret
    exact ⟨ret_bool (by simp [Txt.digitB, hb]), _, rfl⟩
  case false =>
    rw [hb] at h2
    by_cases hp : s.pos < t.size
    · have hp' : (s.pos : Int) < (t.size : Int) := by omega
      have hp0 : (0 : Int) ≤ (s.pos : Int) := by omega
      by_cases h48 : 48 ≤ (t[s.pos].toNat : Int)
      · go_enter Tryd.func84, Tryd.ntmps84
        go_wp2_with fail
        go_quiet (fail)
        go_wp2_with fail
        go_ret
        exact ⟨ret_bool (by simp [Txt.digitB, Txt.digB, hb, Txt.byteAt_lt hp, h48]), _, rfl⟩
      · have h48' : decide (48 ≤ (t[s.pos].toNat : Int)) = false := by simp; omega
        go_enter Tryd.func84, Tryd.ntmps84
        go_wp2_with fail
        go_quiet (fail)
        go_wp2_with fail
        go_ret
        exact ⟨ret_bool (by simp only [Txt.digitB, Txt.digB, hb, Txt.byteAt_lt hp, h48']; simp), _, rfl⟩
    · have hp' : decide ((s.pos : Int) < (t.size : Int)) = false := by simp; omega
      go_enter Tryd.func84, Tryd.ntmps84
      go_wp2_with fail
      go_quiet (fail)
      go_wp2_with fail
      go_ret
      exact ⟨ret_bool (by simp [Txt.digitB, Txt.digB, hb, Txt.byteAt_ge hp]), _, rfl⟩

set_option maxHeartbeats 400000 in
theorem take_any (t : ByteArray) (s : Txt.Sc) (c : Int) (b : Nat) (w : World) (h : ScanAt w b t s) (hc : 0 ≤ c) (hs : s.pos ≤ t.size) (ht : t.size ≤ 100000) :
    Calls Tryd.prog 46 #[.pointer (some ⟨b, 0, none⟩), .int .u8 c] w fun e w' => e = .returned (.tuple #[]) ∧ w.grownBy w' (some b) ∧ ScanAt w' b t (Txt.take t s c) := by
  have hsee := fun w h => sees_any t s c b w h hc ht
  have h' := h
  obtain ⟨hlt, h0, h1, h2, g1, g2⟩ := h'
  cases hq : Txt.seesB t s c
  case true =>
    have e : Txt.take t s c = ⟨s.pos + 1, s.bad⟩ := by unfold Txt.take; rw [if_pos hq]; rw [(Txt.seesB_iff.mp hq).1]
    rw [e]
    clear e
    go_enter Tryd.func46, Tryd.ntmps46
    go_wp2_with (go_at_call 65; refine (hsee _ h).mono ?_; rintro e w1 ⟨rfl, n1, rfl⟩)
    exact bodyPost_ret (v := .tuple #[]) (by simp [results, Tryd.results46, go_sem]) rfl ⟨rfl, grown_setCell (grown_drewN (grown_refl _ _) _) _, (h.drewN _).moved _ _ (by omega)⟩
  case false =>
    have e : Txt.take t s c = ⟨s.pos, true⟩ := by unfold Txt.take; rw [if_neg (by simp [hq])]
    rw [e]
    clear e
    go_enter Tryd.func46, Tryd.ntmps46
    go_wp2_with (go_at_call 65; refine (hsee _ h).mono ?_; rintro e w1 ⟨rfl, n1, rfl⟩)
    go_end0
    exact ⟨rfl, grown_setCell (grown_drewN (grown_refl _ _) _) _, (h.drewN _).gone true⟩

set_option maxHeartbeats 400000 in
theorem end_any (t : ByteArray) (s : Txt.Sc) (b : Nat) (w : World) (h : ScanAt w b t s) (hs : s.pos ≤ t.size) (ht : t.size ≤ 100000) :
    Calls Tryd.prog 23 #[.pointer (some ⟨b, 0, none⟩)] w fun e w' => e = .returned (.tuple #[]) ∧ w.grownBy w' (some b) ∧ ScanAt w' b t (Txt.fin t s) := by
  have h' := h
  obtain ⟨hlt, h0, h1, h2, g1, g2⟩ := h'
  by_cases hp : s.pos < t.size
  · have hp' : (s.pos : Int) < (t.size : Int) := by omega
    have e : Txt.fin t s = ⟨s.pos, true⟩ := by unfold Txt.fin; rw [if_pos hp]
    rw [e]
    clear e
    go_enter Tryd.func23, Tryd.ntmps23
    go_wp2_with fail
    go_quiet (fail)
    go_wp2_with fail
    go_end0
    exact ⟨rfl, grown_setCell (grown_drewN (grown_refl _ _) _) _, (h.drewN _).gone true⟩
  · have hp' : ¬ (s.pos : Int) < (t.size : Int) := by omega
    have e : Txt.fin t s = s := by unfold Txt.fin; rw [if_neg hp]
    rw [e]
    clear e
    go_enter Tryd.func23, Tryd.ntmps23
    go_wp2_with fail
    go_quiet (fail)
    go_wp2_with fail
    go_end0
    exact ⟨rfl, grown_drewN (grown_refl _ _) _, h.drewN _⟩

end Go.Proofs.YtjaffmmocbplaabDoor

namespace Go.Proofs.YtjaffmmocbplaabDoor
open Go.RowKit
set_option linter.unusedVariables false

def badI (s : Txt.Sc) : Int := if s.bad then s.pos else -1
theorem badI_true {s : Txt.Sc} (h : s.bad = true) : badI s = s.pos := by unfold badI; rw [if_pos h]
theorem badI_false {s : Txt.Sc} (h : s.bad = false) : badI s = -1 := by unfold badI; rw [if_neg (by simp [h])]
/-- the pen in block b -/
structure PenAt (w : World) (b : Nat) (t : ByteArray) (s : Txt.Sc) : Prop where
  lt : b < w.heap.size
  c0 : w.cell? ⟨b, 0, none⟩ = some (.string t)
  c1 : w.cell? ⟨b, 1, none⟩ = some (.int .i64 s.pos)
  c2 : w.cell? ⟨b, 2, none⟩ = some (.int .i64 (badI s))
  f1 : w.frozen? ⟨b, 1, none⟩ = false
  f2 : w.frozen? ⟨b, 2, none⟩ = false
theorem PenAt.drewN {w : World} {b : Nat} {t : ByteArray} {s : Txt.Sc} (h : PenAt w b t s) (n : Nat) : PenAt (w.drewN n) b t s := ⟨h.lt, h.c0, h.c1, h.c2, h.f1, h.f2⟩
theorem PenAt.moved {w : World} {b : Nat} {t : ByteArray} {s : Txt.Sc} (h : PenAt w b t s) (hb : s.bad = false) (p : Nat) (v : Int) (e : v = p) : PenAt (w.setCell ⟨b, 1, none⟩ (.int .i64 v)) b t ⟨p, false⟩ := by
  obtain ⟨hlt, h0, h1, h2, g1, g2⟩ := h
  subst e
  rw [badI_false hb] at h2
  exact ⟨by simpa [World.setCell] using hlt, by simp [go_sem, h0], by simp [go_sem, h1], by simp [go_sem, h2, badI], by simp [go_sem, g1], by simp [go_sem, g2]⟩
theorem PenAt.gone {w : World} {b : Nat} {t : ByteArray} {s : Txt.Sc} (h : PenAt w b t s) : PenAt (w.setCell ⟨b, 2, none⟩ (.int .i64 s.pos)) b t ⟨s.pos, true⟩ := by
  obtain ⟨hlt, h0, h1, h2, g1, g2⟩ := h
  exact ⟨by simpa [World.setCell] using hlt, by simp [go_sem, h0], by simp [go_sem, h1], by simp [go_sem, h2, badI], by simp [go_sem, g1], by simp [go_sem, g2]⟩

theorem drewN_twice (w : World) (a b : Nat) : (w.drewN a).drewN b = w.drewN (a + b) := by simp [go_sem]

set_option maxHeartbeats 400000 in
theorem ahead_any (t : ByteArray) (s : Txt.Sc) (b : Nat) (w : World) (h : PenAt w b t s) (ht : t.size ≤ 100000) :
    Calls Tryd.prog 67 #[.pointer (some ⟨b, 0, none⟩)] w fun e w' => e = .returned (.int .i64 (Txt.byteAt t s.pos)) ∧ ∃ n, w' = w.drewN n := by
  obtain ⟨hlt, h0, h1, h2, -, -⟩ := h
  by_cases hp : s.pos < t.size
  · have hp' : (s.pos : Int) < (t.size : Int) := by omega
    have hp0 : (0 : Int) ≤ (s.pos : Int) := by omega
    have hp255 : (t[s.pos].toNat : Int) ≤ 255 := by have := UInt8.toNat_lt t[s.pos]; omega
    go_enter Tryd.func67, Tryd.ntmps67
    go_wp2_with fail
    go_quiet (fail)
    go_wp2_with fail
    go_quiet (fail)
    go_wp2_with fail
    go_ret
    exact ⟨ret_int (Txt.byteAt_lt hp).symm, _, drewN_twice _ _ _⟩
  · have hp' : ¬ (s.pos : Int) < (t.size : Int) := by omega
    go_enter Tryd.func67, Tryd.ntmps67
    go_wp2_with fail
    go_quiet (fail)
    go_wp2_with fail
    go_ret
    exact ⟨ret_int (Txt.byteAt_ge hp).symm, _, rfl⟩

set_option maxHeartbeats 400000 in
theorem fail_any (t : ByteArray) (s : Txt.Sc) (b : Nat) (w : World) (h : PenAt w b t s) :
    Calls Tryd.prog 51 #[.pointer (some ⟨b, 0, none⟩)] w fun e w' => e = .returned (.tuple #[]) ∧ w.grownBy w' (some b) ∧ PenAt w' b t ⟨s.pos, true⟩ := by
  have h' := h
  obtain ⟨hlt, h0, h1, h2, g1, g2⟩ := h'
  cases hb : s.bad
  case false =>
    rw [badI_false hb] at h2
    go_enter Tryd.func51, Tryd.ntmps51
    go_wp2_with fail
    go_end0
    exact ⟨rfl, grown_setCell (grown_refl _ _) _, h.gone⟩
  case true =>
    rw [badI_true hb] at h2
    have hn : ¬ (s.pos : Int) < 0 := by omega
    go_enter Tryd.func51, Tryd.ntmps51
    go_wp2_with fail
    go_end0
    exact ⟨rfl, grown_refl _ _, by rw [← hb]; exact h⟩

set_option maxHeartbeats 400000 in
theorem done_any (t : ByteArray) (s : Txt.Sc) (b : Nat) (w : World) (h : PenAt w b t s) (hs : s.pos ≤ t.size) (ht : t.size ≤ 100000) :
    Calls Tryd.prog 25 #[.pointer (some ⟨b, 0, none⟩)] w fun e w' => e = .returned (.int .i64 (badI (Txt.fin t s))) ∧ w.grownBy w' (some b) ∧ PenAt w' b t (Txt.fin t s) := by
  have h' := h
  obtain ⟨hlt, h0, h1, h2, g1, g2⟩ := h'
  by_cases hp : s.pos < t.size
  · have hp' : (s.pos : Int) < (t.size : Int) := by omega
    have e : Txt.fin t s = ⟨s.pos, true⟩ := by unfold Txt.fin; rw [if_pos hp]
    rw [e]
    clear e
    go_enter Tryd.func25, Tryd.ntmps25
    go_wp2_with fail
    go_quiet (fail)
    go_wp2_with (go_at_call 51; refine (fail_any t s b _ (h.drewN _)).mono ?_; rintro e w1 ⟨rfl, g, hp1⟩; have k2 := hp1.c2)
    go_ret
    exact ⟨rfl, grown_trans (grown_drewN (grown_refl _ _) _) g, hp1⟩
  · have hp' : ¬ (s.pos : Int) < (t.size : Int) := by omega
    have e : Txt.fin t s = s := by unfold Txt.fin; rw [if_neg hp]
    rw [e]
    clear e
    go_enter Tryd.func25, Tryd.ntmps25
    go_wp2_with fail
    go_quiet (fail)
    go_wp2_with fail
    go_ret
    exact ⟨rfl, grown_drewN (grown_refl _ _) _, h.drewN _⟩

/-- the document's words, a byte each -/
def lits (t : ByteArray) : Txt.Sc → List Int → Txt.Sc
  | s, [] => s
  | s, c :: l => lits t (Txt.take t s c) l
theorem lits_bad {t : ByteArray} {s : Txt.Sc} (h : s.bad = true) : ∀ l, lits t s l = s
  | [] => rfl
  | c :: l => by show lits t (Txt.take t s c) l = s; rw [Txt.take_bad h]; exact lits_bad h l
theorem lits_le {t : ByteArray} : ∀ (l : List Int) (s : Txt.Sc), (∀ c ∈ l, 0 ≤ c) → s.pos ≤ t.size → (lits t s l).pos ≤ t.size
  | [], s, _, h => h
  | c :: l, s, hc, h => lits_le l (Txt.take t s c) (fun d hd => hc d (List.mem_cons_of_mem _ hd)) (Txt.take_le (hc c (List.mem_cons_self ..)) h)
def bytes (u : ByteArray) : List Int := u.data.toList.map fun c => (c.toNat : Int)

theorem bytes_length (u : ByteArray) : (bytes u).length = u.size := by unfold bytes; rw [List.length_map]; rfl
theorem bytes_drop (u : ByteArray) (k : Nat) (h : k < u.size) : (bytes u).drop k = (u[k].toNat : Int) :: (bytes u).drop (k + 1) := by
  rw [List.drop_eq_getElem_cons (by rw [bytes_length]; exact h)]
  congr 1
  simp [bytes]; rfl

set_option maxHeartbeats 1000000 in
theorem lit_any (t : ByteArray) (s : Txt.Sc) (u : ByteArray) (b : Nat) (w : World) (h : PenAt w b t s) (hs : s.pos ≤ t.size) (ht : t.size ≤ 100000) (hu : u.size ≤ 1000) :
    Calls Tryd.prog 49 #[.pointer (some ⟨b, 0, none⟩), .string u] w fun e w' => e = .returned (.tuple #[]) ∧ w.grownBy w' (some b) ∧ PenAt w' b t (lits t s (bytes u)) := by
  obtain ⟨S, hS⟩ : ∃ S, S = lits t s (bytes u) := ⟨_, rfl⟩
  rw [← hS]
  have HS : Hid (lits t s ((bytes u).drop 0) = S) := hS.symm
  clear hS
  go_enter Tryd.func49, Tryd.ntmps49
  go_wp2_with fail
  go_loopw [4] (fun i wr => ∃ (k : Nat) (s1 : Txt.Sc), i = .int .i64 k ∧ k ≤ u.size ∧ s1.pos ≤ t.size ∧ lits t s1 ((bytes u).drop k) = S ∧ w.grownBy wr (some b) ∧ PenAt wr b t s1) (fun i _ => u.size - (intOf i).toNat)
  case atStart => exact ⟨0, s, rfl, by omega, hs, HS.out, grown_refl _ _, h⟩
  case round =>
    obtain ⟨k, s1, rfl, hk, hp1, hl, hg, hsc⟩ := hrel
    have hl' := bytes_length u
    have hah := fun w h => ahead_any t s1 b w h ht
    have hfa := fun w h => fail_any t s1 b w h
    have hsc' := hsc
    obtain ⟨klt, k0, k1, k2, kg1, kg2⟩ := hsc'
    by_cases hku : k < u.size
    · have hku' : (k : Int) < (u.size : Int) := by omega
      have hk0 : (0 : Int) ≤ (k : Int) := by omega
      cases hb : s1.bad
      case true =>
        have HE : Hid (s1 = S) := by rw [lits_bad hb] at hl; exact hl
        rw [badI_true hb] at k2
        have hn : ¬ (s1.pos : Int) < 0 := by omega
        clear hl
        go_wp2_with fail
        go_end0
        exact ⟨rfl, hg, by rw [← HE.out]; exact hsc⟩
      case false =>
        rw [badI_false hb] at k2
        have hdrop := bytes_drop u k hku
        have HE : Hid (lits t (Txt.take t s1 (u[k].toNat : Int)) ((bytes u).drop (k + 1)) = S) := by rw [hdrop] at hl; exact hl
        have h255 : (u[k].toNat : Int) ≤ 255 := by have := UInt8.toNat_lt u[k]; omega
        clear hl hdrop hl'
        by_cases heq : Txt.byteAt t s1.pos = (u[k].toNat : Int)
        · have heqB : (Txt.byteAt t s1.pos == (u[k].toNat : Int)) = true := by simpa using heq
          have e : Txt.take t s1 (u[k].toNat : Int) = ⟨s1.pos + 1, false⟩ := by unfold Txt.take; rw [if_pos (by simp [Txt.seesB, hb, heq])]
          have hlt : s1.pos < t.size := Txt.lt_of_byteAt (by omega)
          have HE2 : Hid (lits t ⟨s1.pos + 1, false⟩ ((bytes u).drop (k + 1)) = S) := by rw [← e]; exact HE.out
          clear heq e HE
          go_wp2_with (go_at_call 67; refine (hah _ hsc).mono ?_; rintro e w1 ⟨rfl, n1, rfl⟩)
          go_roundw
          case rel => exact ⟨k + 1, ⟨s1.pos + 1, false⟩, by go_num, by omega, by show s1.pos + 1 ≤ t.size; omega, HE2.out, grown_setCell (grown_drewN hg _) _, (hsc.drewN _).moved hb _ _ (by omega)⟩
          case measure => simp [intOf]; omega
        · have heqB : (Txt.byteAt t s1.pos == (u[k].toNat : Int)) = false := by simpa using heq
          have e : Txt.take t s1 (u[k].toNat : Int) = ⟨s1.pos, true⟩ := by unfold Txt.take; rw [if_neg (by simp [Txt.seesB, hb, heq])]
          have HE2 : Hid (lits t ⟨s1.pos, true⟩ ((bytes u).drop (k + 1)) = S) := by rw [← e]; exact HE.out
          clear heq e HE
          go_wp2_with (first | (go_at_call 67; refine (hah _ hsc).mono ?_; rintro e w1 ⟨rfl, n1, rfl⟩) | (go_at_call 51; refine (hfa _ (hsc.drewN _)).mono ?_; rintro e w2 ⟨rfl, g2, hp2⟩))
          go_roundw
          case rel => exact ⟨k + 1, ⟨s1.pos, true⟩, by go_num, by omega, hp1, HE2.out, grown_trans (grown_drewN hg _) g2, hp2⟩
          case measure => simp [intOf]; omega
    · have hku' : ¬ (k : Int) < (u.size : Int) := by omega
      have HE : Hid (s1 = S) := by rw [List.drop_of_length_le (by omega)] at hl; exact hl
      clear hl
      go_wp2_with fail
      go_end0
      exact ⟨rfl, hg, by rw [← HE.out]; exact hsc⟩

end Go.Proofs.YtjaffmmocbplaabDoor
