/-
  ScanW, PenW, ScanN, PenN, PenL in one text.
-/
import Derived.Test.YtjaffmmocbplaabGreatDoorJTxt
import Derived.Test.YtjaffmmocbplaabGreatDoorJ02
namespace Go.Proofs.YtjaffmmocbplaabGreatDoor
open Go.RowKit
set_option linter.unusedVariables false

/-- the scanner in block b -/
structure ScanAt (w : World) (b : Nat) (t : ByteArray) (s : Txt.Sc) : Prop where
  lt : b < w.heap.size
  c0 : w.cell? ⟨b, 0, none⟩ = some (.string t)
  c1 : w.cell? ⟨b, 1, none⟩ = some (.int .i64 s.pos)
  c2 : w.cell? ⟨b, 2, none⟩ = some (.bool s.bad)
  f1 : w.frozen? ⟨b, 1, none⟩ = false
  f2 : w.frozen? ⟨b, 2, none⟩ = false

theorem ret_bool {a b : Bool} (h : a = b) : Ending.returned (.bool a) = .returned (.bool b) := by rw [h]
theorem ScanAt.drewN {w : World} {b : Nat} {t : ByteArray} {s : Txt.Sc} (h : ScanAt w b t s) (n : Nat) : ScanAt (w.drewN n) b t s := ⟨h.lt, h.c0, h.c1, h.c2, h.f1, h.f2⟩
theorem grown_refl (w : World) (r : Option Nat) : w.grownBy w r := ⟨rfl, rfl, rfl, Nat.le_refl _, fun _ _ _ => rfl⟩
theorem grown_trans {a b c : World} {r : Option Nat} (h : a.grownBy b r) (h' : b.grownBy c r) : a.grownBy c r :=
  ⟨h'.os.trans h.os, h'.tape.trans h.tape, h'.output.trans h.output, Nat.le_trans h.size h'.size, fun k hk hr => (h'.block k (Nat.lt_of_lt_of_le hk h.size) hr).trans (h.block k hk hr)⟩
theorem grown_drewN {a b : World} {r : Option Nat} (h : a.grownBy b r) (n : Nat) : a.grownBy (b.drewN n) r := grown_trans h ⟨rfl, rfl, rfl, Nat.le_refl _, fun _ _ _ => rfl⟩
theorem grown_setCell {a w : World} {b o : Nat} (h : a.grownBy w (some b)) (u : Value) : a.grownBy (w.setCell ⟨b, o, none⟩ u) (some b) :=
  grown_trans h ⟨rfl, rfl, rfl, by simp [World.setCell], fun k hk hr => Below.heap_setCell _ _ _ _ (by intro e; apply hr; rw [e])⟩
theorem grown_alloc {a w : World} {r : Option Nat} (h : a.grownBy w r) (o : Obj) : a.grownBy (w.alloc o) r := grown_trans h (World.grownBy_alloc w o r)
theorem ScanAt.moved {w : World} {b : Nat} {t : ByteArray} {s : Txt.Sc} (h : ScanAt w b t s) (p : Nat) (v : Int) (e : v = p) : ScanAt (w.setCell ⟨b, 1, none⟩ (.int .i64 v)) b t ⟨p, s.bad⟩ := by
  obtain ⟨hlt, h0, h1, h2, g1, g2⟩ := h
  subst e
  exact ⟨by simpa [World.setCell] using hlt, by simp [go_sem, h0], by simp [go_sem, h1], by simp [go_sem, h2], by simp [go_sem, g1], by simp [go_sem, g2]⟩
theorem ScanAt.gone {w : World} {b : Nat} {t : ByteArray} {s : Txt.Sc} (h : ScanAt w b t s) (v : Bool) : ScanAt (w.setCell ⟨b, 2, none⟩ (.bool v)) b t ⟨s.pos, v⟩ := by
  obtain ⟨hlt, h0, h1, h2, g1, g2⟩ := h
  exact ⟨by simpa [World.setCell] using hlt, by simp [go_sem, h0], by simp [go_sem, h1], by simp [go_sem, h2], by simp [go_sem, g1], by simp [go_sem, g2]⟩

set_option maxHeartbeats 400000 in
theorem sees_any (t : ByteArray) (s : Txt.Sc) (c : Int) (b : Nat) (w : World) (h : ScanAt w b t s) (hc : 0 ≤ c) (ht : t.size ≤ 100000) :
    Calls Tryz.prog 51 #[.pointer (some ⟨b, 0, none⟩), .int .u8 c] w fun e w' => e = .returned (.bool (Txt.seesB t s c)) ∧ ∃ n, w' = w.drewN n := by
  obtain ⟨hlt, h0, h1, h2, -, -⟩ := h
  cases hb : s.bad
  case true =>
    rw [hb] at h2
    go_enter Tryz.func51, Tryz.ntmps51
    go_wp2_with fail
    go_quiet (fail)
    go_wp2_with fail
    go_ret
    exact ⟨ret_bool (by simp [Txt.seesB, hb]), _, rfl⟩
  case false =>
    rw [hb] at h2
    by_cases hp : s.pos < t.size
    · have hp' : (s.pos : Int) < (t.size : Int) := by omega
      have hp0 : (0 : Int) ≤ (s.pos : Int) := by omega
      go_enter Tryz.func51, Tryz.ntmps51
      go_wp2_with fail
      go_quiet (fail)
      go_wp2_with fail
      go_ret
      exact ⟨ret_bool (by simp only [Txt.seesB, hb, Txt.byteAt_lt hp]; rfl), _, rfl⟩
    · have hp' : decide ((s.pos : Int) < (t.size : Int)) = false := by simp; omega
      go_enter Tryz.func51, Tryz.ntmps51
      go_wp2_with fail
      go_quiet (fail)
      go_wp2_with fail
      go_ret
      exact ⟨ret_bool (by simp only [Txt.seesB, hb, Txt.byteAt_ge hp]; simp; omega), _, rfl⟩

set_option maxHeartbeats 400000 in
theorem seesDigit_any (t : ByteArray) (s : Txt.Sc) (b : Nat) (w : World) (h : ScanAt w b t s) (ht : t.size ≤ 100000) :
    Calls Tryz.prog 99 #[.pointer (some ⟨b, 0, none⟩)] w fun e w' => e = .returned (.bool (Txt.digitB t s)) ∧ ∃ n, w' = w.drewN n := by
  obtain ⟨hlt, h0, h1, h2, -, -⟩ := h
  cases hb : s.bad
  case true =>
    rw [hb] at h2
    go_enter Tryz.func99, Tryz.ntmps99
    go_wp2_with fail
    go_quiet (fail)
    go_wp2_with fail
    go_ret
    exact ⟨ret_bool (by simp [Txt.digitB, hb]), _, rfl⟩
  case false =>
    rw [hb] at h2
    by_cases hp : s.pos < t.size
    · have hp' : (s.pos : Int) < (t.size : Int) := by omega
      have hp0 : (0 : Int) ≤ (s.pos : Int) := by omega
      by_cases h48 : 48 ≤ (t[s.pos].toNat : Int)
      · go_enter Tryz.func99, Tryz.ntmps99
        go_wp2_with fail
        go_quiet (fail)
        go_wp2_with fail
        go_ret
        exact ⟨ret_bool (by simp [Txt.digitB, Txt.digB, hb, Txt.byteAt_lt hp, h48]), _, rfl⟩
      · have h48' : decide (48 ≤ (t[s.pos].toNat : Int)) = false := by simp; omega
        go_enter Tryz.func99, Tryz.ntmps99
        go_wp2_with fail
        go_quiet (fail)
        go_wp2_with fail
        go_ret
        exact ⟨ret_bool (by simp only [Txt.digitB, Txt.digB, hb, Txt.byteAt_lt hp, h48']; simp), _, rfl⟩
    · have hp' : decide ((s.pos : Int) < (t.size : Int)) = false := by simp; omega
      go_enter Tryz.func99, Tryz.ntmps99
      go_wp2_with fail
      go_quiet (fail)
      go_wp2_with fail
      go_ret
      exact ⟨ret_bool (by simp [Txt.digitB, Txt.digB, hb, Txt.byteAt_ge hp]), _, rfl⟩

set_option maxHeartbeats 400000 in
theorem take_any (t : ByteArray) (s : Txt.Sc) (c : Int) (b : Nat) (w : World) (h : ScanAt w b t s) (hc : 0 ≤ c) (hs : s.pos ≤ t.size) (ht : t.size ≤ 100000) :
    Calls Tryz.prog 16 #[.pointer (some ⟨b, 0, none⟩), .int .u8 c] w fun e w' => e = .returned (.tuple #[]) ∧ w.grownBy w' (some b) ∧ ScanAt w' b t (Txt.take t s c) := by
  have hsee := fun w h => sees_any t s c b w h hc ht
  have h' := h
  obtain ⟨hlt, h0, h1, h2, g1, g2⟩ := h'
  cases hq : Txt.seesB t s c
  case true =>
    have e : Txt.take t s c = ⟨s.pos + 1, s.bad⟩ := by unfold Txt.take; rw [if_pos hq]; rw [(Txt.seesB_iff.mp hq).1]
    rw [e]
    clear e
    go_enter Tryz.func16, Tryz.ntmps16
    go_wp2_with (go_at_call 51; refine (hsee _ h).mono ?_; rintro e w1 ⟨rfl, n1, rfl⟩)
    exact bodyPost_ret (v := .tuple #[]) (by simp [results, Tryz.results16, go_sem]) rfl ⟨rfl, grown_setCell (grown_drewN (grown_refl _ _) _) _, (h.drewN _).moved _ _ (by omega)⟩
  case false =>
    have e : Txt.take t s c = ⟨s.pos, true⟩ := by unfold Txt.take; rw [if_neg (by simp [hq])]
    rw [e]
    clear e
    go_enter Tryz.func16, Tryz.ntmps16
    go_wp2_with (go_at_call 51; refine (hsee _ h).mono ?_; rintro e w1 ⟨rfl, n1, rfl⟩)
    go_end0
    exact ⟨rfl, grown_setCell (grown_drewN (grown_refl _ _) _) _, (h.drewN _).gone true⟩

set_option maxHeartbeats 400000 in
theorem end_any (t : ByteArray) (s : Txt.Sc) (b : Nat) (w : World) (h : ScanAt w b t s) (hs : s.pos ≤ t.size) (ht : t.size ≤ 100000) :
    Calls Tryz.prog 18 #[.pointer (some ⟨b, 0, none⟩)] w fun e w' => e = .returned (.tuple #[]) ∧ w.grownBy w' (some b) ∧ ScanAt w' b t (Txt.fin t s) := by
  have h' := h
  obtain ⟨hlt, h0, h1, h2, g1, g2⟩ := h'
  by_cases hp : s.pos < t.size
  · have hp' : (s.pos : Int) < (t.size : Int) := by omega
    have e : Txt.fin t s = ⟨s.pos, true⟩ := by unfold Txt.fin; rw [if_pos hp]
    rw [e]
    clear e
    go_enter Tryz.func18, Tryz.ntmps18
    go_wp2_with fail
    go_quiet (fail)
    go_wp2_with fail
    go_end0
    exact ⟨rfl, grown_setCell (grown_drewN (grown_refl _ _) _) _, (h.drewN _).gone true⟩
  · have hp' : ¬ (s.pos : Int) < (t.size : Int) := by omega
    have e : Txt.fin t s = s := by unfold Txt.fin; rw [if_neg hp]
    rw [e]
    clear e
    go_enter Tryz.func18, Tryz.ntmps18
    go_wp2_with fail
    go_quiet (fail)
    go_wp2_with fail
    go_end0
    exact ⟨rfl, grown_drewN (grown_refl _ _) _, h.drewN _⟩

end Go.Proofs.YtjaffmmocbplaabGreatDoor

namespace Go.Proofs.YtjaffmmocbplaabGreatDoor
open Go.RowKit
set_option linter.unusedVariables false

def badI (s : Txt.Sc) : Int := if s.bad then s.pos else -1
theorem badI_true {s : Txt.Sc} (h : s.bad = true) : badI s = s.pos := by unfold badI; rw [if_pos h]
theorem badI_false {s : Txt.Sc} (h : s.bad = false) : badI s = -1 := by unfold badI; rw [if_neg (by simp [h])]
/-- the pen in block b -/
structure PenAt (w : World) (b : Nat) (t : ByteArray) (s : Txt.Sc) : Prop where
  lt : b < w.heap.size
  c0 : w.cell? ⟨b, 0, none⟩ = some (.string t)
  c1 : w.cell? ⟨b, 1, none⟩ = some (.int .i64 s.pos)
  c2 : w.cell? ⟨b, 2, none⟩ = some (.int .i64 (badI s))
  f1 : w.frozen? ⟨b, 1, none⟩ = false
  f2 : w.frozen? ⟨b, 2, none⟩ = false
theorem PenAt.drewN {w : World} {b : Nat} {t : ByteArray} {s : Txt.Sc} (h : PenAt w b t s) (n : Nat) : PenAt (w.drewN n) b t s := ⟨h.lt, h.c0, h.c1, h.c2, h.f1, h.f2⟩
theorem PenAt.moved {w : World} {b : Nat} {t : ByteArray} {s : Txt.Sc} (h : PenAt w b t s) (hb : s.bad = false) (p : Nat) (v : Int) (e : v = p) : PenAt (w.setCell ⟨b, 1, none⟩ (.int .i64 v)) b t ⟨p, false⟩ := by
  obtain ⟨hlt, h0, h1, h2, g1, g2⟩ := h
  subst e
  rw [badI_false hb] at h2
  exact ⟨by simpa [World.setCell] using hlt, by simp [go_sem, h0], by simp [go_sem, h1], by simp [go_sem, h2, badI], by simp [go_sem, g1], by simp [go_sem, g2]⟩
theorem PenAt.gone {w : World} {b : Nat} {t : ByteArray} {s : Txt.Sc} (h : PenAt w b t s) : PenAt (w.setCell ⟨b, 2, none⟩ (.int .i64 s.pos)) b t ⟨s.pos, true⟩ := by
  obtain ⟨hlt, h0, h1, h2, g1, g2⟩ := h
  exact ⟨by simpa [World.setCell] using hlt, by simp [go_sem, h0], by simp [go_sem, h1], by simp [go_sem, h2, badI], by simp [go_sem, g1], by simp [go_sem, g2]⟩

theorem drewN_twice (w : World) (a b : Nat) : (w.drewN a).drewN b = w.drewN (a + b) := by simp [go_sem]

set_option maxHeartbeats 400000 in
theorem ahead_any (t : ByteArray) (s : Txt.Sc) (b : Nat) (w : World) (h : PenAt w b t s) (ht : t.size ≤ 100000) :
    Calls Tryz.prog 36 #[.pointer (some ⟨b, 0, none⟩)] w fun e w' => e = .returned (.int .i64 (Txt.byteAt t s.pos)) ∧ ∃ n, w' = w.drewN n := by
  obtain ⟨hlt, h0, h1, h2, -, -⟩ := h
  by_cases hp : s.pos < t.size
  · have hp' : (s.pos : Int) < (t.size : Int) := by omega
    have hp0 : (0 : Int) ≤ (s.pos : Int) := by omega
    have hp255 : (t[s.pos].toNat : Int) ≤ 255 := by have := UInt8.toNat_lt t[s.pos]; omega
    go_enter Tryz.func36, Tryz.ntmps36
    go_wp2_with fail
    go_quiet (fail)
    go_wp2_with fail
    go_quiet (fail)
    go_wp2_with fail
    go_ret
    exact ⟨ret_int (Txt.byteAt_lt hp).symm, _, drewN_twice _ _ _⟩
  · have hp' : ¬ (s.pos : Int) < (t.size : Int) := by omega
    go_enter Tryz.func36, Tryz.ntmps36
    go_wp2_with fail
    go_quiet (fail)
    go_wp2_with fail
    go_ret
    exact ⟨ret_int (Txt.byteAt_ge hp).symm, _, rfl⟩

set_option maxHeartbeats 400000 in
theorem fail_any (t : ByteArray) (s : Txt.Sc) (b : Nat) (w : World) (h : PenAt w b t s) :
    Calls Tryz.prog 72 #[.pointer (some ⟨b, 0, none⟩)] w fun e w' => e = .returned (.tuple #[]) ∧ w.grownBy w' (some b) ∧ PenAt w' b t ⟨s.pos, true⟩ := by
  have h' := h
  obtain ⟨hlt, h0, h1, h2, g1, g2⟩ := h'
  cases hb : s.bad
  case false =>
    rw [badI_false hb] at h2
    go_enter Tryz.func72, Tryz.ntmps72
    go_wp2_with fail
    go_end0
    exact ⟨rfl, grown_setCell (grown_refl _ _) _, h.gone⟩
  case true =>
    rw [badI_true hb] at h2
    have hn : ¬ (s.pos : Int) < 0 := by omega
    go_enter Tryz.func72, Tryz.ntmps72
    go_wp2_with fail
    go_end0
    exact ⟨rfl, grown_refl _ _, by rw [← hb]; exact h⟩

set_option maxHeartbeats 400000 in
theorem done_any (t : ByteArray) (s : Txt.Sc) (b : Nat) (w : World) (h : PenAt w b t s) (hs : s.pos ≤ t.size) (ht : t.size ≤ 100000) :
    Calls Tryz.prog 38 #[.pointer (some ⟨b, 0, none⟩)] w fun e w' => e = .returned (.int .i64 (badI (Txt.fin t s))) ∧ w.grownBy w' (some b) ∧ PenAt w' b t (Txt.fin t s) := by
  have h' := h
  obtain ⟨hlt, h0, h1, h2, g1, g2⟩ := h'
  by_cases hp : s.pos < t.size
  · have hp' : (s.pos : Int) < (t.size : Int) := by omega
    have e : Txt.fin t s = ⟨s.pos, true⟩ := by unfold Txt.fin; rw [if_pos hp]
    rw [e]
    clear e
    go_enter Tryz.func38, Tryz.ntmps38
    go_wp2_with fail
    go_quiet (fail)
    go_wp2_with (go_at_call 72; refine (fail_any t s b _ (h.drewN _)).mono ?_; rintro e w1 ⟨rfl, g, hp1⟩; have k2 := hp1.c2)
    go_ret
    exact ⟨rfl, grown_trans (grown_drewN (grown_refl _ _) _) g, hp1⟩
  · have hp' : ¬ (s.pos : Int) < (t.size : Int) := by omega
    have e : Txt.fin t s = s := by unfold Txt.fin; rw [if_neg hp]
    rw [e]
    clear e
    go_enter Tryz.func38, Tryz.ntmps38
    go_wp2_with fail
    go_quiet (fail)
    go_wp2_with fail
    go_ret
    exact ⟨rfl, grown_drewN (grown_refl _ _) _, h.drewN _⟩

/-- the document's words, a byte each -/
def lits (t : ByteArray) : Txt.Sc → List Int → Txt.Sc
  | s, [] => s
  | s, c :: l => lits t (Txt.take t s c) l
theorem lits_bad {t : ByteArray} {s : Txt.Sc} (h : s.bad = true) : ∀ l, lits t s l = s
  | [] => rfl
  | c :: l => by show lits t (Txt.take t s c) l = s; rw [Txt.take_bad h]; exact lits_bad h l
theorem lits_le {t : ByteArray} : ∀ (l : List Int) (s : Txt.Sc), (∀ c ∈ l, 0 ≤ c) → s.pos ≤ t.size → (lits t s l).pos ≤ t.size
  | [], s, _, h => h
  | c :: l, s, hc, h => lits_le l (Txt.take t s c) (fun d hd => hc d (List.mem_cons_of_mem _ hd)) (Txt.take_le (hc c (List.mem_cons_self ..)) h)
def bytes (u : ByteArray) : List Int := u.data.toList.map fun c => (c.toNat : Int)

theorem bytes_length (u : ByteArray) : (bytes u).length = u.size := by unfold bytes; rw [List.length_map]; rfl
theorem bytes_drop (u : ByteArray) (k : Nat) (h : k < u.size) : (bytes u).drop k = (u[k].toNat : Int) :: (bytes u).drop (k + 1) := by
  rw [List.drop_eq_getElem_cons (by rw [bytes_length]; exact h)]
  congr 1
  simp [bytes]; rfl

set_option maxHeartbeats 1000000 in
theorem lit_any (t : ByteArray) (s : Txt.Sc) (u : ByteArray) (b : Nat) (w : World) (h : PenAt w b t s) (hs : s.pos ≤ t.size) (ht : t.size ≤ 100000) (hu : u.size ≤ 1000) :
    Calls Tryz.prog 70 #[.pointer (some ⟨b, 0, none⟩), .string u] w fun e w' => e = .returned (.tuple #[]) ∧ w.grownBy w' (some b) ∧ PenAt w' b t (lits t s (bytes u)) := by
  obtain ⟨S, hS⟩ : ∃ S, S = lits t s (bytes u) := ⟨_, rfl⟩
  rw [← hS]
  have HS : Hid (lits t s ((bytes u).drop 0) = S) := hS.symm
  clear hS
  go_enter Tryz.func70, Tryz.ntmps70
  go_wp2_with fail
  go_loopw [4] (fun i wr => ∃ (k : Nat) (s1 : Txt.Sc), i = .int .i64 k ∧ k ≤ u.size ∧ s1.pos ≤ t.size ∧ lits t s1 ((bytes u).drop k) = S ∧ w.grownBy wr (some b) ∧ PenAt wr b t s1) (fun i _ => u.size - (intOf i).toNat)
  case atStart => exact ⟨0, s, rfl, by omega, hs, HS.out, grown_refl _ _, h⟩
  case round =>
    obtain ⟨k, s1, rfl, hk, hp1, hl, hg, hsc⟩ := hrel
    have hl' := bytes_length u
    have hah := fun w h => ahead_any t s1 b w h ht
    have hfa := fun w h => fail_any t s1 b w h
    have hsc' := hsc
    obtain ⟨klt, k0, k1, k2, kg1, kg2⟩ := hsc'
    by_cases hku : k < u.size
    · have hku' : (k : Int) < (u.size : Int) := by omega
      have hk0 : (0 : Int) ≤ (k : Int) := by omega
      cases hb : s1.bad
      case true =>
        have HE : Hid (s1 = S) := by rw [lits_bad hb] at hl; exact hl
        rw [badI_true hb] at k2
        have hn : ¬ (s1.pos : Int) < 0 := by omega
        clear hl
        go_wp2_with fail
        go_end0
        exact ⟨rfl, hg, by rw [← HE.out]; exact hsc⟩
      case false =>
        rw [badI_false hb] at k2
        have hdrop := bytes_drop u k hku
        have HE : Hid (lits t (Txt.take t s1 (u[k].toNat : Int)) ((bytes u).drop (k + 1)) = S) := by rw [hdrop] at hl; exact hl
        have h255 : (u[k].toNat : Int) ≤ 255 := by have := UInt8.toNat_lt u[k]; omega
        clear hl hdrop hl'
        by_cases heq : Txt.byteAt t s1.pos = (u[k].toNat : Int)
        · have heqB : (Txt.byteAt t s1.pos == (u[k].toNat : Int)) = true := by simpa using heq
          have e : Txt.take t s1 (u[k].toNat : Int) = ⟨s1.pos + 1, false⟩ := by unfold Txt.take; rw [if_pos (by simp [Txt.seesB, hb, heq])]
          have hlt : s1.pos < t.size := Txt.lt_of_byteAt (by omega)
          have HE2 : Hid (lits t ⟨s1.pos + 1, false⟩ ((bytes u).drop (k + 1)) = S) := by rw [← e]; exact HE.out
          clear heq e HE
          go_wp2_with (go_at_call 36; refine (hah _ hsc).mono ?_; rintro e w1 ⟨rfl, n1, rfl⟩)
          go_roundw
          case rel => exact ⟨k + 1, ⟨s1.pos + 1, false⟩, by go_num, by omega, by show s1.pos + 1 ≤ t.size; omega, HE2.out, grown_setCell (grown_drewN hg _) _, (hsc.drewN _).moved hb _ _ (by omega)⟩
          case measure => simp [intOf]; omega
        · have heqB : (Txt.byteAt t s1.pos == (u[k].toNat : Int)) = false := by simpa using heq
          have e : Txt.take t s1 (u[k].toNat : Int) = ⟨s1.pos, true⟩ := by unfold Txt.take; rw [if_neg (by simp [Txt.seesB, hb, heq])]
          have HE2 : Hid (lits t ⟨s1.pos, true⟩ ((bytes u).drop (k + 1)) = S) := by rw [← e]; exact HE.out
          clear heq e HE
          go_wp2_with (first | (go_at_call 36; refine (hah _ hsc).mono ?_; rintro e w1 ⟨rfl, n1, rfl⟩) | (go_at_call 72; refine (hfa _ (hsc.drewN _)).mono ?_; rintro e w2 ⟨rfl, g2, hp2⟩))
          go_roundw
          case rel => exact ⟨k + 1, ⟨s1.pos, true⟩, by go_num, by omega, hp1, HE2.out, grown_trans (grown_drewN hg _) g2, hp2⟩
          case measure => simp [intOf]; omega
    · have hku' : ¬ (k : Int) < (u.size : Int) := by omega
      have HE : Hid (s1 = S) := by rw [List.drop_of_length_le (by omega)] at hl; exact hl
      clear hl
      go_wp2_with fail
      go_end0
      exact ⟨rfl, hg, by rw [← HE.out]; exact hsc⟩

end Go.Proofs.YtjaffmmocbplaabGreatDoor

namespace Go.Proofs.YtjaffmmocbplaabGreatDoor
open Go.RowKit
set_option linter.unusedVariables false

/-- what number makes of the scanner -/
theorem runD_step {t : ByteArray} {k p : Nat} {n : Int} (h : Txt.digB (Txt.byteAt t p) = true) : Txt.runD t (k + 1) p n = Txt.runD t k (p + 1) (n * 10 + (Txt.byteAt t p - 48)) := by
  show (if _ then _ else _) = _
  rw [if_pos h]
theorem runD_stop {t : ByteArray} {k p : Nat} {n : Int} (h : Txt.digB (Txt.byteAt t p) = false) : Txt.runD t k p n = (n, p) := by
  cases k with
  | zero => rfl
  | succ k => show (if _ then _ else _) = _; rw [if_neg (by simp [h])]
theorem byte_sub (c : UInt8) (h : 48 ≤ (c.toNat : Int)) : IntKind.u8.wrap ((c.toNat : Int) - 48) = (c.toNat : Int) - 48 := by
  have := UInt8.toNat_lt c
  simp [IntKind.wrap, IntKind.bits, IntKind.signed]; omega

set_option maxHeartbeats 1000000 in
theorem upTo_any (m : Nat) (hm : m ≤ 15) (t : ByteArray) (s : Txt.Sc) (b : Nat) (w : World) (h : ScanAt w b t s) (hs : s.pos ≤ t.size) (ht : t.size ≤ 100000) :
    Calls Tryz.prog 80 #[.pointer (some ⟨b, 0, none⟩), .int .i64 m] w fun e w' => e = .returned (.int .i64 (Txt.num t m s).1) ∧ w.grownBy w' (some b) ∧ ScanAt w' b t (Txt.num t m s).2 := by
  have hsee := fun w h => sees_any t s 48 b w h (by omega) ht
  have hdig := fun w h => seesDigit_any t s b w h ht
  have h' := h
  obtain ⟨hlt, h0, h1, h2, g1, g2⟩ := h'
  cases hq : Txt.seesB t s 48
  case true =>
    obtain ⟨q1, q2⟩ := Txt.seesB_iff.mp hq
    have e : Txt.num t m s = (0, ⟨s.pos + 1, s.bad⟩) := by unfold Txt.num; rw [if_neg (by simp [q1]), if_pos q2, q1]
    rw [e]
    clear e q1 q2
    go_enter Tryz.func80, Tryz.ntmps80
    go_wp2_with (go_at_call 51; refine (hsee _ h).mono ?_; rintro e w1 ⟨rfl, n1, rfl⟩)
    go_ret
    exact ⟨rfl, grown_setCell (grown_drewN (grown_refl _ _) _) _, (h.drewN _).moved _ _ (by omega)⟩
  case false =>
    cases hd : Txt.digitB t s
    case false =>
      have e : Txt.num t m s = (0, ⟨s.pos, true⟩) := by
        unfold Txt.num
        cases hb : s.bad
        · have n48 : ¬ Txt.byteAt t s.pos = 48 := by simpa [Txt.seesB, hb] using hq
          have nd : Txt.digB (Txt.byteAt t s.pos) = false := by simpa [Txt.digitB, hb] using hd
          rw [if_neg (by simp), if_neg n48, if_neg (by simp [nd])]
        · rw [if_pos rfl, ← hb]
      rw [e]
      clear e
      go_enter Tryz.func80, Tryz.ntmps80
      go_wp2_with (first | (go_at_call 51; refine (hsee _ h).mono ?_; rintro e w1 ⟨rfl, n1, rfl⟩) | (go_at_call 99; refine (hdig _ (h.drewN _)).mono ?_; rintro e w1 ⟨rfl, n2, rfl⟩))
      go_ret
      exact ⟨rfl, grown_setCell (grown_drewN (grown_refl _ _) _) _, (h.drewN _).gone true⟩
    case true =>
      have hb : s.bad = false := by cases g : s.bad; rfl; simp [Txt.digitB, g] at hd
      have hd1 : Txt.digB (Txt.byteAt t s.pos) = true := by simpa [Txt.digitB, hb] using hd
      have n48 : ¬ Txt.byteAt t s.pos = 48 := by simpa [Txt.seesB, hb] using hq
      obtain ⟨R, hR⟩ : ∃ R, R = Txt.runD t m s.pos 0 := ⟨_, rfl⟩
      have e : Txt.num t m s = (R.1, ⟨R.2, false⟩) := by unfold Txt.num; rw [if_neg (by simp [hb]), if_neg n48, if_pos hd1, hR]
      rw [e]
      have HR : Hid (Txt.runD t m s.pos 0 = R) := hR.symm
      clear e hR n48 hd1
      go_enter Tryz.func80, Tryz.ntmps80
      go_wp2_with (first | (go_at_call 51; refine (hsee _ h).mono ?_; rintro e w1 ⟨rfl, n1, rfl⟩) | (go_at_call 99; refine (hdig _ (h.drewN _)).mono ?_; rintro e w1 ⟨rfl, n2, rfl⟩))
      go_loopw [5, 6] (fun n d wr => ∃ (k p : Nat) (x : Int), d = .int .i64 k ∧ k ≤ m ∧ n = .int .i64 x ∧ 0 ≤ x ∧ x < 10 ^ k ∧ p ≤ t.size ∧ Txt.runD t (m - k) p x = R ∧ w.grownBy wr (some b) ∧ ScanAt wr b t ⟨p, false⟩) (fun _ d _ => m - (intOf d).toNat)
      case atStart =>
        exact ⟨0, s.pos, 0, rfl, by omega, rfl, by omega, by simp, hs, HR.out, grown_drewN (grown_refl _ _) _, by have := h.drewN (n1 + n2); rw [← hb]; exact this⟩
      case round =>
        obtain ⟨k, p, x, rfl, hk, rfl, hx0, hx1, hp, hrun, hg, hsc⟩ := hrel
        have hdig2 := fun w h => seesDigit_any t ⟨p, false⟩ b w h ht
        have hsc' := hsc
        obtain ⟨klt, k0, k1, k2, kg1, kg2⟩ := hsc'
        have hx2 : x < 1000000000000000 := by
          have : (10 : Int) ^ k ≤ 10 ^ 15 := Txt.pow_le10 (by omega)
          omega
        have HX : Hid (x < 10 ^ k) := hx1
        clear hx1
        by_cases hk9 : k < m
        · have hk9' : (k : Int) < (m : Int) := by omega
          cases hd2 : Txt.digitB t ⟨p, false⟩
          case true =>
            have hdb : Txt.digB (Txt.byteAt t p) = true := by simpa [Txt.digitB] using hd2
            have hdi := Txt.digB_iff.mp hdb
            have hplt : p < t.size := Txt.lt_of_byteAt (by omega)
            have hplt' : (p : Int) < (t.size : Int) := by omega
            have eb := Txt.byteAt_lt hplt
            have HS : Hid (Txt.runD t (m - (k + 1)) (p + 1) (x * 10 + ((t[p].toNat : Int) - 48)) = R) := by
              have : m - k = (m - (k + 1)) + 1 := by omega
              rw [this, runD_step hdb, eb] at hrun; exact hrun
            have hc48 : 48 ≤ (t[p].toNat : Int) ∧ (t[p].toNat : Int) ≤ 57 := by rw [← eb]; exact hdi
            clear hrun eb hdi hdb
            go_wp2_with (go_at_call 99; refine (hdig2 _ hsc).mono ?_; rintro e w1 ⟨rfl, n3, rfl⟩)
            go_quiet (fail)
            go_wp2_with fail
            go_roundw
            case rel =>
              refine ⟨k + 1, p + 1, x * 10 + ((t[p].toNat : Int) - 48), by go_num, by omega, rfl, by omega, ?_, by omega, HS.out, grown_setCell (grown_drewN hg _) _, (hsc.drewN _).moved _ _ (by omega)⟩
              rw [Int.pow_succ]; have := HX.out; omega
            case measure => simp [intOf]; omega
          case false =>
            have hdb : Txt.digB (Txt.byteAt t p) = false := by simpa [Txt.digitB] using hd2
            have HS : Hid ((x, p) = R) := by rw [runD_stop hdb] at hrun; exact hrun
            clear hrun hdb
            go_wp2_with (go_at_call 99; refine (hdig2 _ hsc).mono ?_; rintro e w1 ⟨rfl, n3, rfl⟩)
            go_ret
            exact ⟨ret_int (by rw [← HS.out]), grown_drewN hg _, by rw [← HS.out]; exact hsc.drewN _⟩
        · have h9 : ¬ (k : Int) < (m : Int) := by omega
          have HS : Hid ((x, p) = R) := by
            have e0 : m - k = 0 := by omega
            rw [e0] at hrun; exact hrun
          clear hrun
          go_wp2_with fail
          go_ret
          exact ⟨ret_int (by rw [← HS.out]), hg, by rw [← HS.out]; exact hsc⟩

set_option maxHeartbeats 400000 in
theorem number_any (t : ByteArray) (s : Txt.Sc) (b : Nat) (w : World) (h : ScanAt w b t s) (hs : s.pos ≤ t.size) (ht : t.size ≤ 100000) :
    Calls Tryz.prog 53 #[.pointer (some ⟨b, 0, none⟩)] w fun e w' => e = .returned (.int .i64 (Txt.num t 9 s).1) ∧ w.grownBy w' (some b) ∧ ScanAt w' b t (Txt.num t 9 s).2 := by
  go_enter Tryz.func53, Tryz.ntmps53
  go_wp2_with (go_at_call 80; refine (upTo_any 9 (by omega) t s b _ h hs ht).mono ?_; rintro e w1 ⟨rfl, g1, s1⟩)
  go_ret
  exact ⟨rfl, g1, s1⟩

set_option maxHeartbeats 400000 in
theorem field_any (t : ByteArray) (s : Txt.Sc) (b : Nat) (w : World) (h : ScanAt w b t s) (hs : s.pos ≤ t.size) (ht : t.size ≤ 100000) :
    Calls Tryz.prog 17 #[.pointer (some ⟨b, 0, none⟩)] w fun e w' => e = .returned (.int .i64 (Txt.field t 9 s).1) ∧ w.grownBy w' (some b) ∧ ScanAt w' b t (Txt.field t 9 s).2 := by
  go_enter Tryz.func17, Tryz.ntmps17
  go_wp2_with (first | (go_at_call 16; refine (take_any t s 32 b _ h (by omega) hs ht).mono ?_; rintro e w1 ⟨rfl, g1, s1⟩) | (go_at_call 53; refine (number_any t _ b _ s1 (Txt.take_le (by omega) hs) ht).mono ?_; rintro e w2 ⟨rfl, g2, s2⟩))
  go_ret
  exact ⟨rfl, grown_trans g1 g2, s2⟩

end Go.Proofs.YtjaffmmocbplaabGreatDoor

namespace Go.Proofs.YtjaffmmocbplaabGreatDoor
open Go.RowKit
set_option linter.unusedVariables false

/-- how far the document's number has come, behind k digits of value x, at place p -/
def numSt (t : ByteArray) (m : Nat) (s : Txt.Sc) (k p : Nat) (x : Int) : Prop :=
  (k = 0 ∧ p = s.pos ∧ x = 0) ∨ (s.bad = false ∧ k = 1 ∧ x = 0 ∧ Txt.num t m s = (0, ⟨p, false⟩)) ∨
  (s.bad = false ∧ 1 ≤ k ∧ 1 ≤ x ∧ Txt.num t m s = ((Txt.runD t (m - k) p x).1, ⟨(Txt.runD t (m - k) p x).2, false⟩))

theorem num_zero {t : ByteArray} {m : Nat} {s : Txt.Sc} (hb : s.bad = false) (h : Txt.byteAt t s.pos = 48) : Txt.num t m s = (0, ⟨s.pos + 1, false⟩) := by
  unfold Txt.num; rw [if_neg (by simp [hb]), if_pos h]
theorem num_none {t : ByteArray} {m : Nat} {s : Txt.Sc} (hb : s.bad = false) (h : ¬ (48 ≤ Txt.byteAt t s.pos ∧ Txt.byteAt t s.pos ≤ 57)) : Txt.num t m s = (0, ⟨s.pos, true⟩) := by
  unfold Txt.num; rw [if_neg (by simp [hb]), if_neg (by omega), if_neg (by rw [Txt.digB_iff]; exact h)]
theorem num_some {t : ByteArray} {m : Nat} {s : Txt.Sc} (hb : s.bad = false) (hm : 1 ≤ m) (h : 49 ≤ Txt.byteAt t s.pos ∧ Txt.byteAt t s.pos ≤ 57) :
    Txt.num t m s = ((Txt.runD t (m - 1) (s.pos + 1) (Txt.byteAt t s.pos - 48)).1, ⟨(Txt.runD t (m - 1) (s.pos + 1) (Txt.byteAt t s.pos - 48)).2, false⟩) := by
  have hd : Txt.digB (Txt.byteAt t s.pos) = true := Txt.digB_iff.mpr (by omega)
  unfold Txt.num; rw [if_neg (by simp [hb]), if_neg (by omega), if_pos hd]
  obtain ⟨k, rfl⟩ : ∃ k, m = k + 1 := ⟨m - 1, by omega⟩
  rw [runD_step hd]; simp

set_option maxHeartbeats 2000000 in
theorem penNumber_any (t : ByteArray) (s : Txt.Sc) (m : Nat) (b : Nat) (w : World) (h : PenAt w b t s) (hs : s.pos ≤ t.size) (ht : t.size ≤ 100000) (hm : 2 ≤ m) (hm' : m ≤ 15) :
    Calls Tryz.prog 71 #[.pointer (some ⟨b, 0, none⟩), .int .i64 m] w fun e w' => e = .returned (.int .i64 (Txt.num t m s).1) ∧ w.grownBy w' (some b) ∧ PenAt w' b t (Txt.num t m s).2 := by
  obtain ⟨R, hR⟩ : ∃ R, R = Txt.num t m s := ⟨_, rfl⟩
  rw [← hR]
  have HR : Hid (Txt.num t m s = R) := hR.symm
  clear hR
  go_enter Tryz.func71, Tryz.ntmps71
  go_wp2_with fail
  go_loopw [5, 6] (fun n d wr => ∃ (k p : Nat) (x : Int), d = .int .i64 k ∧ k ≤ m ∧ n = .int .i64 x ∧ 0 ≤ x ∧ x < 10 ^ k ∧ p ≤ t.size ∧ numSt t m s k p x ∧ w.grownBy wr (some b) ∧ PenAt wr b t ⟨p, s.bad⟩) (fun _ d _ => m - (intOf d).toNat)
  case atStart =>
    exact ⟨0, s.pos, 0, rfl, by omega, rfl, by omega, by simp, hs, .inl ⟨rfl, rfl, rfl⟩, grown_refl _ _, h⟩
  case round =>
    obtain ⟨k, p, x, rfl, hk, rfl, hx0, hx1, hp, hst, hg, hsc⟩ := hrel
    have hx2 : x < 1000000000000000 := by
      have : (10 : Int) ^ k ≤ 10 ^ 15 := Txt.pow_le10 (by omega)
      omega
    have HX : Hid (x < 10 ^ k) := hx1
    have hsc' := hsc
    obtain ⟨klt, k0, k1, k2, kg1, kg2⟩ := hsc'
    clear hx1
    cases hb : s.bad
    case true =>
      have hk0 : k = 0 ∧ p = s.pos ∧ x = 0 := by rcases hst with q | ⟨q, _⟩ | ⟨q, _⟩ <;> simp_all
      obtain ⟨rfl, rfl, rfl⟩ := hk0
      have HE : Hid (R = (0, s)) := by rw [← HR.out]; exact Txt.num_bad hb
      have k2' : wr.cell? ⟨b, 2, none⟩ = some (.int .i64 s.pos) := by rw [k2]; simp [badI, hb]
      have hn : ¬ (s.pos : Int) < 0 := by omega
      clear k2 hst
      go_wp2_with fail
      go_ret
      exact ⟨ret_int (by rw [HE.out]), hg, by rw [HE.out]; exact hsc⟩
    case false =>
      rw [hb] at hsc
      have k2' : wr.cell? ⟨b, 2, none⟩ = some (.int .i64 (-1)) := by rw [k2]; simp [badI, hb]
      clear k2
      obtain ⟨c, hc⟩ : ∃ c, c = Txt.byteAt t p := ⟨_, rfl⟩
      have hcb : -1 ≤ c ∧ c ≤ 255 := by rw [hc]; exact Txt.byteAt_bd t p
      have hah : ∀ w1, PenAt w1 b t ⟨p, false⟩ → Calls Tryz.prog 36 #[.pointer (some ⟨b, 0, none⟩)] w1 fun e w' => e = .returned (.int .i64 c) ∧ ∃ n, w' = w1.drewN n := fun w1 h1 => by rw [hc]; exact ahead_any t ⟨p, false⟩ b w1 h1 ht
      have hfa := fun w h => fail_any t ⟨p, false⟩ b w h
      have HC : Hid (c = Txt.byteAt t p) := hc
      clear hc
      by_cases hkm : k < m
      · have hkm' : (k : Int) < (m : Int) := by omega
        rcases hst with ⟨rfl, rfl, rfl⟩ | ⟨-, rfl, rfl, hnum⟩ | ⟨-, hk1, hx3, hnum⟩
        · by_cases hd : 48 ≤ c ∧ c ≤ 57
          · obtain ⟨hd1, hd2⟩ := hd
            have hlt : s.pos < t.size := Txt.lt_of_byteAt (by rw [← HC.out]; omega)
            have HN : Hid (numSt t m s 1 (s.pos + 1) (c - 48)) := by
              by_cases h48 : c = 48
              · exact .inr (.inl ⟨hb, rfl, by omega, num_zero hb (by rw [← HC.out]; exact h48)⟩)
              · exact .inr (.inr ⟨hb, by omega, by omega, by have := num_some (m := m) hb (by omega) (t := t) (by rw [← HC.out]; omega); rw [← HC.out] at this; exact this⟩)
            go_wp2_with (go_at_call 36; refine (hah _ hsc).mono ?_; rintro e w1 ⟨rfl, n1, rfl⟩)
            go_roundw
            case rel =>
              refine ⟨1, s.pos + 1, c - 48, by go_num, by omega, by go_num, by omega, by omega, by omega, HN.out, grown_setCell (grown_drewN hg _) _, ?_⟩
              exact (hsc.drewN _).moved rfl _ _ (by omega)
            case measure => simp [intOf]; omega
          · have HE : Hid (R = (0, ⟨s.pos, true⟩)) := by rw [← HR.out]; exact num_none hb (by rw [← HC.out]; exact hd)
            by_cases hd1 : c < 48
            all_goals
              try (have hd2 : 57 < c := by omega)
              clear hd
              go_wp2_with (first | (go_at_call 36; refine (hah _ hsc).mono ?_; rintro e w1 ⟨rfl, n1, rfl⟩) | (go_at_call 72; refine (hfa _ (hsc.drewN _)).mono ?_; rintro e w2 ⟨rfl, g2, hp2⟩))
              go_ret
              exact ⟨ret_int (by rw [HE.out]), grown_trans (grown_drewN hg _) g2, by rw [HE.out]; exact hp2⟩
        · have HE : Hid (R = (0, ⟨p, false⟩)) := by rw [← HR.out]; exact hnum
          clear hnum
          by_cases hd1 : c < 48
          · go_wp2_with (first | (go_at_call 36; refine (hah _ hsc).mono ?_; rintro e w1 ⟨rfl, n1, rfl⟩))
            go_ret
            exact ⟨ret_int (by rw [HE.out]), grown_drewN hg _, by rw [HE.out]; exact hsc.drewN _⟩
          · by_cases hd2 : 57 < c
            all_goals
              go_wp2_with (first | (go_at_call 36; refine (hah _ hsc).mono ?_; rintro e w1 ⟨rfl, n1, rfl⟩))
              go_ret
              exact ⟨ret_int (by rw [HE.out]), grown_drewN hg _, by rw [HE.out]; exact hsc.drewN _⟩
        · have hx0B : ((x : Int) == 0) = false := by simp; omega
          have hk0B : ((k : Int) == 0) = false := by simp; omega
          by_cases hd : 48 ≤ c ∧ c ≤ 57
          · obtain ⟨hd1, hd2⟩ := hd
            have hlt : p < t.size := Txt.lt_of_byteAt (by rw [← HC.out]; omega)
            have hdb : Txt.digB (Txt.byteAt t p) = true := Txt.digB_iff.mpr (by rw [← HC.out]; omega)
            have HN : Hid (numSt t m s (k + 1) (p + 1) (x * 10 + c - 48)) := by
              have e1 : m - k = (m - (k + 1)) + 1 := by omega
              have e2 : x * 10 + c - 48 = x * 10 + (Txt.byteAt t p - 48) := by rw [← HC.out]; omega
              rw [e1, runD_step hdb, ← e2] at hnum
              exact .inr (.inr ⟨hb, by omega, by omega, hnum⟩)
            clear hnum hdb
            by_cases hk1B : k = 1
            · have hk1' : ((k : Int) == 1) = true := by simp; omega
              clear hk1B
              go_wp2_with (go_at_call 36; refine (hah _ hsc).mono ?_; rintro e w1 ⟨rfl, n1, rfl⟩)
              go_roundw
              case rel =>
                refine ⟨k + 1, p + 1, x * 10 + c - 48, by go_num, by omega, rfl, by omega, ?_, by omega, HN.out, grown_setCell (grown_drewN hg _) _, ?_⟩
                · rw [Int.pow_succ]; have := HX.out; omega
                · exact (hsc.drewN _).moved rfl _ _ (by omega)
              case measure => simp [intOf]; omega
            · have hk1' : ((k : Int) == 1) = false := by simp; omega
              clear hk1B
              go_wp2_with (go_at_call 36; refine (hah _ hsc).mono ?_; rintro e w1 ⟨rfl, n1, rfl⟩)
              go_roundw
              case rel =>
                refine ⟨k + 1, p + 1, x * 10 + c - 48, by go_num, by omega, rfl, by omega, ?_, by omega, HN.out, grown_setCell (grown_drewN hg _) _, ?_⟩
                · rw [Int.pow_succ]; have := HX.out; omega
                · exact (hsc.drewN _).moved rfl _ _ (by omega)
              case measure => simp [intOf]; omega
          · have hdb : Txt.digB (Txt.byteAt t p) = false := by
              cases g : Txt.digB (Txt.byteAt t p)
              · rfl
              · exact absurd (Txt.digB_iff.mp g) (by rw [← HC.out]; exact hd)
            have HE : Hid (R = (x, ⟨p, false⟩)) := by rw [← HR.out, hnum, runD_stop hdb]; rfl
            clear hnum hdb
            by_cases hd1 : c < 48
            all_goals
              try (have hd2 : 57 < c := by omega)
              clear hd
              go_wp2_with (first | (go_at_call 36; refine (hah _ hsc).mono ?_; rintro e w1 ⟨rfl, n1, rfl⟩))
              go_ret
              exact ⟨ret_int (by rw [HE.out]), grown_drewN hg _, by rw [HE.out]; exact hsc.drewN _⟩
      · have hkm' : ¬ (k : Int) < (m : Int) := by omega
        have HE : Hid (R = (x, ⟨p, false⟩)) := by
          rw [← HR.out]
          rcases hst with ⟨h1, _⟩ | ⟨_, h1, _⟩ | ⟨_, _, _, hnum⟩
          · omega
          · omega
          · rw [hnum]; have : m - k = 0 := by omega
            rw [this]; rfl
        clear hst
        go_wp2_with fail
        go_ret
        exact ⟨ret_int (by rw [HE.out]), hg, by rw [HE.out]; exact hsc⟩

end Go.Proofs.YtjaffmmocbplaabGreatDoor

namespace Go.Proofs.YtjaffmmocbplaabGreatDoor
open Go.RowKit
set_option linter.unusedVariables false

theorem info3 : (Tryz.prog.info? 3).map (fun i => (i.zero, i.size, i.bytes)) = some (some (.int .i64 0), 1, 8) := by kernel_rfl

/-- the fields of a line: how the reader stands behind n of them, and their numbers -/
def fldS (t : ByteArray) (m : Nat) (s : Txt.Sc) : Nat → Txt.Sc
  | 0 => s
  | n + 1 => (Txt.field t m (fldS t m s n)).2
def fldL (t : ByteArray) (m : Nat) (s : Txt.Sc) : Nat → List Int
  | 0 => []
  | n + 1 => fldL t m s n ++ [(Txt.field t m (fldS t m s n)).1]
theorem fldL_length (t : ByteArray) (m : Nat) (s : Txt.Sc) : ∀ n, (fldL t m s n).length = n
  | 0 => rfl
  | n + 1 => by simp [fldL, fldL_length t m s n]
theorem fldS_le (t : ByteArray) (m : Nat) (s : Txt.Sc) (h : s.pos ≤ t.size) : ∀ n, (fldS t m s n).pos ≤ t.size
  | 0 => h
  | n + 1 => Txt.field_le (fldS_le t m s h n)
def ints (l : List Int) : List Value := l.map (Value.int .i64)
theorem ints_snoc (l : List Int) (x : Int) : ints (l ++ [x]) = ints l ++ [.int .i64 x] := by simp [ints]

theorem grown_fresh {a b c : World} {r r' : Option Nat} (h : a.grownBy b r) (h' : b.grownBy c r') (hf : ∀ k, r' = some k → a.heap.size ≤ k) : a.grownBy c r :=
  ⟨h'.os.trans h.os, h'.tape.trans h.tape, h'.output.trans h.output, Nat.le_trans h.size h'.size, fun k hk hr => (h'.block k (Nat.lt_of_lt_of_le hk h.size) (fun e => by have := hf k e.symm; omega)).trans (h.block k hk hr)⟩
theorem PenAt.grown {w w' : World} {b : Nat} {t : ByteArray} {s : Txt.Sc} {r : Option Nat} (h : PenAt w b t s) (hg : w.grownBy w' r) (hr : r ≠ some b) : PenAt w' b t s := by
  have e : w'.heap[b]? = w.heap[b]? := hg.block b h.lt (fun e => hr e.symm)
  exact ⟨Nat.lt_of_lt_of_le h.lt hg.size, (World.cell?_of_block (a := ⟨b, 0, none⟩) e).trans h.c0, (World.cell?_of_block (a := ⟨b, 1, none⟩) e).trans h.c1, (World.cell?_of_block (a := ⟨b, 2, none⟩) e).trans h.c2, (World.frozen?_of_block (a := ⟨b, 1, none⟩) e).trans h.f1, (World.frozen?_of_block (a := ⟨b, 2, none⟩) e).trans h.f2⟩
theorem PenAt.alloc {w : World} {b : Nat} {t : ByteArray} {s : Txt.Sc} (h : PenAt w b t s) (o : Obj) : PenAt (w.alloc o) b t s := h.grown (World.grownBy_alloc w o none) (by simp)
theorem ScanAt.grown {w w' : World} {b : Nat} {t : ByteArray} {s : Txt.Sc} {r : Option Nat} (h : ScanAt w b t s) (hg : w.grownBy w' r) (hr : r ≠ some b) : ScanAt w' b t s := by
  have e : w'.heap[b]? = w.heap[b]? := hg.block b h.lt (fun e => hr e.symm)
  exact ⟨Nat.lt_of_lt_of_le h.lt hg.size, (World.cell?_of_block (a := ⟨b, 0, none⟩) e).trans h.c0, (World.cell?_of_block (a := ⟨b, 1, none⟩) e).trans h.c1, (World.cell?_of_block (a := ⟨b, 2, none⟩) e).trans h.c2, (World.frozen?_of_block (a := ⟨b, 1, none⟩) e).trans h.f1, (World.frozen?_of_block (a := ⟨b, 2, none⟩) e).trans h.f2⟩
theorem ScanAt.alloc {w : World} {b : Nat} {t : ByteArray} {s : Txt.Sc} (h : ScanAt w b t s) (o : Obj) : ScanAt (w.alloc o) b t s := h.grown (World.grownBy_alloc w o none) (by simp)
/-- what is owned stays, where another block is written -/
theorem own_grown {w w' : World} {base : Nat} {e : TypeId} {size : Nat} {v : Value} {n : Nat} {xs : List Value} {b : Nat} (h : w.ownsRow base e size v n xs) (hg : w.grownBy w' (some b)) (hb : b < base) : w'.ownsRow base e size v n xs :=
  h.kept hg (.inr (fun e => by have := (h.lt b e).1; omega))

theorem lit1_any (t : ByteArray) (s : Txt.Sc) (c : UInt8) (b : Nat) (w : World) (h : PenAt w b t s) (hs : s.pos ≤ t.size) (ht : t.size ≤ 100000) :
    Calls Tryz.prog 70 #[.pointer (some ⟨b, 0, none⟩), .string ⟨#[c]⟩] w fun e w' => e = .returned (.tuple #[]) ∧ w.grownBy w' (some b) ∧ PenAt w' b t (Txt.take t s c.toNat) :=
  lit_any t s ⟨#[c]⟩ b w h hs ht (by show 1 ≤ 1000; omega)

set_option maxHeartbeats 1000000 in
theorem line_any (t : ByteArray) (s : Txt.Sc) (u : ByteArray) (n m : Nat) (b : Nat) (w : World) (h : PenAt w b t s) (hs : s.pos ≤ t.size) (ht : t.size ≤ 100000) (hu : u.size ≤ 1000) (hn : n ≤ 100) (hm : 2 ≤ m) (hm' : m ≤ 15) :
    Calls Tryz.prog 35 #[.pointer (some ⟨b, 0, none⟩), .string u, .int .i64 n, .int .i64 m] w fun e w' => ∃ v, e = .returned v ∧ w'.ownsRow w.heap.size 3 1 v n (ints (fldL t m (lits t s (bytes u)) n)) ∧ w.grownBy w' (some b) ∧
      PenAt w' b t (Txt.take t (fldS t m (lits t s (bytes u)) n) 10) := by
  obtain ⟨i0, hi, hz0, hz1, hz2⟩ := info_parts info3
  obtain ⟨s1, hs1⟩ : ∃ s1, s1 = lits t s (bytes u) := ⟨_, rfl⟩
  have hs1le : s1.pos ≤ t.size := by
    rw [hs1]; refine lits_le _ _ (fun c hc => ?_) hs
    simp only [bytes, List.mem_map] at hc
    obtain ⟨x, _, rfl⟩ := hc
    omega
  have hlit : Calls Tryz.prog 70 #[.pointer (some ⟨b, 0, none⟩), .string u] w fun e w' => e = .returned (.tuple #[]) ∧ w.grownBy w' (some b) ∧ PenAt w' b t s1 := by rw [hs1]; exact lit_any t s u b w h hs ht hu
  rw [← hs1]
  have hbw := h.lt
  clear hs1 h
  go_enter Tryz.func35, Tryz.ntmps35
  go_wp2_with (go_at_call 70; refine hlit.mono ?_; rintro e w1 ⟨rfl, g1, p1⟩)
  go_loopw [9, 10] (fun v i wr => ∃ k : Nat, i = .int .i64 k ∧ k ≤ n ∧ wr.ownsRow w.heap.size 3 1 v k (ints (fldL t m s1 k)) ∧ w.grownBy wr (some b) ∧ PenAt wr b t (fldS t m s1 k)) (fun _ i _ => n - (intOf i).toNat)
  case atStart => exact ⟨0, rfl, by omega, World.ownsRow_nil _ _ _ _, g1, p1⟩
  case round =>
    obtain ⟨k, rfl, hk, hown, hg, hp⟩ := hrel
    have hle := fldS_le t m s1 hs1le k
    obtain ⟨s2, hs2⟩ : ∃ s2, s2 = fldS t m s1 k := ⟨_, rfl⟩
    have hl1 : ∀ w1, PenAt w1 b t s2 → Calls Tryz.prog 70 #[.pointer (some ⟨b, 0, none⟩), .string ⟨#[32]⟩] w1 fun e w' => e = .returned (.tuple #[]) ∧ w1.grownBy w' (some b) ∧ PenAt w' b t (Txt.take t s2 32) := fun w1 h1 => lit1_any t s2 32 b w1 h1 (by rw [hs2]; exact hle) ht
    have hl2 : ∀ w1, PenAt w1 b t s2 → Calls Tryz.prog 70 #[.pointer (some ⟨b, 0, none⟩), .string ⟨#[10]⟩] w1 fun e w' => e = .returned (.tuple #[]) ∧ w1.grownBy w' (some b) ∧ PenAt w' b t (Txt.take t s2 10) := fun w1 h1 => lit1_any t s2 10 b w1 h1 (by rw [hs2]; exact hle) ht
    have hnu : ∀ w1, PenAt w1 b t (Txt.take t s2 32) → Calls Tryz.prog 71 #[.pointer (some ⟨b, 0, none⟩), .int .i64 m] w1 fun e w' => e = .returned (.int .i64 (Txt.field t m s2).1) ∧ w1.grownBy w' (some b) ∧ PenAt w' b t (Txt.field t m s2).2 := fun w1 h1 => penNumber_any t _ m b w1 h1 (Txt.take_le (by omega) (by rw [hs2]; exact hle)) ht hm hm'
    have HL : Hid (fldL t m s1 (k + 1) = fldL t m s1 k ++ [(Txt.field t m s2).1]) := by rw [hs2]; rfl
    have HS : Hid (fldS t m s1 (k + 1) = (Txt.field t m s2).2) := by rw [hs2]; rfl
    rw [← hs2] at hp
    have HP : Hid (s2 = fldS t m s1 k) := hs2
    clear hs2
    by_cases hlt : k < n
    · have hlt' : (k : Int) < (n : Int) := by omega
      go_wp2_with (first
        | (go_at_call 70; refine (hl1 _ hp).mono ?_; rintro e w2 ⟨rfl, g2, p2⟩)
        | (go_at_call 71; refine (hnu _ p2).mono ?_; rintro e w3 ⟨rfl, g3, p3⟩; have own3 := own_grown (own_grown hown g2 hbw) g3 hbw)
        | (at_builtin; refine wpList_append_own _ rfl _ _ 87 rfl w.heap.size 3 i0 (.int .i64 0) 1 8 Tryz.underlying87 hi hz0 hz1 hz2 rfl (by decide) _ _ _ rfl (own3.alloc _) ⟨w3.heap.size, 0, none⟩ 1 1 [.int .i64 (Txt.field t m s2).1] rfl rfl (cell_one_new _ _ _) (fun x hx => by simp at hx; subst hx; rfl) (by unfold maxLen; omega) (by omega) (by have := hg.size; have := g2.size; have := g3.size; simp; omega) ?_; intro v' w4 own4 g4 nil4))
      go_roundw
      case rel =>
        refine ⟨k + 1, by go_num, by omega, ?_, ?_, ?_⟩
        · rw [HL.out, ints_snoc]; exact own4
        · exact grown_fresh (grown_alloc (grown_trans (grown_trans hg g2) g3) _) g4 (fun j hj => (own3.lt j hj).1)
        · rw [HS.out]; exact (p3.alloc _).grown g4 (fun e => by have := (own3.lt b e).1; omega)
      case measure => simp [intOf]; omega
    · have hlt' : ¬ (k : Int) < (n : Int) := by omega
      have hkn : k = n := by omega
      subst hkn
      go_wp2_with (go_at_call 70; refine (hl2 _ hp).mono ?_; rintro e w2 ⟨rfl, g2, p2⟩)
      go_ret
      exact ⟨_, rfl, own_grown hown g2 hbw, grown_trans hg g2, by rw [← HP.out]; exact p2⟩

end Go.Proofs.YtjaffmmocbplaabGreatDoor
