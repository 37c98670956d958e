/-
  The walks of the document's pen.
-/
import Derived.Test.YtjaffmmocbplaaaScanW
namespace Go.Proofs.Ytjaffmmocbplaaa
open Go.RowKit
set_option linter.unusedVariables false

def badI (s : Txt.Sc) : Int := if s.bad then s.pos else -1
theorem badI_true {s : Txt.Sc} (h : s.bad = true) : badI s = s.pos := by unfold badI; rw [if_pos h]
theorem badI_false {s : Txt.Sc} (h : s.bad = false) : badI s = -1 := by unfold badI; rw [if_neg (by simp [h])]
/-- the pen in block b -/
structure PenAt (w : World) (b : Nat) (t : ByteArray) (s : Txt.Sc) : Prop where
  lt : b < w.heap.size
  c0 : w.cell? ⟨b, 0, none⟩ = some (.string t)
  c1 : w.cell? ⟨b, 1, none⟩ = some (.int .i64 s.pos)
  c2 : w.cell? ⟨b, 2, none⟩ = some (.int .i64 (badI s))
  f1 : w.frozen? ⟨b, 1, none⟩ = false
  f2 : w.frozen? ⟨b, 2, none⟩ = false
theorem PenAt.drewN {w : World} {b : Nat} {t : ByteArray} {s : Txt.Sc} (h : PenAt w b t s) (n : Nat) : PenAt (w.drewN n) b t s := ⟨h.lt, h.c0, h.c1, h.c2, h.f1, h.f2⟩
theorem PenAt.moved {w : World} {b : Nat} {t : ByteArray} {s : Txt.Sc} (h : PenAt w b t s) (hb : s.bad = false) (p : Nat) (v : Int) (e : v = p) : PenAt (w.setCell ⟨b, 1, none⟩ (.int .i64 v)) b t ⟨p, false⟩ := by
  obtain ⟨hlt, h0, h1, h2, g1, g2⟩ := h
  subst e
  rw [badI_false hb] at h2
  exact ⟨by simpa [World.setCell] using hlt, by simp [go_sem, h0], by simp [go_sem, h1], by simp [go_sem, h2, badI], by simp [go_sem, g1], by simp [go_sem, g2]⟩
theorem PenAt.gone {w : World} {b : Nat} {t : ByteArray} {s : Txt.Sc} (h : PenAt w b t s) : PenAt (w.setCell ⟨b, 2, none⟩ (.int .i64 s.pos)) b t ⟨s.pos, true⟩ := by
  obtain ⟨hlt, h0, h1, h2, g1, g2⟩ := h
  exact ⟨by simpa [World.setCell] using hlt, by simp [go_sem, h0], by simp [go_sem, h1], by simp [go_sem, h2, badI], by simp [go_sem, g1], by simp [go_sem, g2]⟩

theorem drewN_twice (w : World) (a b : Nat) : (w.drewN a).drewN b = w.drewN (a + b) := by simp [go_sem]

set_option maxHeartbeats 400000 in
theorem ahead_any (t : ByteArray) (s : Txt.Sc) (b : Nat) (w : World) (h : PenAt w b t s) (ht : t.size ≤ 100000) :
    Calls Try.prog 55 #[.pointer (some ⟨b, 0, none⟩)] w fun e w' => e = .returned (.int .i64 (Txt.byteAt t s.pos)) ∧ ∃ n, w' = w.drewN n := by
  obtain ⟨hlt, h0, h1, h2, -, -⟩ := h
  by_cases hp : s.pos < t.size
  · have hp' : (s.pos : Int) < (t.size : Int) := by omega
    have hp0 : (0 : Int) ≤ (s.pos : Int) := by omega
    have hp255 : (t[s.pos].toNat : Int) ≤ 255 := by have := UInt8.toNat_lt t[s.pos]; omega
    go_enter Try.func55, Try.ntmps55
    go_wp2_with fail
    go_quiet (fail)
    go_wp2_with fail
    go_quiet (fail)
    go_wp2_with fail
    go_ret
    exact ⟨ret_int (Txt.byteAt_lt hp).symm, _, drewN_twice _ _ _⟩
  · have hp' : ¬ (s.pos : Int) < (t.size : Int) := by omega
    go_enter Try.func55, Try.ntmps55
    go_wp2_with fail
    go_quiet (fail)
    go_wp2_with fail
    go_ret
    exact ⟨ret_int (Txt.byteAt_ge hp).symm, _, rfl⟩

set_option maxHeartbeats 400000 in
theorem fail_any (t : ByteArray) (s : Txt.Sc) (b : Nat) (w : World) (h : PenAt w b t s) :
    Calls Try.prog 82 #[.pointer (some ⟨b, 0, none⟩)] w fun e w' => e = .returned (.tuple #[]) ∧ w.grownBy w' (some b) ∧ PenAt w' b t ⟨s.pos, true⟩ := by
  have h' := h
  obtain ⟨hlt, h0, h1, h2, g1, g2⟩ := h'
  cases hb : s.bad
  case false =>
    rw [badI_false hb] at h2
    go_enter Try.func82, Try.ntmps82
    go_wp2_with fail
    go_end0
    exact ⟨rfl, grown_setCell (grown_refl _ _) _, h.gone⟩
  case true =>
    rw [badI_true hb] at h2
    have hn : ¬ (s.pos : Int) < 0 := by omega
    go_enter Try.func82, Try.ntmps82
    go_wp2_with fail
    go_end0
    exact ⟨rfl, grown_refl _ _, by rw [← hb]; exact h⟩

set_option maxHeartbeats 400000 in
theorem done_any (t : ByteArray) (s : Txt.Sc) (b : Nat) (w : World) (h : PenAt w b t s) (hs : s.pos ≤ t.size) (ht : t.size ≤ 100000) :
    Calls Try.prog 57 #[.pointer (some ⟨b, 0, none⟩)] w fun e w' => e = .returned (.int .i64 (badI (Txt.fin t s))) ∧ w.grownBy w' (some b) ∧ PenAt w' b t (Txt.fin t s) := by
  have h' := h
  obtain ⟨hlt, h0, h1, h2, g1, g2⟩ := h'
  by_cases hp : s.pos < t.size
  · have hp' : (s.pos : Int) < (t.size : Int) := by omega
    have e : Txt.fin t s = ⟨s.pos, true⟩ := by unfold Txt.fin; rw [if_pos hp]
    rw [e]
    clear e
    go_enter Try.func57, Try.ntmps57
    go_wp2_with fail
    go_quiet (fail)
    go_wp2_with (go_at_call 82; refine (fail_any t s b _ (h.drewN _)).mono ?_; rintro e w1 ⟨rfl, g, hp1⟩; have k2 := hp1.c2)
    go_ret
    exact ⟨rfl, grown_trans (grown_drewN (grown_refl _ _) _) g, hp1⟩
  · have hp' : ¬ (s.pos : Int) < (t.size : Int) := by omega
    have e : Txt.fin t s = s := by unfold Txt.fin; rw [if_neg hp]
    rw [e]
    clear e
    go_enter Try.func57, Try.ntmps57
    go_wp2_with fail
    go_quiet (fail)
    go_wp2_with fail
    go_ret
    exact ⟨rfl, grown_drewN (grown_refl _ _) _, h.drewN _⟩

/-- the document's words, a byte each -/
def lits (t : ByteArray) : Txt.Sc → List Int → Txt.Sc
  | s, [] => s
  | s, c :: l => lits t (Txt.take t s c) l
theorem lits_bad {t : ByteArray} {s : Txt.Sc} (h : s.bad = true) : ∀ l, lits t s l = s
  | [] => rfl
  | c :: l => by show lits t (Txt.take t s c) l = s; rw [Txt.take_bad h]; exact lits_bad h l
theorem lits_le {t : ByteArray} : ∀ (l : List Int) (s : Txt.Sc), (∀ c ∈ l, 0 ≤ c) → s.pos ≤ t.size → (lits t s l).pos ≤ t.size
  | [], s, _, h => h
  | c :: l, s, hc, h => lits_le l (Txt.take t s c) (fun d hd => hc d (List.mem_cons_of_mem _ hd)) (Txt.take_le (hc c (List.mem_cons_self ..)) h)
def bytes (u : ByteArray) : List Int := u.data.toList.map fun c => (c.toNat : Int)

theorem bytes_length (u : ByteArray) : (bytes u).length = u.size := by unfold bytes; rw [List.length_map]; rfl
theorem bytes_drop (u : ByteArray) (k : Nat) (h : k < u.size) : (bytes u).drop k = (u[k].toNat : Int) :: (bytes u).drop (k + 1) := by
  rw [List.drop_eq_getElem_cons (by rw [bytes_length]; exact h)]
  congr 1
  simp [bytes]; rfl

set_option maxHeartbeats 1000000 in
theorem lit_any (t : ByteArray) (s : Txt.Sc) (u : ByteArray) (b : Nat) (w : World) (h : PenAt w b t s) (hs : s.pos ≤ t.size) (ht : t.size ≤ 100000) (hu : u.size ≤ 1000) :
    Calls Try.prog 80 #[.pointer (some ⟨b, 0, none⟩), .string u] w fun e w' => e = .returned (.tuple #[]) ∧ w.grownBy w' (some b) ∧ PenAt w' b t (lits t s (bytes u)) := by
  obtain ⟨S, hS⟩ : ∃ S, S = lits t s (bytes u) := ⟨_, rfl⟩
  rw [← hS]
  have HS : Hid (lits t s ((bytes u).drop 0) = S) := hS.symm
  clear hS
  go_enter Try.func80, Try.ntmps80
  go_wp2_with fail
  go_loopw [4] (fun i wr => ∃ (k : Nat) (s1 : Txt.Sc), i = .int .i64 k ∧ k ≤ u.size ∧ s1.pos ≤ t.size ∧ lits t s1 ((bytes u).drop k) = S ∧ w.grownBy wr (some b) ∧ PenAt wr b t s1) (fun i _ => u.size - (intOf i).toNat)
  case atStart => exact ⟨0, s, rfl, by omega, hs, HS.out, grown_refl _ _, h⟩
  case round =>
    obtain ⟨k, s1, rfl, hk, hp1, hl, hg, hsc⟩ := hrel
    have hl' := bytes_length u
    have hah := fun w h => ahead_any t s1 b w h ht
    have hfa := fun w h => fail_any t s1 b w h
    have hsc' := hsc
    obtain ⟨klt, k0, k1, k2, kg1, kg2⟩ := hsc'
    by_cases hku : k < u.size
    · have hku' : (k : Int) < (u.size : Int) := by omega
      have hk0 : (0 : Int) ≤ (k : Int) := by omega
      cases hb : s1.bad
      case true =>
        have HE : Hid (s1 = S) := by rw [lits_bad hb] at hl; exact hl
        rw [badI_true hb] at k2
        have hn : ¬ (s1.pos : Int) < 0 := by omega
        clear hl
        go_wp2_with fail
        go_end0
        exact ⟨rfl, hg, by rw [← HE.out]; exact hsc⟩
      case false =>
        rw [badI_false hb] at k2
        have hdrop := bytes_drop u k hku
        have HE : Hid (lits t (Txt.take t s1 (u[k].toNat : Int)) ((bytes u).drop (k + 1)) = S) := by rw [hdrop] at hl; exact hl
        have h255 : (u[k].toNat : Int) ≤ 255 := by have := UInt8.toNat_lt u[k]; omega
        clear hl hdrop hl'
        by_cases heq : Txt.byteAt t s1.pos = (u[k].toNat : Int)
        · have heqB : (Txt.byteAt t s1.pos == (u[k].toNat : Int)) = true := by simpa using heq
          have e : Txt.take t s1 (u[k].toNat : Int) = ⟨s1.pos + 1, false⟩ := by unfold Txt.take; rw [if_pos (by simp [Txt.seesB, hb, heq])]
          have hlt : s1.pos < t.size := Txt.lt_of_byteAt (by omega)
          have HE2 : Hid (lits t ⟨s1.pos + 1, false⟩ ((bytes u).drop (k + 1)) = S) := by rw [← e]; exact HE.out
          clear heq e HE
          go_wp2_with (go_at_call 55; refine (hah _ hsc).mono ?_; rintro e w1 ⟨rfl, n1, rfl⟩)
          go_roundw
          case rel => exact ⟨k + 1, ⟨s1.pos + 1, false⟩, by go_num, by omega, by show s1.pos + 1 ≤ t.size; omega, HE2.out, grown_setCell (grown_drewN hg _) _, (hsc.drewN _).moved hb _ _ (by omega)⟩
          case measure => simp [intOf]; omega
        · have heqB : (Txt.byteAt t s1.pos == (u[k].toNat : Int)) = false := by simpa using heq
          have e : Txt.take t s1 (u[k].toNat : Int) = ⟨s1.pos, true⟩ := by unfold Txt.take; rw [if_neg (by simp [Txt.seesB, hb, heq])]
          have HE2 : Hid (lits t ⟨s1.pos, true⟩ ((bytes u).drop (k + 1)) = S) := by rw [← e]; exact HE.out
          clear heq e HE
          go_wp2_with (first | (go_at_call 55; refine (hah _ hsc).mono ?_; rintro e w1 ⟨rfl, n1, rfl⟩) | (go_at_call 82; refine (hfa _ (hsc.drewN _)).mono ?_; rintro e w2 ⟨rfl, g2, hp2⟩))
          go_roundw
          case rel => exact ⟨k + 1, ⟨s1.pos, true⟩, by go_num, by omega, hp1, HE2.out, grown_trans (grown_drewN hg _) g2, hp2⟩
          case measure => simp [intOf]; omega
    · have hku' : ¬ (k : Int) < (u.size : Int) := by omega
      have HE : Hid (s1 = S) := by rw [List.drop_of_length_le (by omega)] at hl; exact hl
      clear hl
      go_wp2_with fail
      go_end0
      exact ⟨rfl, hg, by rw [← HE.out]; exact hsc⟩

end Go.Proofs.Ytjaffmmocbplaaa
