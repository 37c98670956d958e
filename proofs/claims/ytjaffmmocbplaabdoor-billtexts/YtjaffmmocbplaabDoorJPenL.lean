/-
  The walks of the document's pen: lines.
-/
import Derived.Test.YtjaffmmocbplaabDoorJ03
namespace Go.Proofs.YtjaffmmocbplaabDoor
open Go.RowKit
set_option linter.unusedVariables false

theorem info3 : (Tryd.prog.info? 3).map (fun i => (i.zero, i.size, i.bytes)) = some (some (.int .i64 0), 1, 8) := by kernel_rfl

/-- the fields of a line: how the reader stands behind n of them, and their numbers -/
def fldS (t : ByteArray) (m : Nat) (s : Txt.Sc) : Nat → Txt.Sc
  | 0 => s
  | n + 1 => (Txt.field t m (fldS t m s n)).2
def fldL (t : ByteArray) (m : Nat) (s : Txt.Sc) : Nat → List Int
  | 0 => []
  | n + 1 => fldL t m s n ++ [(Txt.field t m (fldS t m s n)).1]
theorem fldL_length (t : ByteArray) (m : Nat) (s : Txt.Sc) : ∀ n, (fldL t m s n).length = n
  | 0 => rfl
  | n + 1 => by simp [fldL, fldL_length t m s n]
theorem fldS_le (t : ByteArray) (m : Nat) (s : Txt.Sc) (h : s.pos ≤ t.size) : ∀ n, (fldS t m s n).pos ≤ t.size
  | 0 => h
  | n + 1 => Txt.field_le (fldS_le t m s h n)
def ints (l : List Int) : List Value := l.map (Value.int .i64)
theorem ints_snoc (l : List Int) (x : Int) : ints (l ++ [x]) = ints l ++ [.int .i64 x] := by simp [ints]

theorem grown_fresh {a b c : World} {r r' : Option Nat} (h : a.grownBy b r) (h' : b.grownBy c r') (hf : ∀ k, r' = some k → a.heap.size ≤ k) : a.grownBy c r :=
  ⟨h'.os.trans h.os, h'.tape.trans h.tape, h'.output.trans h.output, Nat.le_trans h.size h'.size, fun k hk hr => (h'.block k (Nat.lt_of_lt_of_le hk h.size) (fun e => by have := hf k e.symm; omega)).trans (h.block k hk hr)⟩
theorem PenAt.grown {w w' : World} {b : Nat} {t : ByteArray} {s : Txt.Sc} {r : Option Nat} (h : PenAt w b t s) (hg : w.grownBy w' r) (hr : r ≠ some b) : PenAt w' b t s := by
  have e : w'.heap[b]? = w.heap[b]? := hg.block b h.lt (fun e => hr e.symm)
  exact ⟨Nat.lt_of_lt_of_le h.lt hg.size, (World.cell?_of_block (a := ⟨b, 0, none⟩) e).trans h.c0, (World.cell?_of_block (a := ⟨b, 1, none⟩) e).trans h.c1, (World.cell?_of_block (a := ⟨b, 2, none⟩) e).trans h.c2, (World.frozen?_of_block (a := ⟨b, 1, none⟩) e).trans h.f1, (World.frozen?_of_block (a := ⟨b, 2, none⟩) e).trans h.f2⟩
theorem PenAt.alloc {w : World} {b : Nat} {t : ByteArray} {s : Txt.Sc} (h : PenAt w b t s) (o : Obj) : PenAt (w.alloc o) b t s := h.grown (World.grownBy_alloc w o none) (by simp)
theorem ScanAt.grown {w w' : World} {b : Nat} {t : ByteArray} {s : Txt.Sc} {r : Option Nat} (h : ScanAt w b t s) (hg : w.grownBy w' r) (hr : r ≠ some b) : ScanAt w' b t s := by
  have e : w'.heap[b]? = w.heap[b]? := hg.block b h.lt (fun e => hr e.symm)
  exact ⟨Nat.lt_of_lt_of_le h.lt hg.size, (World.cell?_of_block (a := ⟨b, 0, none⟩) e).trans h.c0, (World.cell?_of_block (a := ⟨b, 1, none⟩) e).trans h.c1, (World.cell?_of_block (a := ⟨b, 2, none⟩) e).trans h.c2, (World.frozen?_of_block (a := ⟨b, 1, none⟩) e).trans h.f1, (World.frozen?_of_block (a := ⟨b, 2, none⟩) e).trans h.f2⟩
theorem ScanAt.alloc {w : World} {b : Nat} {t : ByteArray} {s : Txt.Sc} (h : ScanAt w b t s) (o : Obj) : ScanAt (w.alloc o) b t s := h.grown (World.grownBy_alloc w o none) (by simp)
/-- what is owned stays, where another block is written -/
theorem own_grown {w w' : World} {base : Nat} {e : TypeId} {size : Nat} {v : Value} {n : Nat} {xs : List Value} {b : Nat} (h : w.ownsRow base e size v n xs) (hg : w.grownBy w' (some b)) (hb : b < base) : w'.ownsRow base e size v n xs :=
  h.kept hg (.inr (fun e => by have := (h.lt b e).1; omega))

theorem lit1_any (t : ByteArray) (s : Txt.Sc) (c : UInt8) (b : Nat) (w : World) (h : PenAt w b t s) (hs : s.pos ≤ t.size) (ht : t.size ≤ 100000) :
    Calls Tryd.prog 49 #[.pointer (some ⟨b, 0, none⟩), .string ⟨#[c]⟩] w fun e w' => e = .returned (.tuple #[]) ∧ w.grownBy w' (some b) ∧ PenAt w' b t (Txt.take t s c.toNat) :=
  lit_any t s ⟨#[c]⟩ b w h hs ht (by show 1 ≤ 1000; omega)

set_option maxHeartbeats 1000000 in
theorem line_any (t : ByteArray) (s : Txt.Sc) (u : ByteArray) (n m : Nat) (b : Nat) (w : World) (h : PenAt w b t s) (hs : s.pos ≤ t.size) (ht : t.size ≤ 100000) (hu : u.size ≤ 1000) (hn : n ≤ 100) (hm : 2 ≤ m) (hm' : m ≤ 15) :
    Calls Tryd.prog 24 #[.pointer (some ⟨b, 0, none⟩), .string u, .int .i64 n, .int .i64 m] w fun e w' => ∃ v, e = .returned v ∧ w'.ownsRow w.heap.size 3 1 v n (ints (fldL t m (lits t s (bytes u)) n)) ∧ w.grownBy w' (some b) ∧
      PenAt w' b t (Txt.take t (fldS t m (lits t s (bytes u)) n) 10) := by
  obtain ⟨i0, hi, hz0, hz1, hz2⟩ := info_parts info3
  obtain ⟨s1, hs1⟩ : ∃ s1, s1 = lits t s (bytes u) := ⟨_, rfl⟩
  have hs1le : s1.pos ≤ t.size := by
    rw [hs1]; refine lits_le _ _ (fun c hc => ?_) hs
    simp only [bytes, List.mem_map] at hc
    obtain ⟨x, _, rfl⟩ := hc
    omega
  have hlit : Calls Tryd.prog 49 #[.pointer (some ⟨b, 0, none⟩), .string u] w fun e w' => e = .returned (.tuple #[]) ∧ w.grownBy w' (some b) ∧ PenAt w' b t s1 := by rw [hs1]; exact lit_any t s u b w h hs ht hu
  rw [← hs1]
  have hbw := h.lt
  clear hs1 h
  go_enter Tryd.func24, Tryd.ntmps24
  go_wp2_with (go_at_call 49; refine hlit.mono ?_; rintro e w1 ⟨rfl, g1, p1⟩)
  go_loopw [9, 10] (fun v i wr => ∃ k : Nat, i = .int .i64 k ∧ k ≤ n ∧ wr.ownsRow w.heap.size 3 1 v k (ints (fldL t m s1 k)) ∧ w.grownBy wr (some b) ∧ PenAt wr b t (fldS t m s1 k)) (fun _ i _ => n - (intOf i).toNat)
  case atStart => exact ⟨0, rfl, by omega, World.ownsRow_nil _ _ _ _, g1, p1⟩
  case round =>
    obtain ⟨k, rfl, hk, hown, hg, hp⟩ := hrel
    have hle := fldS_le t m s1 hs1le k
    obtain ⟨s2, hs2⟩ : ∃ s2, s2 = fldS t m s1 k := ⟨_, rfl⟩
    have hl1 : ∀ w1, PenAt w1 b t s2 → Calls Tryd.prog 49 #[.pointer (some ⟨b, 0, none⟩), .string ⟨#[32]⟩] w1 fun e w' => e = .returned (.tuple #[]) ∧ w1.grownBy w' (some b) ∧ PenAt w' b t (Txt.take t s2 32) := fun w1 h1 => lit1_any t s2 32 b w1 h1 (by rw [hs2]; exact hle) ht
    have hl2 : ∀ w1, PenAt w1 b t s2 → Calls Tryd.prog 49 #[.pointer (some ⟨b, 0, none⟩), .string ⟨#[10]⟩] w1 fun e w' => e = .returned (.tuple #[]) ∧ w1.grownBy w' (some b) ∧ PenAt w' b t (Txt.take t s2 10) := fun w1 h1 => lit1_any t s2 10 b w1 h1 (by rw [hs2]; exact hle) ht
    have hnu : ∀ w1, PenAt w1 b t (Txt.take t s2 32) → Calls Tryd.prog 50 #[.pointer (some ⟨b, 0, none⟩), .int .i64 m] w1 fun e w' => e = .returned (.int .i64 (Txt.field t m s2).1) ∧ w1.grownBy w' (some b) ∧ PenAt w' b t (Txt.field t m s2).2 := fun w1 h1 => penNumber_any t _ m b w1 h1 (Txt.take_le (by omega) (by rw [hs2]; exact hle)) ht hm hm'
    have HL : Hid (fldL t m s1 (k + 1) = fldL t m s1 k ++ [(Txt.field t m s2).1]) := by rw [hs2]; rfl
    have HS : Hid (fldS t m s1 (k + 1) = (Txt.field t m s2).2) := by rw [hs2]; rfl
    rw [← hs2] at hp
    have HP : Hid (s2 = fldS t m s1 k) := hs2
    clear hs2
    by_cases hlt : k < n
    · have hlt' : (k : Int) < (n : Int) := by omega
      go_wp2_with (first
        | (go_at_call 49; refine (hl1 _ hp).mono ?_; rintro e w2 ⟨rfl, g2, p2⟩)
        | (go_at_call 50; refine (hnu _ p2).mono ?_; rintro e w3 ⟨rfl, g3, p3⟩; have own3 := own_grown (own_grown hown g2 hbw) g3 hbw)
        | (at_builtin; refine wpList_append_own _ rfl _ _ 63 rfl w.heap.size 3 i0 (.int .i64 0) 1 8 Tryd.underlying63 hi hz0 hz1 hz2 rfl (by decide) _ _ _ rfl (own3.alloc _) ⟨w3.heap.size, 0, none⟩ 1 1 [.int .i64 (Txt.field t m s2).1] rfl rfl (cell_one_new _ _ _) (fun x hx => by simp at hx; subst hx; rfl) (by unfold maxLen; omega) (by omega) (by have := hg.size; have := g2.size; have := g3.size; simp; omega) ?_; intro v' w4 own4 g4 nil4))
      go_roundw
      case rel =>
        refine ⟨k + 1, by go_num, by omega, ?_, ?_, ?_⟩
        · rw [HL.out, ints_snoc]; exact own4
        · exact grown_fresh (grown_alloc (grown_trans (grown_trans hg g2) g3) _) g4 (fun j hj => (own3.lt j hj).1)
        · rw [HS.out]; exact (p3.alloc _).grown g4 (fun e => by have := (own3.lt b e).1; omega)
      case measure => simp [intOf]; omega
    · have hlt' : ¬ (k : Int) < (n : Int) := by omega
      have hkn : k = n := by omega
      subst hkn
      go_wp2_with (go_at_call 49; refine (hl2 _ hp).mono ?_; rintro e w2 ⟨rfl, g2, p2⟩)
      go_ret
      exact ⟨_, rfl, own_grown hown g2 hbw, grown_trans hg g2, by rw [← HP.out]; exact p2⟩

end Go.Proofs.YtjaffmmocbplaabDoor
