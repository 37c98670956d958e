/-
  The walk of all lines of a meter file ahead of the last one: the program's.
-/
import Derived.Test.YtjaffmmocbplaabPenV
namespace Go.Proofs.Ytjaffmmocbplaab
open Go.RowKit
set_option linter.unusedVariables false

theorem infoV : (Try.prog.info? 69).map (fun i => (i.zero, i.size, i.bytes)) = some (some (.agg #[.int .i64 0, .int .i64 0, .bool false]), 3, 24) := by kernel_rfl
theorem infoRV : (Try.prog.info? 95).map (fun i => (i.zero, i.size, i.bytes)) = some (some (.agg #[.int .i64 0, .int .i64 0, .bool false]), 3, 24) := by kernel_rfl

def vcell (v : Txt.Val) : List Value := [.int .i64 v.i, .int .i64 v.o, .bool v.m]
def vcs (l : List Txt.Val) : List Value := l.flatMap vcell
theorem vcs_snoc (l : List Txt.Val) (x : Txt.Val) : vcs (l ++ [x]) = vcs l ++ vcell x := by simp [vcs]
theorem vcs_length (l : List Txt.Val) : (vcs l).length = l.length * 3 := by
  induction l with
  | nil => rfl
  | cons x l ih => show (vcell x ++ vcs l).length = _; rw [List.length_append, ih]; simp [vcell]; omega
theorem cell_three_new (w : World) (a b c : Value) (t : TypeId) : ∀ j u, [a, b, c][j]? = some u → (w.alloc (.cells #[a, b, c] t)).cell? ((⟨w.heap.size, 0, none⟩ : Addr).add j) = some u := by
  intro j u hj
  match j, hj with
  | 0, hj => simp at hj; subst hj; simp [Addr.add, go_sem]
  | 1, hj => simp at hj; subst hj; simp [Addr.add, go_sem]
  | 2, hj => simp at hj; subst hj; simp [Addr.add, go_sem]

theorem own_slice {w : World} {base : Nat} {e : TypeId} {size : Nat} {v : Value} {n : Nat} {xs : List Value} (h : w.ownsRow base e size v n xs) : ∃ a cap, v = .slice a n cap := by
  rcases h.2 with ⟨h1, h2⟩ | ⟨g, cap, _, hv, _⟩
  · subst h2; exact ⟨_, _, h1⟩
  · exact ⟨_, _, hv⟩

theorem own_base {w : World} {base base' : Nat} {e : TypeId} {size : Nat} {v : Value} {n : Nat} {xs : List Value} (h : w.ownsRow base e size v n xs) (hb : base' ≤ base) : w.ownsRow base' e size v n xs :=
  ⟨h.1, h.2.imp id fun ⟨g, cap, cur, hv, hg, r⟩ => ⟨g, cap, cur, hv, Nat.le_trans hb hg, r⟩⟩
theorem app_far {w2 w4 : World} {o1 o2 : Obj} {base : Nat} {e : TypeId} {size : Nat} {v : Value} {n : Nat} {xs : List Value} (own : ((w2.alloc o1).alloc o2).ownsRow base e size v n xs) (g4 : ((w2.alloc o1).alloc o2).grownBy w4 v.ownBlock) (hb : base ≤ w2.heap.size) :
    (∀ k o, k < base → w4.cell? ⟨k, o, none⟩ = w2.cell? ⟨k, o, none⟩) ∧ (∀ k o, k < base → w4.frozen? ⟨k, o, none⟩ = w2.frozen? ⟨k, o, none⟩) := by
  have key : ∀ k, k < base → w4.heap[k]? = w2.heap[k]? := fun k hk => by
    rw [g4.block k (by simp; omega) (fun h => by have := (own.lt k h.symm).1; omega), Below.heap_alloc _ _ _ (by simp; omega), Below.heap_alloc _ _ _ (by omega)]
  exact ⟨fun k o hk => World.cell?_of_block (a := ⟨k, o, none⟩) (key k hk), fun k o hk => World.frozen?_of_block (a := ⟨k, o, none⟩) (key k hk)⟩

/-- how far a reader is from the end: for a loop's measure -/
def left (n b : Nat) (w : World) : Nat :=
  match w.cell? ⟨b, 2, none⟩ with
  | some (.bool true) => 0
  | _ => match w.cell? ⟨b, 1, none⟩ with
    | some (.int _ p) => n + 1 - p.toNat
    | _ => 0
theorem left_at {w : World} {b : Nat} {t : ByteArray} {s : Txt.Sc} (h : ScanAt w b t s) : left t.size b w = if s.bad then 0 else t.size + 1 - s.pos := by
  unfold left; rw [h.c2, h.c1]; cases s.bad <;> simp

/-- the first line -/
def hd (t : ByteArray) (s : Txt.Sc) : Int × Int × Txt.Sc :=
  ((Txt.field t 9 (Txt.take t s 72)).1, (Txt.field t 9 (Txt.field t 9 (Txt.take t s 72)).2).1, Txt.take t (Txt.field t 9 (Txt.field t 9 (Txt.take t s 72)).2).2 10)
theorem hd_le {t : ByteArray} {s : Txt.Sc} (h : s.pos ≤ t.size) : (hd t s).2.2.pos ≤ t.size := Txt.take_le (by omega) (Txt.field_le (Txt.field_le (Txt.take_le (by omega) h)))

end Go.Proofs.Ytjaffmmocbplaab
