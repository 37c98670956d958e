/-
  The program's periods.
-/
import Derived.Test.YtjaffmmocbplaabGreatDoorJ07
import Derived.Test.YtjaffmmocbplaabGreatDoorJ08
import Derived.Test.YtjaffmmocbplaabGreatDoorJ11
namespace Go.Proofs.YtjaffmmocbplaabGreatDoor
open Go.RowKit
set_option linter.unusedVariables false
attribute [local go_sem ↓] Go.wp_at_zero Go.wp_at_succ

theorem infoP : (Tryz.prog.info? 92).map (fun i => (i.zero, i.size, i.bytes)) = some (some (.agg #[.int .i64 0, .int .i64 0, .int .i64 0, .int .i64 0, .int .i64 0]), 5, 40) := by kernel_rfl
def pcell (p : Per) : List Value := [.int .i64 p.i0, .int .i64 p.i1, .int .i64 p.i2, .int .i64 p.o, .int .i64 p.pk]
def pcs (l : List Per) : List Value := l.flatMap pcell
theorem pcs_snoc (l : List Per) (x : Per) : pcs (l ++ [x]) = pcs l ++ pcell x := by simp [pcs]
theorem pcs_length (l : List Per) : (pcs l).length = l.length * 5 := by
  induction l with
  | nil => rfl
  | cons x l ih => show (pcell x ++ pcs l).length = _; rw [List.length_append, ih]; simp [pcell]; omega
theorem cell_five_new (w : World) (a b c d f : Value) (t : TypeId) : ∀ j u, [a, b, c, d, f][j]? = some u → (w.alloc (.cells #[a, b, c, d, f] t)).cell? ((⟨w.heap.size, 0, none⟩ : Addr).add j) = some u := by
  intro j u hj
  match j, hj with
  | 0, hj => simp at hj; subst hj; simp [Addr.add, go_sem]
  | 1, hj => simp at hj; subst hj; simp [Addr.add, go_sem]
  | 2, hj => simp at hj; subst hj; simp [Addr.add, go_sem]
  | 3, hj => simp at hj; subst hj; simp [Addr.add, go_sem]
  | 4, hj => simp at hj; subst hj; simp [Addr.add, go_sem]

def okC (t : Trf) (step start : Int) (i : Nat) : Bool := Zon.clockB t.z (start + i * step)
theorem okC_day {t : Trf} {step start : Int} {i : Nat} (h : okC t step start i = true) : 0 ≤ dayAt t step start i ∧ dayAt t step start i ≤ 36524 ∧ 0 ≤ minAt t step start i ∧ minAt t step start i ≤ 1439 := by
  unfold okC at h
  simp only [Zon.clockB, Bool.and_eq_true, decide_eq_true_eq, inB_iff] at h
  obtain ⟨⟨⟨_, h1⟩, h2⟩, h3⟩ := h
  have h4 : 0 ≤ Zon.there t.z (start + i * step) := by unfold Zon.there; split <;> omega
  unfold dayAt minAt; omega
theorem days_ok {t : Trf} (h : badN t = 13) : 1 ≤ t.days ∧ t.days ≤ 31 := by
  have : (inB t.days 1 31 && inB t.gap 0 8) = true := badN_good (t := t) (j := 1) (by omega)
  simp only [Bool.and_eq_true, inB_iff] at this
  omega
/-- what holds of the state -/
def okS (s : PSt) (k : Nat) : Prop := okP s.p k ∧ (s.dn.length : Int) ≤ s.en ∧ s.en ≤ 36555
theorem run_ok {t : Trf} {step start : Int} {l : List Txt.Val} (ht : badN t = 13) (hs : step = 15 ∨ step = 30 ∨ step = 60) (hall : l.all valB = true) : ∀ k, k ≤ l.length → (∀ j, j < k → okC t step start j = true) → okS (runP t step start l k) k
  | 0, _, _ => ⟨okP_zero 0, by show ((0 : Nat) : Int) ≤ 0; omega, by show (0 : Int) ≤ 36555; omega⟩
  | k + 1, hk, hc => by
    obtain ⟨a, b, c⟩ := run_ok ht hs hall k (by omega) (fun j hj => hc j (by omega))
    obtain ⟨d0, d1⟩ := days_ok ht
    obtain ⟨e0, e1, _⟩ := okC_day (hc k (by omega))
    have hb : okS (begP t step start (runP t step start l k) k) k ∧ 0 ≤ (begP t step start (runP t step start l k) k).en := by
      unfold begP
      split
      · rename_i g; subst g
        exact ⟨⟨a, by show ((0 : Nat) : Int) ≤ _; simp only; omega, by simp only; omega⟩, by simp only; omega⟩
      · exact ⟨⟨a, b, c⟩, by omega⟩
    obtain ⟨⟨a', b', c'⟩, z'⟩ := hb
    obtain ⟨p1, p2, p3, p4, p5⟩ := push_ok (day := dayAt t step start k) (k := k) d0 d1 _ (begP t step start (runP t step start l k) k) (Nat.le_refl _) a'
    have vb := valB_bd (List.all_eq_true.mp hall (Fil.vAt l k) (List.mem_of_getElem? (Fil.get_ex (show k < l.length by omega))))
    refine ⟨okP_add p1 vb.1 vb.2 hs, ?_, ?_⟩
    · show ((pushP t.days (dayAt t step start k) (begP t step start (runP t step start l k) k)).dn.length : Int) ≤ (pushP t.days (dayAt t step start k) (begP t step start (runP t step start l k) k)).en
      omega
    · show (pushP t.days (dayAt t step start k) (begP t step start (runP t step start l k) k)).en ≤ 36555
      rcases p3 with g | g
      · omega
      · rw [g]; exact c'

/-- the period under way, in memory -/
structure PAt (w : World) (b : Nat) (p : Per) : Prop where
  c0 : w.cell? ⟨b, 0, none⟩ = some (.int .i64 p.i0)
  c1 : w.cell? ⟨b, 1, none⟩ = some (.int .i64 p.i1)
  c2 : w.cell? ⟨b, 2, none⟩ = some (.int .i64 p.i2)
  c3 : w.cell? ⟨b, 3, none⟩ = some (.int .i64 p.o)
  c4 : w.cell? ⟨b, 4, none⟩ = some (.int .i64 p.pk)
  f0 : w.frozen? ⟨b, 0, none⟩ = false
  f1 : w.frozen? ⟨b, 1, none⟩ = false
  f2 : w.frozen? ⟨b, 2, none⟩ = false
  f3 : w.frozen? ⟨b, 3, none⟩ = false
  f4 : w.frozen? ⟨b, 4, none⟩ = false
theorem PAt.of_block {w w' : World} {b : Nat} {p : Per} (h : PAt w b p) (e : w'.heap[b]? = w.heap[b]?) : PAt w' b p :=
  ⟨(World.cell?_of_block (a := ⟨b, 0, none⟩) e).trans h.c0, (World.cell?_of_block (a := ⟨b, 1, none⟩) e).trans h.c1, (World.cell?_of_block (a := ⟨b, 2, none⟩) e).trans h.c2, (World.cell?_of_block (a := ⟨b, 3, none⟩) e).trans h.c3, (World.cell?_of_block (a := ⟨b, 4, none⟩) e).trans h.c4,
    (World.frozen?_of_block (a := ⟨b, 0, none⟩) e).trans h.f0, (World.frozen?_of_block (a := ⟨b, 1, none⟩) e).trans h.f1, (World.frozen?_of_block (a := ⟨b, 2, none⟩) e).trans h.f2, (World.frozen?_of_block (a := ⟨b, 3, none⟩) e).trans h.f3, (World.frozen?_of_block (a := ⟨b, 4, none⟩) e).trans h.f4⟩
theorem PAt.below {w w' : World} {b : Nat} {p : Per} (h : PAt w b p) (hb : Below w.heap.size w w') : PAt w' b p :=
  h.of_block (hb.block b (World.block_lt_of_cell? w ⟨b, 0, none⟩ h.c0))
theorem PAt.lt {w : World} {b : Nat} {p : Per} (h : PAt w b p) : b < w.heap.size := World.block_lt_of_cell? w ⟨b, 0, none⟩ h.c0
/-- five stores -/
theorem PAt.store {w : World} {b : Nat} {p : Per} (h : PAt w b p) (q : Per) : PAt (((((w.setCell ⟨b, 0, none⟩ (.int .i64 q.i0)).setCell ⟨b, 1, none⟩ (.int .i64 q.i1)).setCell ⟨b, 2, none⟩ (.int .i64 q.i2)).setCell ⟨b, 3, none⟩ (.int .i64 q.o)).setCell ⟨b, 4, none⟩ (.int .i64 q.pk)) b q := by
  obtain ⟨c0, c1, c2, c3, c4, f0, f1, f2, f3, f4⟩ := h
  constructor <;> simp [go_sem, c0, c1, c2, c3, c4, f0, f1, f2, f3, f4]
end Go.Proofs.YtjaffmmocbplaabGreatDoor
