/-
  The document's PrintTariff (made by tools/genprn.py).
-/
import Derived.Test.YtjaffmmocbplaaaDoorPrtE
import Derived.Test.YtjaffmmocbplaaaDoorPrtZ
import Derived.Test.YtjaffmmocbplaaaDoorGdW
namespace Go.Proofs.YtjaffmmocbplaaaDoor
open Go.RowKit Go.Shelf
set_option linter.unusedVariables false
attribute [local go_sem ↓] Go.wp_at_zero Go.wp_at_succ
set_option maxRecDepth 100000 in
theorem ruleRow_any (r : Zon.Rul) (w : World) :
    Calls Tryd.prog 40 #[.agg #[.int .i64 r.m, .int .i64 r.w, .int .i64 r.d, .int .i64 r.h]] w fun e w' => ∃ g, e = .returned (.slice (some ⟨g, 0, none⟩) 4 4) ∧ w.heap.size ≤ g ∧ w'.heap[g]? = some (.cells ([r.m, r.w, r.d, r.h].map (Value.int .i64)).toArray 3 (0, 0)) ∧ Below w.heap.size w w' := by
  go_enter Tryd.func40, Tryd.ntmps40
  go_wp2_with fail
  refine bodyPost_ret (v := .slice (some ⟨w.heap.size + 1, 0, none⟩) 4 4) (by simp [results, Tryd.results40, go_sem]) rfl ⟨_, rfl, by omega, heap_alloc2_new _ _ _, below_more (below_more (Below.refl _ _) _) _⟩
def zRow (t : Trf) : ByteArray := rowS ⟨#[90]⟩ [(t.z.off + 720), t.z.f.m, t.z.f.w, t.z.f.d, t.z.f.h, t.z.t.m, t.z.t.w, t.z.t.d, t.z.t.h]
def hE (t : Trf) (X : ByteArray) : Nat → ByteArray
  | 0 => X
  | k + 1 => hE t X k ++ ⟨#[87, 32]⟩ ++ hAt t k ++ ⟨#[10]⟩
def bE (t : Trf) (X : ByteArray) : Nat → ByteArray
  | 0 => X
  | k + 1 => bE t X k ++ rowS ⟨#[66]⟩ [(bAt t k).x, (bAt t k).y, (bAt t k).z]
/-- the text of a tariff as the document builds it -/
def tD (t : Trf) : ByteArray := bE t (hE t (zRow t ++ rowS ⟨#[68]⟩ [t.days, t.gap] ++ rowS ⟨#[83]⟩ [t.first, t.last]) 4) 3 ++ rowS ⟨#[77]⟩ [t.d.x, t.d.y, t.d.z] ++ rowS ⟨#[78]⟩ [t.np, t.nn] ++ rowS ⟨#[70]⟩ [t.fix, t.min, t.tax]
theorem row3 (c : ByteArray) (a b d : Int) : rowS c [a, b, d] = c ++ fS a ++ fS b ++ fS d ++ ⟨#[10]⟩ := by
  show c ++ ⟨#[32]⟩ ++ dS a ++ ⟨#[32]⟩ ++ dS b ++ ⟨#[32]⟩ ++ dS d ++ ⟨#[10]⟩ = _
  unfold fS; simp only [ByteArray.append_assoc]
theorem zRow_eq (t : Trf) : zRow t = lZ t := by
  show ⟨#[90]⟩ ++ ⟨#[32]⟩ ++ dS (t.z.off + 720) ++ ⟨#[32]⟩ ++ dS t.z.f.m ++ ⟨#[32]⟩ ++ dS t.z.f.w ++ ⟨#[32]⟩ ++ dS t.z.f.d ++ ⟨#[32]⟩ ++ dS t.z.f.h ++ ⟨#[32]⟩ ++ dS t.z.t.m ++ ⟨#[32]⟩ ++ dS t.z.t.w ++ ⟨#[32]⟩ ++ dS t.z.t.d ++ ⟨#[32]⟩ ++ dS t.z.t.h ++ ⟨#[10]⟩ = _
  unfold lZ rS fS; simp only [ByteArray.append_assoc]
theorem hE_eq (t : Trf) (X : ByteArray) : ∀ k, hE t X k = hK t X k
  | 0 => rfl
  | k + 1 => by
    show hE t X k ++ ⟨#[87, 32]⟩ ++ hAt t k ++ ⟨#[10]⟩ = hK t X k ++ (⟨#[87, 32]⟩ ++ hAt t k ++ ⟨#[10]⟩)
    rw [hE_eq t X k]; simp only [ByteArray.append_assoc]
theorem bE_eq (t : Trf) (X : ByteArray) : ∀ k, bE t X k = bK t X k
  | 0 => rfl
  | k + 1 => by
    show bE t X k ++ rowS ⟨#[66]⟩ [(bAt t k).x, (bAt t k).y, (bAt t k).z] = bK t X k ++ bS (bAt t k)
    rw [bE_eq t X k, row3]; rfl
theorem tD_eq (t : Trf) : tD t = tP t := by
  unfold tD tP lM lN
  rw [bE_eq, hE_eq, zRow_eq, row2, row2, row3, row2, row3]
  unfold lD lS
  simp only [ByteArray.append_assoc]

set_option maxRecDepth 1000000 in
set_option maxHeartbeats 2000000 in
theorem refPrintTariff_no (t : Trf) (w : World) (s0 : t.h0.size ≤ maxLen) (s1 : t.h1.size ≤ maxLen) (s2 : t.h2.size ≤ maxLen) (s3 : t.h3.size ≤ maxLen) (hn : badN t < 13) :
    Calls Tryd.prog 11 #[.agg #[.int .i64 t.z.off, .int .i64 t.z.f.m, .int .i64 t.z.f.w, .int .i64 t.z.f.d, .int .i64 t.z.f.h, .int .i64 t.z.t.m, .int .i64 t.z.t.w, .int .i64 t.z.t.d, .int .i64 t.z.t.h, .int .i64 t.days, .int .i64 t.gap, .int .i64 t.first, .int .i64 t.last, .string t.h0, .string t.h1, .string t.h2, .string t.h3, .int .i64 t.b0.x, .int .i64 t.b0.y, .int .i64 t.b0.z, .int .i64 t.b1.x, .int .i64 t.b1.y, .int .i64 t.b1.z, .int .i64 t.b2.x, .int .i64 t.b2.y, .int .i64 t.b2.z, .int .i64 t.d.x, .int .i64 t.d.y, .int .i64 t.d.z, .int .i64 t.np, .int .i64 t.nn, .int .i64 t.fix, .int .i64 t.min, .int .i64 t.tax]] w fun e w' => e = .returned (.string ByteArray.empty) ∧ Below w.heap.size w w' := by
  have bl := fun W => GoodTariff_any t W s0 s1 s2 s3
  have hg : goodB t = false := by unfold goodB; simp; omega
  rw [hg] at bl
  have MT : (w.alloc (.cells #[.int .i64 t.z.off, .int .i64 t.z.f.m, .int .i64 t.z.f.w, .int .i64 t.z.f.d, .int .i64 t.z.f.h, .int .i64 t.z.t.m, .int .i64 t.z.t.w, .int .i64 t.z.t.d, .int .i64 t.z.t.h, .int .i64 t.days, .int .i64 t.gap, .int .i64 t.first, .int .i64 t.last, .string t.h0, .string t.h1, .string t.h2, .string t.h3, .int .i64 t.b0.x, .int .i64 t.b0.y, .int .i64 t.b0.z, .int .i64 t.b1.x, .int .i64 t.b1.y, .int .i64 t.b1.z, .int .i64 t.b2.x, .int .i64 t.b2.y, .int .i64 t.b2.z, .int .i64 t.d.x, .int .i64 t.d.y, .int .i64 t.d.z, .int .i64 t.np, .int .i64 t.nn, .int .i64 t.fix, .int .i64 t.min, .int .i64 t.tax] 55)).heap[w.heap.size]? = some (.cells #[.int .i64 t.z.off, .int .i64 t.z.f.m, .int .i64 t.z.f.w, .int .i64 t.z.f.d, .int .i64 t.z.f.h, .int .i64 t.z.t.m, .int .i64 t.z.t.w, .int .i64 t.z.t.d, .int .i64 t.z.t.h, .int .i64 t.days, .int .i64 t.gap, .int .i64 t.first, .int .i64 t.last, .string t.h0, .string t.h1, .string t.h2, .string t.h3, .int .i64 t.b0.x, .int .i64 t.b0.y, .int .i64 t.b0.z, .int .i64 t.b1.x, .int .i64 t.b1.y, .int .i64 t.b1.z, .int .i64 t.b2.x, .int .i64 t.b2.y, .int .i64 t.b2.z, .int .i64 t.d.x, .int .i64 t.d.y, .int .i64 t.d.z, .int .i64 t.np, .int .i64 t.nn, .int .i64 t.fix, .int .i64 t.min, .int .i64 t.tax] 55) := heap_alloc_new _ _
  clear hg hn
  go_enter Tryd.func11, Tryd.ntmps11
  go_wp2_with (first
    | (with_reducible show wpList _ _ _ _ _ (w.alloc (.cells #[.int .i64 t.z.off, .int .i64 t.z.f.m, .int .i64 t.z.f.w, .int .i64 t.z.f.d, .int .i64 t.z.f.h, .int .i64 t.z.t.m, .int .i64 t.z.t.w, .int .i64 t.z.t.d, .int .i64 t.z.t.h, .int .i64 t.days, .int .i64 t.gap, .int .i64 t.first, .int .i64 t.last, .string t.h0, .string t.h1, .string t.h2, .string t.h3, .int .i64 t.b0.x, .int .i64 t.b0.y, .int .i64 t.b0.z, .int .i64 t.b1.x, .int .i64 t.b1.y, .int .i64 t.b1.z, .int .i64 t.b2.x, .int .i64 t.b2.y, .int .i64 t.b2.z, .int .i64 t.d.x, .int .i64 t.d.y, .int .i64 t.d.z, .int .i64 t.np, .int .i64 t.nn, .int .i64 t.fix, .int .i64 t.min, .int .i64 t.tax] 55)); refine wpList_load_row rfl 55 _ rfl w.heap.size rfl 55 _ (0, 0) _ MT Tryd.underlying55 rfl (by kernel_rfl) ?_)
    | (go_at_call 17; refine (bl _).mono ?_; rintro e w1 ⟨rfl, hb1⟩))
  go_ret
  exact ⟨rfl, below_then (below_more (Below.refl _ _) _) hb1⟩

set_option maxRecDepth 1000000 in
set_option maxHeartbeats 2000000 in
theorem refPrintTariff_yes (t : Trf) (w : World) (s0 : t.h0.size ≤ maxLen) (s1 : t.h1.size ≤ maxLen) (s2 : t.h2.size ≤ maxLen) (s3 : t.h3.size ≤ maxLen) (hn : badN t = 13) :
    Calls Tryd.prog 11 #[.agg #[.int .i64 t.z.off, .int .i64 t.z.f.m, .int .i64 t.z.f.w, .int .i64 t.z.f.d, .int .i64 t.z.f.h, .int .i64 t.z.t.m, .int .i64 t.z.t.w, .int .i64 t.z.t.d, .int .i64 t.z.t.h, .int .i64 t.days, .int .i64 t.gap, .int .i64 t.first, .int .i64 t.last, .string t.h0, .string t.h1, .string t.h2, .string t.h3, .int .i64 t.b0.x, .int .i64 t.b0.y, .int .i64 t.b0.z, .int .i64 t.b1.x, .int .i64 t.b1.y, .int .i64 t.b1.z, .int .i64 t.b2.x, .int .i64 t.b2.y, .int .i64 t.b2.z, .int .i64 t.d.x, .int .i64 t.d.y, .int .i64 t.d.z, .int .i64 t.np, .int .i64 t.nn, .int .i64 t.fix, .int .i64 t.min, .int .i64 t.tax]] w fun e w' => e = .returned (.string (tD t)) ∧ Below w.heap.size w w' := by
  have bl := fun W => GoodTariff_any t W s0 s1 s2 s3
  have hg : goodB t = true := by unfold goodB; simp [hn]
  rw [hg] at bl
  have tnn := tn hn
  have kw : IntKind.i64.wrap (t.z.off + 720) = t.z.off + 720 := Go.IntWalk.i64_in _ (by have := tnn.pw; omega)
  have MT : (w.alloc (.cells #[.int .i64 t.z.off, .int .i64 t.z.f.m, .int .i64 t.z.f.w, .int .i64 t.z.f.d, .int .i64 t.z.f.h, .int .i64 t.z.t.m, .int .i64 t.z.t.w, .int .i64 t.z.t.d, .int .i64 t.z.t.h, .int .i64 t.days, .int .i64 t.gap, .int .i64 t.first, .int .i64 t.last, .string t.h0, .string t.h1, .string t.h2, .string t.h3, .int .i64 t.b0.x, .int .i64 t.b0.y, .int .i64 t.b0.z, .int .i64 t.b1.x, .int .i64 t.b1.y, .int .i64 t.b1.z, .int .i64 t.b2.x, .int .i64 t.b2.y, .int .i64 t.b2.z, .int .i64 t.d.x, .int .i64 t.d.y, .int .i64 t.d.z, .int .i64 t.np, .int .i64 t.nn, .int .i64 t.fix, .int .i64 t.min, .int .i64 t.tax] 55)).heap[w.heap.size]? = some (.cells #[.int .i64 t.z.off, .int .i64 t.z.f.m, .int .i64 t.z.f.w, .int .i64 t.z.f.d, .int .i64 t.z.f.h, .int .i64 t.z.t.m, .int .i64 t.z.t.w, .int .i64 t.z.t.d, .int .i64 t.z.t.h, .int .i64 t.days, .int .i64 t.gap, .int .i64 t.first, .int .i64 t.last, .string t.h0, .string t.h1, .string t.h2, .string t.h3, .int .i64 t.b0.x, .int .i64 t.b0.y, .int .i64 t.b0.z, .int .i64 t.b1.x, .int .i64 t.b1.y, .int .i64 t.b1.z, .int .i64 t.b2.x, .int .i64 t.b2.y, .int .i64 t.b2.z, .int .i64 t.d.x, .int .i64 t.d.y, .int .i64 t.d.z, .int .i64 t.np, .int .i64 t.nn, .int .i64 t.fix, .int .i64 t.min, .int .i64 t.tax] 55) := heap_alloc_new _ _
  clear hg hn
  go_enter Tryd.func11, Tryd.ntmps11
  go_upto_region 4 with (first
    | (with_reducible show wpList _ _ _ _ _ (w.alloc (.cells #[.int .i64 t.z.off, .int .i64 t.z.f.m, .int .i64 t.z.f.w, .int .i64 t.z.f.d, .int .i64 t.z.f.h, .int .i64 t.z.t.m, .int .i64 t.z.t.w, .int .i64 t.z.t.d, .int .i64 t.z.t.h, .int .i64 t.days, .int .i64 t.gap, .int .i64 t.first, .int .i64 t.last, .string t.h0, .string t.h1, .string t.h2, .string t.h3, .int .i64 t.b0.x, .int .i64 t.b0.y, .int .i64 t.b0.z, .int .i64 t.b1.x, .int .i64 t.b1.y, .int .i64 t.b1.z, .int .i64 t.b2.x, .int .i64 t.b2.y, .int .i64 t.b2.z, .int .i64 t.d.x, .int .i64 t.d.y, .int .i64 t.d.z, .int .i64 t.np, .int .i64 t.nn, .int .i64 t.fix, .int .i64 t.min, .int .i64 t.tax] 55)); refine wpList_load_row rfl 55 _ rfl w.heap.size rfl 55 _ (0, 0) _ MT Tryd.underlying55 rfl (by kernel_rfl) ?_)
    | (go_at_call 17; refine (bl _).mono ?_; rintro e W1 ⟨rfl, hW1⟩))
  have R1 : W1.heap[w.heap.size]? = some (.cells #[.int .i64 t.z.off, .int .i64 t.z.f.m, .int .i64 t.z.f.w, .int .i64 t.z.f.d, .int .i64 t.z.f.h, .int .i64 t.z.t.m, .int .i64 t.z.t.w, .int .i64 t.z.t.d, .int .i64 t.z.t.h, .int .i64 t.days, .int .i64 t.gap, .int .i64 t.first, .int .i64 t.last, .string t.h0, .string t.h1, .string t.h2, .string t.h3, .int .i64 t.b0.x, .int .i64 t.b0.y, .int .i64 t.b0.z, .int .i64 t.b1.x, .int .i64 t.b1.y, .int .i64 t.b1.z, .int .i64 t.b2.x, .int .i64 t.b2.y, .int .i64 t.b2.z, .int .i64 t.d.x, .int .i64 t.d.y, .int .i64 t.d.z, .int .i64 t.np, .int .i64 t.nn, .int .i64 t.fix, .int .i64 t.min, .int .i64 t.tax] 55) := (hW1.block _ (by simp)).trans MT
  have BL1 : Below w.heap.size w W1 := below_then (below_more (Below.refl _ _) _) hW1
  have z1 : w.heap.size < W1.heap.size := row_lt R1
  have c1 : W1.cell? ⟨w.heap.size, 1, none⟩ = some (.int .i64 t.z.f.m) := cell_of_row _ _ _ _ _ _ R1
  have c2 : W1.cell? ⟨w.heap.size, 2, none⟩ = some (.int .i64 t.z.f.w) := cell_of_row _ _ _ _ _ _ R1
  have c3 : W1.cell? ⟨w.heap.size, 3, none⟩ = some (.int .i64 t.z.f.d) := cell_of_row _ _ _ _ _ _ R1
  have c4 : W1.cell? ⟨w.heap.size, 4, none⟩ = some (.int .i64 t.z.f.h) := cell_of_row _ _ _ _ _ _ R1
  clear hW1 MT bl
  go_upto_region 5 with (go_at_call 40; refine (ruleRow_any t.z.f _).mono ?_; rintro e W2 ⟨ga, rfl, hga, RA2, hW2⟩)
  have R2 : W2.heap[w.heap.size]? = some (.cells #[.int .i64 t.z.off, .int .i64 t.z.f.m, .int .i64 t.z.f.w, .int .i64 t.z.f.d, .int .i64 t.z.f.h, .int .i64 t.z.t.m, .int .i64 t.z.t.w, .int .i64 t.z.t.d, .int .i64 t.z.t.h, .int .i64 t.days, .int .i64 t.gap, .int .i64 t.first, .int .i64 t.last, .string t.h0, .string t.h1, .string t.h2, .string t.h3, .int .i64 t.b0.x, .int .i64 t.b0.y, .int .i64 t.b0.z, .int .i64 t.b1.x, .int .i64 t.b1.y, .int .i64 t.b1.z, .int .i64 t.b2.x, .int .i64 t.b2.y, .int .i64 t.b2.z, .int .i64 t.d.x, .int .i64 t.d.y, .int .i64 t.d.z, .int .i64 t.np, .int .i64 t.nn, .int .i64 t.fix, .int .i64 t.min, .int .i64 t.tax] 55) := (hW2.block _ z1).trans R1
  have BL2 := below_then BL1 hW2
  have z2 : w.heap.size < W2.heap.size := row_lt R2
  have c5 : W2.cell? ⟨w.heap.size, 5, none⟩ = some (.int .i64 t.z.t.m) := cell_of_row _ _ _ _ _ _ R2
  have c6 : W2.cell? ⟨w.heap.size, 6, none⟩ = some (.int .i64 t.z.t.w) := cell_of_row _ _ _ _ _ _ R2
  have c7 : W2.cell? ⟨w.heap.size, 7, none⟩ = some (.int .i64 t.z.t.d) := cell_of_row _ _ _ _ _ _ R2
  have c8 : W2.cell? ⟨w.heap.size, 8, none⟩ = some (.int .i64 t.z.t.h) := cell_of_row _ _ _ _ _ _ R2
  clear hW2 c1 c2 c3 c4 R1
  go_upto_region 6 with (go_at_call 40; refine (ruleRow_any t.z.t _).mono ?_; rintro e W3 ⟨gb, rfl, hgb, RB3, hW3⟩)
  have R3 : W3.heap[w.heap.size]? = some (.cells #[.int .i64 t.z.off, .int .i64 t.z.f.m, .int .i64 t.z.f.w, .int .i64 t.z.f.d, .int .i64 t.z.f.h, .int .i64 t.z.t.m, .int .i64 t.z.t.w, .int .i64 t.z.t.d, .int .i64 t.z.t.h, .int .i64 t.days, .int .i64 t.gap, .int .i64 t.first, .int .i64 t.last, .string t.h0, .string t.h1, .string t.h2, .string t.h3, .int .i64 t.b0.x, .int .i64 t.b0.y, .int .i64 t.b0.z, .int .i64 t.b1.x, .int .i64 t.b1.y, .int .i64 t.b1.z, .int .i64 t.b2.x, .int .i64 t.b2.y, .int .i64 t.b2.z, .int .i64 t.d.x, .int .i64 t.d.y, .int .i64 t.d.z, .int .i64 t.np, .int .i64 t.nn, .int .i64 t.fix, .int .i64 t.min, .int .i64 t.tax] 55) := (hW3.block _ z2).trans R2
  have RA3 := (hW3.block ga (row_lt RA2)).trans RA2
  have BL3 := below_then BL2 hW3
  have z3 : w.heap.size < W3.heap.size := row_lt R3
  clear hW3 c5 c6 c7 c8 R2 RA2
  refine wp_region_held_drew (S := (fun w' => w'.heap[w.heap.size]? = some (.cells #[.int .i64 t.z.off, .int .i64 t.z.f.m, .int .i64 t.z.f.w, .int .i64 t.z.f.d, .int .i64 t.z.f.h, .int .i64 t.z.t.m, .int .i64 t.z.t.w, .int .i64 t.z.t.d, .int .i64 t.z.t.h, .int .i64 t.days, .int .i64 t.gap, .int .i64 t.first, .int .i64 t.last, .string t.h0, .string t.h1, .string t.h2, .string t.h3, .int .i64 t.b0.x, .int .i64 t.b0.y, .int .i64 t.b0.z, .int .i64 t.b1.x, .int .i64 t.b1.y, .int .i64 t.b1.z, .int .i64 t.b2.x, .int .i64 t.b2.y, .int .i64 t.b2.z, .int .i64 t.d.x, .int .i64 t.d.y, .int .i64 t.d.z, .int .i64 t.np, .int .i64 t.nn, .int .i64 t.fix, .int .i64 t.min, .int .i64 t.tax] 55 (0, 0)) ∧ w'.heap[ga]? = some (.cells ([t.z.f.m, t.z.f.w, t.z.f.d, t.z.f.h].map (Value.int .i64)).toArray 3 (0, 0)) ∧ w'.heap[gb]? = some (.cells ([t.z.t.m, t.z.t.w, t.z.t.d, t.z.t.h].map (Value.int .i64)).toArray 3 (0, 0)))) (by kernel_rfl) ⟨R3, RA3, RB3⟩ (fun hH0 => ?_)
  refine wpAnyH_take (i := 0) (oi := { dst := some 21, op := Go.Op.fieldAddr 55 (Go.Operand.tmp 1) 0, type := 0, pos := "text.go:152", after := #[], guard := none }) (v := .pointer (some ⟨w.heap.size, 0, none⟩)) rfl (by kernel_rfl) (by kernel_rfl) (by kernel_rfl) (fun _ _ _ h => h) (Or.inl ⟨by rfl, ?_⟩) (by assumption) ?_
  · intro w9 hSw
    go_simp
  try simp only [Act.put, List.setIfInBounds_toArray, List.set_cons_zero, List.set_cons_succ]
  refine wpAnyH_take (i := 1) (oi := { dst := some 22, op := Go.Op.fieldAddr 49 (Go.Operand.tmp 21) 0, type := 0, pos := "text.go:152", after := #[{ on := 0, ground := Go.Ground.data }], guard := none }) (v := .pointer (some ⟨w.heap.size, 0, none⟩)) rfl (by kernel_rfl) (by kernel_rfl) (by kernel_rfl) (fun _ _ _ h => h) (Or.inl ⟨by rfl, ?_⟩) (by assumption) ?_
  · intro w9 hSw
    go_simp
  try simp only [Act.put, List.setIfInBounds_toArray, List.set_cons_zero, List.set_cons_succ]
  refine wpAnyH_take (i := 2) (oi := { dst := some 23, op := Go.Op.load 3 (Go.Operand.tmp 22), type := 3, pos := "text.go:152", after := #[{ on := 1, ground := Go.Ground.data }], guard := none }) (v := .int .i64 t.z.off) rfl (by kernel_rfl) (by kernel_rfl) (by kernel_rfl) (fun _ _ _ h => h) (Or.inl ⟨by rfl, ?_⟩) (by assumption) ?_
  · intro w9 hSw
    have q0 : w9.cell? ⟨w.heap.size, 0, none⟩ = some (.int .i64 t.z.off) := cell_of_row _ _ _ _ _ _ hSw.1; go_simp
  try simp only [Act.put, List.setIfInBounds_toArray, List.set_cons_zero, List.set_cons_succ]
  refine wpAnyH_take (i := 3) (oi := { dst := some 24, op := Go.Op.binOp Go.BinOp.add 3 (Go.Operand.tmp 23) (Go.Operand.const (Go.Value.int Go.IntKind.i64 720)) 3, type := 3, pos := "text.go:152", after := #[{ on := 2, ground := Go.Ground.data }], guard := none }) (v := .int .i64 (t.z.off + 720)) rfl (by kernel_rfl) (by kernel_rfl) (by kernel_rfl) (fun _ _ _ h => h) (Or.inl ⟨by rfl, ?_⟩) (by assumption) ?_
  · intro w9 hSw
    go_simp
  try simp only [Act.put, List.setIfInBounds_toArray, List.set_cons_zero, List.set_cons_succ]
  refine wpAnyH_take (i := 4) (oi := { dst := some 25, op := Go.Op.move (Go.Operand.tmp 4), type := 98, pos := "text.go:152", after := #[], guard := none }) (v := .slice (some ⟨ga, 0, none⟩) 4 4) rfl (by kernel_rfl) (by kernel_rfl) (by kernel_rfl) (fun _ _ _ h => h) (Or.inl ⟨by rfl, ?_⟩) (by assumption) ?_
  · intro w9 hSw
    go_simp
  try simp only [Act.put, List.setIfInBounds_toArray, List.set_cons_zero, List.set_cons_succ]
  refine wpAnyH_take (i := 5) (oi := { dst := some 26, op := Go.Op.indexAddr 98 (Go.Operand.tmp 25) (Go.Operand.const (Go.Value.int Go.IntKind.i64 0)), type := 0, pos := "text.go:152", after := #[{ on := 4, ground := Go.Ground.data }], guard := none }) (v := .pointer (some ⟨ga, 0, none⟩)) rfl (by kernel_rfl) (by kernel_rfl) (by kernel_rfl) (fun _ _ _ h => h) (Or.inl ⟨by rfl, ?_⟩) (by assumption) ?_
  · intro w9 hSw
    go_simp
  try simp only [Act.put, List.setIfInBounds_toArray, List.set_cons_zero, List.set_cons_succ]
  refine wpAnyH_take (i := 6) (oi := { dst := some 27, op := Go.Op.load 3 (Go.Operand.tmp 26), type := 3, pos := "text.go:152", after := #[{ on := 5, ground := Go.Ground.data }], guard := none }) (v := .int .i64 t.z.f.m) rfl (by kernel_rfl) (by kernel_rfl) (by kernel_rfl) (fun _ _ _ h => h) (Or.inl ⟨by rfl, ?_⟩) (by assumption) ?_
  · intro w9 hSw
    have q0 : w9.cell? ⟨ga, 0, none⟩ = some (.int .i64 t.z.f.m) := cell_of_row _ _ _ _ _ _ hSw.2.1; go_simp
  try simp only [Act.put, List.setIfInBounds_toArray, List.set_cons_zero, List.set_cons_succ]
  refine wpAnyH_take (i := 7) (oi := { dst := some 28, op := Go.Op.move (Go.Operand.tmp 4), type := 98, pos := "text.go:152", after := #[], guard := none }) (v := .slice (some ⟨ga, 0, none⟩) 4 4) rfl (by kernel_rfl) (by kernel_rfl) (by kernel_rfl) (fun _ _ _ h => h) (Or.inl ⟨by rfl, ?_⟩) (by assumption) ?_
  · intro w9 hSw
    go_simp
  try simp only [Act.put, List.setIfInBounds_toArray, List.set_cons_zero, List.set_cons_succ]
  refine wpAnyH_take (i := 8) (oi := { dst := some 29, op := Go.Op.indexAddr 98 (Go.Operand.tmp 28) (Go.Operand.const (Go.Value.int Go.IntKind.i64 1)), type := 0, pos := "text.go:152", after := #[{ on := 7, ground := Go.Ground.data }], guard := none }) (v := .pointer (some ⟨ga, 1, none⟩)) rfl (by kernel_rfl) (by kernel_rfl) (by kernel_rfl) (fun _ _ _ h => h) (Or.inl ⟨by rfl, ?_⟩) (by assumption) ?_
  · intro w9 hSw
    go_simp
  try simp only [Act.put, List.setIfInBounds_toArray, List.set_cons_zero, List.set_cons_succ]
  refine wpAnyH_take (i := 9) (oi := { dst := some 30, op := Go.Op.load 3 (Go.Operand.tmp 29), type := 3, pos := "text.go:152", after := #[{ on := 8, ground := Go.Ground.data }], guard := none }) (v := .int .i64 t.z.f.w) rfl (by kernel_rfl) (by kernel_rfl) (by kernel_rfl) (fun _ _ _ h => h) (Or.inl ⟨by rfl, ?_⟩) (by assumption) ?_
  · intro w9 hSw
    have q1 : w9.cell? ⟨ga, 1, none⟩ = some (.int .i64 t.z.f.w) := cell_of_row _ _ _ _ _ _ hSw.2.1; go_simp
  try simp only [Act.put, List.setIfInBounds_toArray, List.set_cons_zero, List.set_cons_succ]
  refine wpAnyH_take (i := 10) (oi := { dst := some 31, op := Go.Op.move (Go.Operand.tmp 4), type := 98, pos := "text.go:152", after := #[], guard := none }) (v := .slice (some ⟨ga, 0, none⟩) 4 4) rfl (by kernel_rfl) (by kernel_rfl) (by kernel_rfl) (fun _ _ _ h => h) (Or.inl ⟨by rfl, ?_⟩) (by assumption) ?_
  · intro w9 hSw
    go_simp
  try simp only [Act.put, List.setIfInBounds_toArray, List.set_cons_zero, List.set_cons_succ]
  refine wpAnyH_take (i := 11) (oi := { dst := some 32, op := Go.Op.indexAddr 98 (Go.Operand.tmp 31) (Go.Operand.const (Go.Value.int Go.IntKind.i64 2)), type := 0, pos := "text.go:152", after := #[{ on := 10, ground := Go.Ground.data }], guard := none }) (v := .pointer (some ⟨ga, 2, none⟩)) rfl (by kernel_rfl) (by kernel_rfl) (by kernel_rfl) (fun _ _ _ h => h) (Or.inl ⟨by rfl, ?_⟩) (by assumption) ?_
  · intro w9 hSw
    go_simp
  try simp only [Act.put, List.setIfInBounds_toArray, List.set_cons_zero, List.set_cons_succ]
  refine wpAnyH_take (i := 12) (oi := { dst := some 33, op := Go.Op.load 3 (Go.Operand.tmp 32), type := 3, pos := "text.go:152", after := #[{ on := 11, ground := Go.Ground.data }], guard := none }) (v := .int .i64 t.z.f.d) rfl (by kernel_rfl) (by kernel_rfl) (by kernel_rfl) (fun _ _ _ h => h) (Or.inl ⟨by rfl, ?_⟩) (by assumption) ?_
  · intro w9 hSw
    have q2 : w9.cell? ⟨ga, 2, none⟩ = some (.int .i64 t.z.f.d) := cell_of_row _ _ _ _ _ _ hSw.2.1; go_simp
  try simp only [Act.put, List.setIfInBounds_toArray, List.set_cons_zero, List.set_cons_succ]
  refine wpAnyH_take (i := 13) (oi := { dst := some 34, op := Go.Op.move (Go.Operand.tmp 4), type := 98, pos := "text.go:152", after := #[], guard := none }) (v := .slice (some ⟨ga, 0, none⟩) 4 4) rfl (by kernel_rfl) (by kernel_rfl) (by kernel_rfl) (fun _ _ _ h => h) (Or.inl ⟨by rfl, ?_⟩) (by assumption) ?_
  · intro w9 hSw
    go_simp
  try simp only [Act.put, List.setIfInBounds_toArray, List.set_cons_zero, List.set_cons_succ]
  refine wpAnyH_take (i := 14) (oi := { dst := some 35, op := Go.Op.indexAddr 98 (Go.Operand.tmp 34) (Go.Operand.const (Go.Value.int Go.IntKind.i64 3)), type := 0, pos := "text.go:152", after := #[{ on := 13, ground := Go.Ground.data }], guard := none }) (v := .pointer (some ⟨ga, 3, none⟩)) rfl (by kernel_rfl) (by kernel_rfl) (by kernel_rfl) (fun _ _ _ h => h) (Or.inl ⟨by rfl, ?_⟩) (by assumption) ?_
  · intro w9 hSw
    go_simp
  try simp only [Act.put, List.setIfInBounds_toArray, List.set_cons_zero, List.set_cons_succ]
  refine wpAnyH_take (i := 15) (oi := { dst := some 36, op := Go.Op.load 3 (Go.Operand.tmp 35), type := 3, pos := "text.go:152", after := #[{ on := 14, ground := Go.Ground.data }], guard := none }) (v := .int .i64 t.z.f.h) rfl (by kernel_rfl) (by kernel_rfl) (by kernel_rfl) (fun _ _ _ h => h) (Or.inl ⟨by rfl, ?_⟩) (by assumption) ?_
  · intro w9 hSw
    have q3 : w9.cell? ⟨ga, 3, none⟩ = some (.int .i64 t.z.f.h) := cell_of_row _ _ _ _ _ _ hSw.2.1; go_simp
  try simp only [Act.put, List.setIfInBounds_toArray, List.set_cons_zero, List.set_cons_succ]
  refine wpAnyH_take (i := 16) (oi := { dst := some 37, op := Go.Op.move (Go.Operand.tmp 5), type := 98, pos := "text.go:152", after := #[], guard := none }) (v := .slice (some ⟨gb, 0, none⟩) 4 4) rfl (by kernel_rfl) (by kernel_rfl) (by kernel_rfl) (fun _ _ _ h => h) (Or.inl ⟨by rfl, ?_⟩) (by assumption) ?_
  · intro w9 hSw
    go_simp
  try simp only [Act.put, List.setIfInBounds_toArray, List.set_cons_zero, List.set_cons_succ]
  refine wpAnyH_take (i := 17) (oi := { dst := some 38, op := Go.Op.indexAddr 98 (Go.Operand.tmp 37) (Go.Operand.const (Go.Value.int Go.IntKind.i64 0)), type := 0, pos := "text.go:152", after := #[{ on := 16, ground := Go.Ground.data }], guard := none }) (v := .pointer (some ⟨gb, 0, none⟩)) rfl (by kernel_rfl) (by kernel_rfl) (by kernel_rfl) (fun _ _ _ h => h) (Or.inl ⟨by rfl, ?_⟩) (by assumption) ?_
  · intro w9 hSw
    go_simp
  try simp only [Act.put, List.setIfInBounds_toArray, List.set_cons_zero, List.set_cons_succ]
  refine wpAnyH_take (i := 18) (oi := { dst := some 39, op := Go.Op.load 3 (Go.Operand.tmp 38), type := 3, pos := "text.go:152", after := #[{ on := 17, ground := Go.Ground.data }], guard := none }) (v := .int .i64 t.z.t.m) rfl (by kernel_rfl) (by kernel_rfl) (by kernel_rfl) (fun _ _ _ h => h) (Or.inl ⟨by rfl, ?_⟩) (by assumption) ?_
  · intro w9 hSw
    have q0 : w9.cell? ⟨gb, 0, none⟩ = some (.int .i64 t.z.t.m) := cell_of_row _ _ _ _ _ _ hSw.2.2; go_simp
  try simp only [Act.put, List.setIfInBounds_toArray, List.set_cons_zero, List.set_cons_succ]
  refine wpAnyH_take (i := 19) (oi := { dst := some 40, op := Go.Op.move (Go.Operand.tmp 5), type := 98, pos := "text.go:152", after := #[], guard := none }) (v := .slice (some ⟨gb, 0, none⟩) 4 4) rfl (by kernel_rfl) (by kernel_rfl) (by kernel_rfl) (fun _ _ _ h => h) (Or.inl ⟨by rfl, ?_⟩) (by assumption) ?_
  · intro w9 hSw
    go_simp
  try simp only [Act.put, List.setIfInBounds_toArray, List.set_cons_zero, List.set_cons_succ]
  refine wpAnyH_take (i := 20) (oi := { dst := some 41, op := Go.Op.indexAddr 98 (Go.Operand.tmp 40) (Go.Operand.const (Go.Value.int Go.IntKind.i64 1)), type := 0, pos := "text.go:152", after := #[{ on := 19, ground := Go.Ground.data }], guard := none }) (v := .pointer (some ⟨gb, 1, none⟩)) rfl (by kernel_rfl) (by kernel_rfl) (by kernel_rfl) (fun _ _ _ h => h) (Or.inl ⟨by rfl, ?_⟩) (by assumption) ?_
  · intro w9 hSw
    go_simp
  try simp only [Act.put, List.setIfInBounds_toArray, List.set_cons_zero, List.set_cons_succ]
  refine wpAnyH_take (i := 21) (oi := { dst := some 42, op := Go.Op.load 3 (Go.Operand.tmp 41), type := 3, pos := "text.go:152", after := #[{ on := 20, ground := Go.Ground.data }], guard := none }) (v := .int .i64 t.z.t.w) rfl (by kernel_rfl) (by kernel_rfl) (by kernel_rfl) (fun _ _ _ h => h) (Or.inl ⟨by rfl, ?_⟩) (by assumption) ?_
  · intro w9 hSw
    have q1 : w9.cell? ⟨gb, 1, none⟩ = some (.int .i64 t.z.t.w) := cell_of_row _ _ _ _ _ _ hSw.2.2; go_simp
  try simp only [Act.put, List.setIfInBounds_toArray, List.set_cons_zero, List.set_cons_succ]
  refine wpAnyH_take (i := 22) (oi := { dst := some 43, op := Go.Op.move (Go.Operand.tmp 5), type := 98, pos := "text.go:152", after := #[], guard := none }) (v := .slice (some ⟨gb, 0, none⟩) 4 4) rfl (by kernel_rfl) (by kernel_rfl) (by kernel_rfl) (fun _ _ _ h => h) (Or.inl ⟨by rfl, ?_⟩) (by assumption) ?_
  · intro w9 hSw
    go_simp
  try simp only [Act.put, List.setIfInBounds_toArray, List.set_cons_zero, List.set_cons_succ]
  refine wpAnyH_take (i := 23) (oi := { dst := some 44, op := Go.Op.indexAddr 98 (Go.Operand.tmp 43) (Go.Operand.const (Go.Value.int Go.IntKind.i64 2)), type := 0, pos := "text.go:152", after := #[{ on := 22, ground := Go.Ground.data }], guard := none }) (v := .pointer (some ⟨gb, 2, none⟩)) rfl (by kernel_rfl) (by kernel_rfl) (by kernel_rfl) (fun _ _ _ h => h) (Or.inl ⟨by rfl, ?_⟩) (by assumption) ?_
  · intro w9 hSw
    go_simp
  try simp only [Act.put, List.setIfInBounds_toArray, List.set_cons_zero, List.set_cons_succ]
  refine wpAnyH_take (i := 24) (oi := { dst := some 45, op := Go.Op.load 3 (Go.Operand.tmp 44), type := 3, pos := "text.go:152", after := #[{ on := 23, ground := Go.Ground.data }], guard := none }) (v := .int .i64 t.z.t.d) rfl (by kernel_rfl) (by kernel_rfl) (by kernel_rfl) (fun _ _ _ h => h) (Or.inl ⟨by rfl, ?_⟩) (by assumption) ?_
  · intro w9 hSw
    have q2 : w9.cell? ⟨gb, 2, none⟩ = some (.int .i64 t.z.t.d) := cell_of_row _ _ _ _ _ _ hSw.2.2; go_simp
  try simp only [Act.put, List.setIfInBounds_toArray, List.set_cons_zero, List.set_cons_succ]
  refine wpAnyH_take (i := 25) (oi := { dst := some 46, op := Go.Op.move (Go.Operand.tmp 5), type := 98, pos := "text.go:152", after := #[], guard := none }) (v := .slice (some ⟨gb, 0, none⟩) 4 4) rfl (by kernel_rfl) (by kernel_rfl) (by kernel_rfl) (fun _ _ _ h => h) (Or.inl ⟨by rfl, ?_⟩) (by assumption) ?_
  · intro w9 hSw
    go_simp
  try simp only [Act.put, List.setIfInBounds_toArray, List.set_cons_zero, List.set_cons_succ]
  refine wpAnyH_take (i := 26) (oi := { dst := some 47, op := Go.Op.indexAddr 98 (Go.Operand.tmp 46) (Go.Operand.const (Go.Value.int Go.IntKind.i64 3)), type := 0, pos := "text.go:152", after := #[{ on := 25, ground := Go.Ground.data }], guard := none }) (v := .pointer (some ⟨gb, 3, none⟩)) rfl (by kernel_rfl) (by kernel_rfl) (by kernel_rfl) (fun _ _ _ h => h) (Or.inl ⟨by rfl, ?_⟩) (by assumption) ?_
  · intro w9 hSw
    go_simp
  try simp only [Act.put, List.setIfInBounds_toArray, List.set_cons_zero, List.set_cons_succ]
  refine wpAnyH_take (i := 27) (oi := { dst := some 48, op := Go.Op.load 3 (Go.Operand.tmp 47), type := 3, pos := "text.go:152", after := #[{ on := 26, ground := Go.Ground.data }], guard := none }) (v := .int .i64 t.z.t.h) rfl (by kernel_rfl) (by kernel_rfl) (by kernel_rfl) (fun _ _ _ h => h) (Or.inl ⟨by rfl, ?_⟩) (by assumption) ?_
  · intro w9 hSw
    have q3 : w9.cell? ⟨gb, 3, none⟩ = some (.int .i64 t.z.t.h) := cell_of_row _ _ _ _ _ _ hSw.2.2; go_simp
  try simp only [Act.put, List.setIfInBounds_toArray, List.set_cons_zero, List.set_cons_succ]
  refine wpAnyH_ready (rs := [28]) (by kernel_rfl) (by simp) ?_
  refine AllReadyH.cons (o := { dst := some 49, op := Go.Op.buildSlice 98 9 #[(0, Go.Operand.tmp 24), (1, Go.Operand.tmp 27), (2, Go.Operand.tmp 30), (3, Go.Operand.tmp 33), (4, Go.Operand.tmp 36), (5, Go.Operand.tmp 39), (6, Go.Operand.tmp 42), (7, Go.Operand.tmp 45), (8, Go.Operand.tmp 48)], type := 98, pos := "text.go:152", after := #[{ on := 3, ground := Go.Ground.data }, { on := 6, ground := Go.Ground.data }, { on := 9, ground := Go.Ground.data }, { on := 12, ground := Go.Ground.data }, { on := 15, ground := Go.Ground.data }, { on := 18, ground := Go.Ground.data }, { on := 21, ground := Go.Ground.data }, { on := 24, ground := Go.Ground.data }, { on := 27, ground := Go.Ground.data }], guard := none }) rfl (fun K hK => ?_) AllReadyH.nil
  go_simp
  have BW3a1 : Below W3.heap.size W3 (W3.drew.alloc (.cells #[.int .i64 (t.z.off + 720), .int .i64 t.z.f.m, .int .i64 t.z.f.w, .int .i64 t.z.f.d, .int .i64 t.z.f.h, .int .i64 t.z.t.m, .int .i64 t.z.t.w, .int .i64 t.z.t.d, .int .i64 t.z.t.h] 3)) := below_more (Below.drew (Below.refl _ _)) _
  have RW3n1 : (W3.drew.alloc (.cells #[.int .i64 (t.z.off + 720), .int .i64 t.z.f.m, .int .i64 t.z.f.w, .int .i64 t.z.f.d, .int .i64 t.z.f.h, .int .i64 t.z.t.m, .int .i64 t.z.t.w, .int .i64 t.z.t.d, .int .i64 t.z.t.h] 3)).heap[W3.heap.size]? = some (.cells ([(t.z.off + 720), t.z.f.m, t.z.f.w, t.z.f.d, t.z.f.h, t.z.t.m, t.z.t.w, t.z.t.d, t.z.t.h].map (Value.int .i64)).toArray 3 (0, 0)) := by simpa using heap_alloc_new (W3.drew) (.cells #[.int .i64 (t.z.off + 720), .int .i64 t.z.f.m, .int .i64 t.z.f.w, .int .i64 t.z.f.d, .int .i64 t.z.f.h, .int .i64 t.z.t.m, .int .i64 t.z.t.w, .int .i64 t.z.t.d, .int .i64 t.z.t.h] 3)
  refine hK.out _ _ ⟨(BW3a1.block _ z3).trans R3, (BW3a1.block _ (row_lt RA3)).trans RA3, (BW3a1.block _ (row_lt RB3)).trans RB3⟩ (fun hHW3a1 => ?_)
  clear hK K
  try simp only [Act.put, List.setIfInBounds_toArray, List.set_cons_zero, List.set_cons_succ]
  refine wpAnyH_ready (rs := [29]) (by kernel_rfl) (by simp) ?_
  refine AllReadyH.cons (o := { dst := some 50, op := Go.Op.call { callee := Go.Callee.value (Go.Operand.func 37), args := #[Go.Operand.const (Go.Value.string { data := #[90] }), Go.Operand.tmp 49], argTypes := #[9, 98] }, type := 9, pos := "text.go:152", after := #[{ on := 28, ground := Go.Ground.data }], guard := none }) rfl (fun K hK => ?_) AllReadyH.nil
  go_simp
  refine (row_any (⟨#[90]⟩ : ByteArray) [(t.z.off + 720), t.z.f.m, t.z.f.w, t.z.f.d, t.z.f.h, t.z.t.m, t.z.t.w, t.z.t.d, t.z.t.h] W3.heap.size _ (row_lt RW3n1) (row_cells RW3n1) (nb_cons tnn.po (nb_cons tnn.pf.1 (nb_cons tnn.pf.2.1 (nb_cons tnn.pf.2.2.1 (nb_cons tnn.pf.2.2.2 (nb_cons tnn.pt.1 (nb_cons tnn.pt.2.1 (nb_cons tnn.pt.2.2.1 (nb_cons tnn.pt.2.2.2 nb_nil))))))))) (by simp) (show ((⟨#[90]⟩ : ByteArray)).size ≤ 1000 from by decide)).mono ?_
  rintro e wW3k2 ⟨rfl, hwW3k2⟩
  have BwW3k2 := below_then BW3a1 hwW3k2
  have RwW3k2_RW3n1 := (hwW3k2.block _ (row_lt RW3n1)).trans RW3n1
  go_wp2_with fail
  refine hK.out _ _ ⟨(BwW3k2.block _ z3).trans R3, (BwW3k2.block _ (row_lt RA3)).trans RA3, (BwW3k2.block _ (row_lt RB3)).trans RB3⟩ (fun hHwW3k2 => ?_)
  clear hK K
  try simp only [Act.put, List.setIfInBounds_toArray, List.set_cons_zero, List.set_cons_succ]
  refine wpAnyH_take (i := 30) (oi := { dst := some 6, op := Go.Op.assign (Go.Operand.tmp 50), type := 9, pos := "text.go:152", after := #[{ on := 29, ground := Go.Ground.data }, { on := 29, ground := Go.Ground.chain }, { on := 0, ground := Go.Ground.phase }, { on := 1, ground := Go.Ground.phase }, { on := 2, ground := Go.Ground.phase }, { on := 3, ground := Go.Ground.phase }, { on := 4, ground := Go.Ground.phase }, { on := 5, ground := Go.Ground.phase }, { on := 6, ground := Go.Ground.phase }, { on := 7, ground := Go.Ground.phase }, { on := 8, ground := Go.Ground.phase }, { on := 9, ground := Go.Ground.phase }, { on := 10, ground := Go.Ground.phase }, { on := 11, ground := Go.Ground.phase }, { on := 12, ground := Go.Ground.phase }, { on := 13, ground := Go.Ground.phase }, { on := 14, ground := Go.Ground.phase }, { on := 15, ground := Go.Ground.phase }, { on := 16, ground := Go.Ground.phase }, { on := 17, ground := Go.Ground.phase }, { on := 18, ground := Go.Ground.phase }, { on := 19, ground := Go.Ground.phase }, { on := 20, ground := Go.Ground.phase }, { on := 21, ground := Go.Ground.phase }, { on := 22, ground := Go.Ground.phase }, { on := 23, ground := Go.Ground.phase }, { on := 24, ground := Go.Ground.phase }, { on := 25, ground := Go.Ground.phase }, { on := 26, ground := Go.Ground.phase }, { on := 27, ground := Go.Ground.phase }, { on := 28, ground := Go.Ground.phase }, { on := 29, ground := Go.Ground.phase }], guard := none }) (v := .string (rowS (⟨#[90]⟩ : ByteArray) [(t.z.off + 720), t.z.f.m, t.z.f.w, t.z.f.d, t.z.f.h, t.z.t.m, t.z.t.w, t.z.t.d, t.z.t.h])) rfl (by kernel_rfl) (by kernel_rfl) (by kernel_rfl) (fun _ _ _ h => h) (Or.inl ⟨by rfl, ?_⟩) (by assumption) ?_
  · intro w9 hSw
    go_simp
  try simp only [Act.put, List.setIfInBounds_toArray, List.set_cons_zero, List.set_cons_succ]
  refine wpAnyH_done (by kernel_rfl) ?_ _
  have R4' := (BwW3k2.block _ z3).trans R3
  have BL4' := below_then BL3 BwW3k2
  go_upto_region 7 with fail
  obtain ⟨W4, hW4⟩ : ∃ W4, W4 = wW3k2 := ⟨_, rfl⟩
  rw [← hW4] at R4' BL4' ⊢
  have R4 := R4'
  have BL4 := BL4'
  have z4 : w.heap.size < W4.heap.size := row_lt R4
  obtain ⟨X0, hX0⟩ : ∃ X, X = zRow t := ⟨_, rfl⟩
  have sX0 : X0.size ≤ 200 := by rw [hX0]; have := rowS_size (c := ⟨#[90]⟩) (nb_cons tnn.po (nb_cons tnn.pf.1 (nb_cons tnn.pf.2.1 (nb_cons tnn.pf.2.2.1 (nb_cons tnn.pf.2.2.2 (nb_cons tnn.pt.1 (nb_cons tnn.pt.2.1 (nb_cons tnn.pt.2.2.1 (nb_cons tnn.pt.2.2.2 nb_nil))))))))); exact this
  have HZ : Hid ((rowS (⟨#[90]⟩ : ByteArray) [(t.z.off + 720), t.z.f.m, t.z.f.w, t.z.f.d, t.z.f.h, t.z.t.m, t.z.t.w, t.z.t.d, t.z.t.h]) = X0) := by show _ = _; rw [hX0]; rfl
  rw [HZ.out]
  have HX0 := hideP hX0
  clear hW4 hX0 R4' BL4'
  go_cut [6] from 9 to 133 (fun s wc => s = .string (X0 ++ rowS ⟨#[68]⟩ [t.days, t.gap] ++ rowS ⟨#[83]⟩ [t.first, t.last]) ∧ Below W4.heap.size W4 wc)
  case first =>
    obtain ⟨P1, hP1⟩ : ∃ Z, Z = X0 ++ (rowS (⟨#[68]⟩ : ByteArray) [t.days, t.gap]) := ⟨_, rfl⟩
    have sP1 : P1.size ≤ 246 := by have q1 := (show X0.size ≤ 200 from sX0); have q2 := (show (rowS (⟨#[68]⟩ : ByteArray) [t.days, t.gap]).size ≤ 46 from rowS_size (c := (⟨#[68]⟩ : ByteArray)) (nb_cons tnn.pc.1 (nb_cons tnn.pc.2.1 nb_nil))); rw [hP1, app_size]; omega
    have aP1 : ∀ w, (Op.stringOp .add X0 (rowS (⟨#[68]⟩ : ByteArray) [t.days, t.gap])).run Tryd.prog w = .ok (.string P1) w := by have q1 := (show X0.size ≤ 200 from sX0); have q2 := (show (rowS (⟨#[68]⟩ : ByteArray) [t.days, t.gap]).size ≤ 46 from rowS_size (c := (⟨#[68]⟩ : ByteArray)) (nb_cons tnn.pc.1 (nb_cons tnn.pc.2.1 nb_nil))); rw [hP1]; exact sadd _ _ (by omega)
    have HP1 := hideP hP1
    clear hP1
    obtain ⟨P2, hP2⟩ : ∃ Z, Z = P1 ++ (rowS (⟨#[83]⟩ : ByteArray) [t.first, t.last]) := ⟨_, rfl⟩
    have sP2 : P2.size ≤ 292 := by have q1 := (show P1.size ≤ 246 from sP1); have q2 := (show (rowS (⟨#[83]⟩ : ByteArray) [t.first, t.last]).size ≤ 46 from rowS_size (c := (⟨#[83]⟩ : ByteArray)) (nb_cons tnn.pc.2.2.1 (nb_cons tnn.pc.2.2.2 nb_nil))); rw [hP2, app_size]; omega
    have aP2 : ∀ w, (Op.stringOp .add P1 (rowS (⟨#[83]⟩ : ByteArray) [t.first, t.last])).run Tryd.prog w = .ok (.string P2) w := by have q1 := (show P1.size ≤ 246 from sP1); have q2 := (show (rowS (⟨#[83]⟩ : ByteArray) [t.first, t.last]).size ≤ 46 from rowS_size (c := (⟨#[83]⟩ : ByteArray)) (nb_cons tnn.pc.2.2.1 (nb_cons tnn.pc.2.2.2 nb_nil))); rw [hP2]; exact sadd _ _ (by omega)
    have HP2 := hideP hP2
    clear hP2
    refine wp_region_held_drew (S := (fun w' => w'.heap[w.heap.size]? = some (.cells #[.int .i64 t.z.off, .int .i64 t.z.f.m, .int .i64 t.z.f.w, .int .i64 t.z.f.d, .int .i64 t.z.f.h, .int .i64 t.z.t.m, .int .i64 t.z.t.w, .int .i64 t.z.t.d, .int .i64 t.z.t.h, .int .i64 t.days, .int .i64 t.gap, .int .i64 t.first, .int .i64 t.last, .string t.h0, .string t.h1, .string t.h2, .string t.h3, .int .i64 t.b0.x, .int .i64 t.b0.y, .int .i64 t.b0.z, .int .i64 t.b1.x, .int .i64 t.b1.y, .int .i64 t.b1.z, .int .i64 t.b2.x, .int .i64 t.b2.y, .int .i64 t.b2.z, .int .i64 t.d.x, .int .i64 t.d.y, .int .i64 t.d.z, .int .i64 t.np, .int .i64 t.nn, .int .i64 t.fix, .int .i64 t.min, .int .i64 t.tax] 55 (0, 0)))) (by kernel_rfl) R4 (fun hH0 => ?_)
    refine wpAnyH_take (i := 0) (oi := { dst := some 51, op := Go.Op.move (Go.Operand.tmp 6), type := 9, pos := "text.go:153", after := #[], guard := none }) (v := .string X0) rfl (by kernel_rfl) (by kernel_rfl) (by kernel_rfl) (fun _ _ _ h => h) (Or.inl ⟨by rfl, ?_⟩) (by assumption) ?_
    · intro w9 hSw
      go_simp
    try simp only [Act.put, List.setIfInBounds_toArray, List.set_cons_zero, List.set_cons_succ]
    refine wpAnyH_take (i := 1) (oi := { dst := some 52, op := Go.Op.fieldAddr 55 (Go.Operand.tmp 1) 1, type := 0, pos := "text.go:153", after := #[], guard := none }) (v := .pointer (some ⟨w.heap.size, 9, none⟩)) rfl (by kernel_rfl) (by kernel_rfl) (by kernel_rfl) (fun _ _ _ h => h) (Or.inl ⟨by rfl, ?_⟩) (by assumption) ?_
    · intro w9 hSw
      go_simp
    try simp only [Act.put, List.setIfInBounds_toArray, List.set_cons_zero, List.set_cons_succ]
    refine wpAnyH_take (i := 2) (oi := { dst := some 53, op := Go.Op.load 3 (Go.Operand.tmp 52), type := 3, pos := "text.go:153", after := #[{ on := 1, ground := Go.Ground.data }], guard := none }) (v := .int .i64 t.days) rfl (by kernel_rfl) (by kernel_rfl) (by kernel_rfl) (fun _ _ _ h => h) (Or.inl ⟨by rfl, ?_⟩) (by assumption) ?_
    · intro w9 hSw
      have q9 : w9.cell? ⟨w.heap.size, 9, none⟩ = some (.int .i64 t.days) := cell_of_row _ _ _ _ _ _ hSw; go_simp
    try simp only [Act.put, List.setIfInBounds_toArray, List.set_cons_zero, List.set_cons_succ]
    refine wpAnyH_take (i := 3) (oi := { dst := some 54, op := Go.Op.fieldAddr 55 (Go.Operand.tmp 1) 2, type := 0, pos := "text.go:153", after := #[], guard := none }) (v := .pointer (some ⟨w.heap.size, 10, none⟩)) rfl (by kernel_rfl) (by kernel_rfl) (by kernel_rfl) (fun _ _ _ h => h) (Or.inl ⟨by rfl, ?_⟩) (by assumption) ?_
    · intro w9 hSw
      go_simp
    try simp only [Act.put, List.setIfInBounds_toArray, List.set_cons_zero, List.set_cons_succ]
    refine wpAnyH_take (i := 4) (oi := { dst := some 55, op := Go.Op.load 3 (Go.Operand.tmp 54), type := 3, pos := "text.go:153", after := #[{ on := 3, ground := Go.Ground.data }], guard := none }) (v := .int .i64 t.gap) rfl (by kernel_rfl) (by kernel_rfl) (by kernel_rfl) (fun _ _ _ h => h) (Or.inl ⟨by rfl, ?_⟩) (by assumption) ?_
    · intro w9 hSw
      have q10 : w9.cell? ⟨w.heap.size, 10, none⟩ = some (.int .i64 t.gap) := cell_of_row _ _ _ _ _ _ hSw; go_simp
    try simp only [Act.put, List.setIfInBounds_toArray, List.set_cons_zero, List.set_cons_succ]
    refine wpAnyH_take (i := 8) (oi := { dst := some 59, op := Go.Op.fieldAddr 55 (Go.Operand.tmp 1) 3, type := 0, pos := "text.go:153", after := #[], guard := none }) (v := .pointer (some ⟨w.heap.size, 11, none⟩)) rfl (by kernel_rfl) (by kernel_rfl) (by kernel_rfl) (fun _ _ _ h => h) (Or.inl ⟨by rfl, ?_⟩) (by assumption) ?_
    · intro w9 hSw
      go_simp
    try simp only [Act.put, List.setIfInBounds_toArray, List.set_cons_zero, List.set_cons_succ]
    refine wpAnyH_take (i := 9) (oi := { dst := some 60, op := Go.Op.load 3 (Go.Operand.tmp 59), type := 3, pos := "text.go:153", after := #[{ on := 8, ground := Go.Ground.data }], guard := none }) (v := .int .i64 t.first) rfl (by kernel_rfl) (by kernel_rfl) (by kernel_rfl) (fun _ _ _ h => h) (Or.inl ⟨by rfl, ?_⟩) (by assumption) ?_
    · intro w9 hSw
      have q11 : w9.cell? ⟨w.heap.size, 11, none⟩ = some (.int .i64 t.first) := cell_of_row _ _ _ _ _ _ hSw; go_simp
    try simp only [Act.put, List.setIfInBounds_toArray, List.set_cons_zero, List.set_cons_succ]
    refine wpAnyH_take (i := 10) (oi := { dst := some 61, op := Go.Op.fieldAddr 55 (Go.Operand.tmp 1) 4, type := 0, pos := "text.go:153", after := #[], guard := none }) (v := .pointer (some ⟨w.heap.size, 12, none⟩)) rfl (by kernel_rfl) (by kernel_rfl) (by kernel_rfl) (fun _ _ _ h => h) (Or.inl ⟨by rfl, ?_⟩) (by assumption) ?_
    · intro w9 hSw
      go_simp
    try simp only [Act.put, List.setIfInBounds_toArray, List.set_cons_zero, List.set_cons_succ]
    refine wpAnyH_take (i := 11) (oi := { dst := some 62, op := Go.Op.load 3 (Go.Operand.tmp 61), type := 3, pos := "text.go:153", after := #[{ on := 10, ground := Go.Ground.data }], guard := none }) (v := .int .i64 t.last) rfl (by kernel_rfl) (by kernel_rfl) (by kernel_rfl) (fun _ _ _ h => h) (Or.inl ⟨by rfl, ?_⟩) (by assumption) ?_
    · intro w9 hSw
      have q12 : w9.cell? ⟨w.heap.size, 12, none⟩ = some (.int .i64 t.last) := cell_of_row _ _ _ _ _ _ hSw; go_simp
    try simp only [Act.put, List.setIfInBounds_toArray, List.set_cons_zero, List.set_cons_succ]
    refine wpAnyH_ready (rs := [5, 12]) (by kernel_rfl) (by simp) ?_
    refine AllReadyH.cons (o := { dst := some 56, op := Go.Op.buildSlice 98 2 #[(0, Go.Operand.tmp 53), (1, Go.Operand.tmp 55)], type := 98, pos := "text.go:153", after := #[{ on := 2, ground := Go.Ground.data }, { on := 4, ground := Go.Ground.data }], guard := none }) rfl (fun K hK => ?_) (AllReadyH.cons (o := { dst := some 63, op := Go.Op.buildSlice 98 2 #[(0, Go.Operand.tmp 60), (1, Go.Operand.tmp 62)], type := 98, pos := "text.go:153", after := #[{ on := 9, ground := Go.Ground.data }, { on := 11, ground := Go.Ground.data }], guard := none }) rfl (fun K hK => ?_) AllReadyH.nil)
    · go_simp
      have BW4a1 : Below W4.heap.size W4 (W4.drew.alloc (.cells #[.int .i64 t.days, .int .i64 t.gap] 3)) := below_more (Below.drew (Below.refl _ _)) _
      have RW4n1 : (W4.drew.alloc (.cells #[.int .i64 t.days, .int .i64 t.gap] 3)).heap[W4.heap.size]? = some (.cells ([t.days, t.gap].map (Value.int .i64)).toArray 3 (0, 0)) := by simpa using heap_alloc_new (W4.drew) (.cells #[.int .i64 t.days, .int .i64 t.gap] 3)
      refine hK.out _ _ ((BW4a1.block _ z4).trans R4) (fun hHW4a1 => ?_)
      clear hK K
      try simp only [Act.put, List.setIfInBounds_toArray, List.set_cons_zero, List.set_cons_succ]
      refine wpAnyH_ready (rs := [6, 12]) (by kernel_rfl) (by simp) ?_
      refine AllReadyH.cons (o := { dst := some 57, op := Go.Op.call { callee := Go.Callee.value (Go.Operand.func 37), args := #[Go.Operand.const (Go.Value.string { data := #[68] }), Go.Operand.tmp 56], argTypes := #[9, 98] }, type := 9, pos := "text.go:153", after := #[{ on := 5, ground := Go.Ground.data }], guard := none }) rfl (fun K hK => ?_) (AllReadyH.cons (o := { dst := some 63, op := Go.Op.buildSlice 98 2 #[(0, Go.Operand.tmp 60), (1, Go.Operand.tmp 62)], type := 98, pos := "text.go:153", after := #[{ on := 9, ground := Go.Ground.data }, { on := 11, ground := Go.Ground.data }], guard := none }) rfl (fun K hK => ?_) AllReadyH.nil)
      · go_simp
        refine (row_any (⟨#[68]⟩ : ByteArray) [t.days, t.gap] W4.heap.size _ (row_lt RW4n1) (row_cells RW4n1) (nb_cons tnn.pc.1 (nb_cons tnn.pc.2.1 nb_nil)) (by simp) (show ((⟨#[68]⟩ : ByteArray)).size ≤ 1000 from by decide)).mono ?_
        rintro e wW4k2 ⟨rfl, hwW4k2⟩
        have BwW4k2 := below_then BW4a1 hwW4k2
        have RwW4k2_RW4n1 := (hwW4k2.block _ (row_lt RW4n1)).trans RW4n1
        go_wp2_with fail
        refine hK.out _ _ ((BwW4k2.block _ z4).trans R4) (fun hHwW4k2 => ?_)
        clear hK K
        try simp only [Act.put, List.setIfInBounds_toArray, List.set_cons_zero, List.set_cons_succ]
        refine wpAnyH_take (i := 7) (oi := { dst := some 58, op := Go.Op.binOp Go.BinOp.add 9 (Go.Operand.tmp 51) (Go.Operand.tmp 57) 9, type := 9, pos := "text.go:153", after := #[{ on := 0, ground := Go.Ground.data }, { on := 6, ground := Go.Ground.data }], guard := none }) (v := .string P1) rfl (by kernel_rfl) (by kernel_rfl) (by kernel_rfl) (fun _ _ _ h => h) (Or.inl ⟨by rfl, ?_⟩) (by assumption) ?_
        · intro w9 hSw
          go_simp
        try simp only [Act.put, List.setIfInBounds_toArray, List.set_cons_zero, List.set_cons_succ]
        refine wpAnyH_ready (rs := [12]) (by kernel_rfl) (by simp) ?_
        refine AllReadyH.cons (o := { dst := some 63, op := Go.Op.buildSlice 98 2 #[(0, Go.Operand.tmp 60), (1, Go.Operand.tmp 62)], type := 98, pos := "text.go:153", after := #[{ on := 9, ground := Go.Ground.data }, { on := 11, ground := Go.Ground.data }], guard := none }) rfl (fun K hK => ?_) AllReadyH.nil
        go_simp
        have BW4a3 : Below W4.heap.size W4 (wW4k2.alloc (.cells #[.int .i64 t.first, .int .i64 t.last] 3)) := below_more BwW4k2 _
        have RW4a3_RwW4k2_RW4n1 : (wW4k2.alloc (.cells #[.int .i64 t.first, .int .i64 t.last] 3)).heap[W4.heap.size]? = _ := alloc_far RwW4k2_RW4n1 (row_lt RwW4k2_RW4n1)
        have RW4n3 : (wW4k2.alloc (.cells #[.int .i64 t.first, .int .i64 t.last] 3)).heap[wW4k2.heap.size]? = some (.cells ([t.first, t.last].map (Value.int .i64)).toArray 3 (0, 0)) := by simpa using heap_alloc_new (wW4k2) (.cells #[.int .i64 t.first, .int .i64 t.last] 3)
        refine hK.out _ _ ((BW4a3.block _ z4).trans R4) (fun hHW4a3 => ?_)
        clear hK K
        try simp only [Act.put, List.setIfInBounds_toArray, List.set_cons_zero, List.set_cons_succ]
        refine wpAnyH_ready (rs := [13]) (by kernel_rfl) (by simp) ?_
        refine AllReadyH.cons (o := { dst := some 64, op := Go.Op.call { callee := Go.Callee.value (Go.Operand.func 37), args := #[Go.Operand.const (Go.Value.string { data := #[83] }), Go.Operand.tmp 63], argTypes := #[9, 98] }, type := 9, pos := "text.go:153", after := #[{ on := 12, ground := Go.Ground.data }, { on := 6, ground := Go.Ground.chain }], guard := none }) rfl (fun K hK => ?_) AllReadyH.nil
        go_simp
        refine (row_any (⟨#[83]⟩ : ByteArray) [t.first, t.last] wW4k2.heap.size _ (row_lt RW4n3) (row_cells RW4n3) (nb_cons tnn.pc.2.2.1 (nb_cons tnn.pc.2.2.2 nb_nil)) (by simp) (show ((⟨#[83]⟩ : ByteArray)).size ≤ 1000 from by decide)).mono ?_
        rintro e wW4k4 ⟨rfl, hwW4k4⟩
        have BwW4k4 := below_then BW4a3 hwW4k4
        have RwW4k4_RW4a3_RwW4k2_RW4n1 := (hwW4k4.block _ (row_lt RW4a3_RwW4k2_RW4n1)).trans RW4a3_RwW4k2_RW4n1
        have RwW4k4_RW4n3 := (hwW4k4.block _ (row_lt RW4n3)).trans RW4n3
        go_wp2_with fail
        refine hK.out _ _ ((BwW4k4.block _ z4).trans R4) (fun hHwW4k4 => ?_)
        clear hK K
        try simp only [Act.put, List.setIfInBounds_toArray, List.set_cons_zero, List.set_cons_succ]
        refine wpAnyH_take (i := 14) (oi := { dst := some 65, op := Go.Op.binOp Go.BinOp.add 9 (Go.Operand.tmp 58) (Go.Operand.tmp 64) 9, type := 9, pos := "text.go:153", after := #[{ on := 7, ground := Go.Ground.data }, { on := 13, ground := Go.Ground.data }], guard := none }) (v := .string P2) rfl (by kernel_rfl) (by kernel_rfl) (by kernel_rfl) (fun _ _ _ h => h) (Or.inl ⟨by rfl, ?_⟩) (by assumption) ?_
        · intro w9 hSw
          go_simp
        try simp only [Act.put, List.setIfInBounds_toArray, List.set_cons_zero, List.set_cons_succ]
        refine wpAnyH_take (i := 15) (oi := { dst := some 6, op := Go.Op.assign (Go.Operand.tmp 65), type := 9, pos := "text.go:153", after := #[{ on := 14, ground := Go.Ground.data }, { on := 13, ground := Go.Ground.chain }, { on := 0, ground := Go.Ground.phase }, { on := 1, ground := Go.Ground.phase }, { on := 2, ground := Go.Ground.phase }, { on := 3, ground := Go.Ground.phase }, { on := 4, ground := Go.Ground.phase }, { on := 5, ground := Go.Ground.phase }, { on := 6, ground := Go.Ground.phase }, { on := 7, ground := Go.Ground.phase }, { on := 8, ground := Go.Ground.phase }, { on := 9, ground := Go.Ground.phase }, { on := 10, ground := Go.Ground.phase }, { on := 11, ground := Go.Ground.phase }, { on := 12, ground := Go.Ground.phase }, { on := 13, ground := Go.Ground.phase }, { on := 14, ground := Go.Ground.phase }], guard := none }) (v := .string P2) rfl (by kernel_rfl) (by kernel_rfl) (by kernel_rfl) (fun _ _ _ h => h) (Or.inl ⟨by rfl, ?_⟩) (by assumption) ?_
        · intro w9 hSw
          go_simp
        try simp only [Act.put, List.setIfInBounds_toArray, List.set_cons_zero, List.set_cons_succ]
        refine wpAnyH_done (by kernel_rfl) ?_ _
        go_wp2_with fail
        go_meet
        case rel => exact ⟨by rw [HP2.out, HP1.out], BwW4k4⟩
      · go_simp
        have BW4a5 : Below W4.heap.size W4 ((W4.drew.alloc (.cells #[.int .i64 t.days, .int .i64 t.gap] 3)).alloc (.cells #[.int .i64 t.first, .int .i64 t.last] 3)) := below_more BW4a1 _
        have RW4a5_RW4n1 : ((W4.drew.alloc (.cells #[.int .i64 t.days, .int .i64 t.gap] 3)).alloc (.cells #[.int .i64 t.first, .int .i64 t.last] 3)).heap[W4.heap.size]? = _ := alloc_far RW4n1 (row_lt RW4n1)
        have RW4n5 : ((W4.drew.alloc (.cells #[.int .i64 t.days, .int .i64 t.gap] 3)).alloc (.cells #[.int .i64 t.first, .int .i64 t.last] 3)).heap[(W4.heap.size + 1)]? = some (.cells ([t.first, t.last].map (Value.int .i64)).toArray 3 (0, 0)) := by simpa using heap_alloc_new ((W4.drew.alloc (.cells #[.int .i64 t.days, .int .i64 t.gap] 3))) (.cells #[.int .i64 t.first, .int .i64 t.last] 3)
        refine hK.out _ _ ((BW4a5.block _ z4).trans R4) (fun hHW4a5 => ?_)
        clear hK K
        try simp only [Act.put, List.setIfInBounds_toArray, List.set_cons_zero, List.set_cons_succ]
        refine wpAnyH_ready (rs := [6]) (by kernel_rfl) (by simp) ?_
        refine AllReadyH.cons (o := { dst := some 57, op := Go.Op.call { callee := Go.Callee.value (Go.Operand.func 37), args := #[Go.Operand.const (Go.Value.string { data := #[68] }), Go.Operand.tmp 56], argTypes := #[9, 98] }, type := 9, pos := "text.go:153", after := #[{ on := 5, ground := Go.Ground.data }], guard := none }) rfl (fun K hK => ?_) AllReadyH.nil
        go_simp
        refine (row_any (⟨#[68]⟩ : ByteArray) [t.days, t.gap] W4.heap.size _ (row_lt RW4a5_RW4n1) (row_cells RW4a5_RW4n1) (nb_cons tnn.pc.1 (nb_cons tnn.pc.2.1 nb_nil)) (by simp) (show ((⟨#[68]⟩ : ByteArray)).size ≤ 1000 from by decide)).mono ?_
        rintro e wW4k6 ⟨rfl, hwW4k6⟩
        have BwW4k6 := below_then BW4a5 hwW4k6
        have RwW4k6_RW4a5_RW4n1 := (hwW4k6.block _ (row_lt RW4a5_RW4n1)).trans RW4a5_RW4n1
        have RwW4k6_RW4n5 := (hwW4k6.block _ (row_lt RW4n5)).trans RW4n5
        go_wp2_with fail
        refine hK.out _ _ ((BwW4k6.block _ z4).trans R4) (fun hHwW4k6 => ?_)
        clear hK K
        try simp only [Act.put, List.setIfInBounds_toArray, List.set_cons_zero, List.set_cons_succ]
        refine wpAnyH_take (i := 7) (oi := { dst := some 58, op := Go.Op.binOp Go.BinOp.add 9 (Go.Operand.tmp 51) (Go.Operand.tmp 57) 9, type := 9, pos := "text.go:153", after := #[{ on := 0, ground := Go.Ground.data }, { on := 6, ground := Go.Ground.data }], guard := none }) (v := .string P1) rfl (by kernel_rfl) (by kernel_rfl) (by kernel_rfl) (fun _ _ _ h => h) (Or.inl ⟨by rfl, ?_⟩) (by assumption) ?_
        · intro w9 hSw
          go_simp
        try simp only [Act.put, List.setIfInBounds_toArray, List.set_cons_zero, List.set_cons_succ]
        refine wpAnyH_ready (rs := [13]) (by kernel_rfl) (by simp) ?_
        refine AllReadyH.cons (o := { dst := some 64, op := Go.Op.call { callee := Go.Callee.value (Go.Operand.func 37), args := #[Go.Operand.const (Go.Value.string { data := #[83] }), Go.Operand.tmp 63], argTypes := #[9, 98] }, type := 9, pos := "text.go:153", after := #[{ on := 12, ground := Go.Ground.data }, { on := 6, ground := Go.Ground.chain }], guard := none }) rfl (fun K hK => ?_) AllReadyH.nil
        go_simp
        refine (row_any (⟨#[83]⟩ : ByteArray) [t.first, t.last] (W4.heap.size + 1) _ (row_lt RwW4k6_RW4n5) (row_cells RwW4k6_RW4n5) (nb_cons tnn.pc.2.2.1 (nb_cons tnn.pc.2.2.2 nb_nil)) (by simp) (show ((⟨#[83]⟩ : ByteArray)).size ≤ 1000 from by decide)).mono ?_
        rintro e wW4k7 ⟨rfl, hwW4k7⟩
        have BwW4k7 := below_then BwW4k6 hwW4k7
        have RwW4k7_RwW4k6_RW4a5_RW4n1 := (hwW4k7.block _ (row_lt RwW4k6_RW4a5_RW4n1)).trans RwW4k6_RW4a5_RW4n1
        have RwW4k7_RwW4k6_RW4n5 := (hwW4k7.block _ (row_lt RwW4k6_RW4n5)).trans RwW4k6_RW4n5
        go_wp2_with fail
        refine hK.out _ _ ((BwW4k7.block _ z4).trans R4) (fun hHwW4k7 => ?_)
        clear hK K
        try simp only [Act.put, List.setIfInBounds_toArray, List.set_cons_zero, List.set_cons_succ]
        refine wpAnyH_take (i := 14) (oi := { dst := some 65, op := Go.Op.binOp Go.BinOp.add 9 (Go.Operand.tmp 58) (Go.Operand.tmp 64) 9, type := 9, pos := "text.go:153", after := #[{ on := 7, ground := Go.Ground.data }, { on := 13, ground := Go.Ground.data }], guard := none }) (v := .string P2) rfl (by kernel_rfl) (by kernel_rfl) (by kernel_rfl) (fun _ _ _ h => h) (Or.inl ⟨by rfl, ?_⟩) (by assumption) ?_
        · intro w9 hSw
          go_simp
        try simp only [Act.put, List.setIfInBounds_toArray, List.set_cons_zero, List.set_cons_succ]
        refine wpAnyH_take (i := 15) (oi := { dst := some 6, op := Go.Op.assign (Go.Operand.tmp 65), type := 9, pos := "text.go:153", after := #[{ on := 14, ground := Go.Ground.data }, { on := 13, ground := Go.Ground.chain }, { on := 0, ground := Go.Ground.phase }, { on := 1, ground := Go.Ground.phase }, { on := 2, ground := Go.Ground.phase }, { on := 3, ground := Go.Ground.phase }, { on := 4, ground := Go.Ground.phase }, { on := 5, ground := Go.Ground.phase }, { on := 6, ground := Go.Ground.phase }, { on := 7, ground := Go.Ground.phase }, { on := 8, ground := Go.Ground.phase }, { on := 9, ground := Go.Ground.phase }, { on := 10, ground := Go.Ground.phase }, { on := 11, ground := Go.Ground.phase }, { on := 12, ground := Go.Ground.phase }, { on := 13, ground := Go.Ground.phase }, { on := 14, ground := Go.Ground.phase }], guard := none }) (v := .string P2) rfl (by kernel_rfl) (by kernel_rfl) (by kernel_rfl) (fun _ _ _ h => h) (Or.inl ⟨by rfl, ?_⟩) (by assumption) ?_
        · intro w9 hSw
          go_simp
        try simp only [Act.put, List.setIfInBounds_toArray, List.set_cons_zero, List.set_cons_succ]
        refine wpAnyH_done (by kernel_rfl) ?_ _
        go_wp2_with fail
        go_meet
        case rel => exact ⟨by rw [HP2.out, HP1.out], BwW4k7⟩
    · go_simp
      have BW4a8 : Below W4.heap.size W4 (W4.drew.alloc (.cells #[.int .i64 t.first, .int .i64 t.last] 3)) := below_more (Below.drew (Below.refl _ _)) _
      have RW4n8 : (W4.drew.alloc (.cells #[.int .i64 t.first, .int .i64 t.last] 3)).heap[W4.heap.size]? = some (.cells ([t.first, t.last].map (Value.int .i64)).toArray 3 (0, 0)) := by simpa using heap_alloc_new (W4.drew) (.cells #[.int .i64 t.first, .int .i64 t.last] 3)
      refine hK.out _ _ ((BW4a8.block _ z4).trans R4) (fun hHW4a8 => ?_)
      clear hK K
      try simp only [Act.put, List.setIfInBounds_toArray, List.set_cons_zero, List.set_cons_succ]
      refine wpAnyH_ready (rs := [5]) (by kernel_rfl) (by simp) ?_
      refine AllReadyH.cons (o := { dst := some 56, op := Go.Op.buildSlice 98 2 #[(0, Go.Operand.tmp 53), (1, Go.Operand.tmp 55)], type := 98, pos := "text.go:153", after := #[{ on := 2, ground := Go.Ground.data }, { on := 4, ground := Go.Ground.data }], guard := none }) rfl (fun K hK => ?_) AllReadyH.nil
      go_simp
      have BW4a9 : Below W4.heap.size W4 ((W4.drew.alloc (.cells #[.int .i64 t.first, .int .i64 t.last] 3)).alloc (.cells #[.int .i64 t.days, .int .i64 t.gap] 3)) := below_more BW4a8 _
      have RW4a9_RW4n8 : ((W4.drew.alloc (.cells #[.int .i64 t.first, .int .i64 t.last] 3)).alloc (.cells #[.int .i64 t.days, .int .i64 t.gap] 3)).heap[W4.heap.size]? = _ := alloc_far RW4n8 (row_lt RW4n8)
      have RW4n9 : ((W4.drew.alloc (.cells #[.int .i64 t.first, .int .i64 t.last] 3)).alloc (.cells #[.int .i64 t.days, .int .i64 t.gap] 3)).heap[(W4.heap.size + 1)]? = some (.cells ([t.days, t.gap].map (Value.int .i64)).toArray 3 (0, 0)) := by simpa using heap_alloc_new ((W4.drew.alloc (.cells #[.int .i64 t.first, .int .i64 t.last] 3))) (.cells #[.int .i64 t.days, .int .i64 t.gap] 3)
      refine hK.out _ _ ((BW4a9.block _ z4).trans R4) (fun hHW4a9 => ?_)
      clear hK K
      try simp only [Act.put, List.setIfInBounds_toArray, List.set_cons_zero, List.set_cons_succ]
      refine wpAnyH_ready (rs := [6]) (by kernel_rfl) (by simp) ?_
      refine AllReadyH.cons (o := { dst := some 57, op := Go.Op.call { callee := Go.Callee.value (Go.Operand.func 37), args := #[Go.Operand.const (Go.Value.string { data := #[68] }), Go.Operand.tmp 56], argTypes := #[9, 98] }, type := 9, pos := "text.go:153", after := #[{ on := 5, ground := Go.Ground.data }], guard := none }) rfl (fun K hK => ?_) AllReadyH.nil
      go_simp
      refine (row_any (⟨#[68]⟩ : ByteArray) [t.days, t.gap] (W4.heap.size + 1) _ (row_lt RW4n9) (row_cells RW4n9) (nb_cons tnn.pc.1 (nb_cons tnn.pc.2.1 nb_nil)) (by simp) (show ((⟨#[68]⟩ : ByteArray)).size ≤ 1000 from by decide)).mono ?_
      rintro e wW4k10 ⟨rfl, hwW4k10⟩
      have BwW4k10 := below_then BW4a9 hwW4k10
      have RwW4k10_RW4a9_RW4n8 := (hwW4k10.block _ (row_lt RW4a9_RW4n8)).trans RW4a9_RW4n8
      have RwW4k10_RW4n9 := (hwW4k10.block _ (row_lt RW4n9)).trans RW4n9
      go_wp2_with fail
      refine hK.out _ _ ((BwW4k10.block _ z4).trans R4) (fun hHwW4k10 => ?_)
      clear hK K
      try simp only [Act.put, List.setIfInBounds_toArray, List.set_cons_zero, List.set_cons_succ]
      refine wpAnyH_take (i := 7) (oi := { dst := some 58, op := Go.Op.binOp Go.BinOp.add 9 (Go.Operand.tmp 51) (Go.Operand.tmp 57) 9, type := 9, pos := "text.go:153", after := #[{ on := 0, ground := Go.Ground.data }, { on := 6, ground := Go.Ground.data }], guard := none }) (v := .string P1) rfl (by kernel_rfl) (by kernel_rfl) (by kernel_rfl) (fun _ _ _ h => h) (Or.inl ⟨by rfl, ?_⟩) (by assumption) ?_
      · intro w9 hSw
        go_simp
      try simp only [Act.put, List.setIfInBounds_toArray, List.set_cons_zero, List.set_cons_succ]
      refine wpAnyH_ready (rs := [13]) (by kernel_rfl) (by simp) ?_
      refine AllReadyH.cons (o := { dst := some 64, op := Go.Op.call { callee := Go.Callee.value (Go.Operand.func 37), args := #[Go.Operand.const (Go.Value.string { data := #[83] }), Go.Operand.tmp 63], argTypes := #[9, 98] }, type := 9, pos := "text.go:153", after := #[{ on := 12, ground := Go.Ground.data }, { on := 6, ground := Go.Ground.chain }], guard := none }) rfl (fun K hK => ?_) AllReadyH.nil
      go_simp
      refine (row_any (⟨#[83]⟩ : ByteArray) [t.first, t.last] W4.heap.size _ (row_lt RwW4k10_RW4a9_RW4n8) (row_cells RwW4k10_RW4a9_RW4n8) (nb_cons tnn.pc.2.2.1 (nb_cons tnn.pc.2.2.2 nb_nil)) (by simp) (show ((⟨#[83]⟩ : ByteArray)).size ≤ 1000 from by decide)).mono ?_
      rintro e wW4k11 ⟨rfl, hwW4k11⟩
      have BwW4k11 := below_then BwW4k10 hwW4k11
      have RwW4k11_RwW4k10_RW4a9_RW4n8 := (hwW4k11.block _ (row_lt RwW4k10_RW4a9_RW4n8)).trans RwW4k10_RW4a9_RW4n8
      have RwW4k11_RwW4k10_RW4n9 := (hwW4k11.block _ (row_lt RwW4k10_RW4n9)).trans RwW4k10_RW4n9
      go_wp2_with fail
      refine hK.out _ _ ((BwW4k11.block _ z4).trans R4) (fun hHwW4k11 => ?_)
      clear hK K
      try simp only [Act.put, List.setIfInBounds_toArray, List.set_cons_zero, List.set_cons_succ]
      refine wpAnyH_take (i := 14) (oi := { dst := some 65, op := Go.Op.binOp Go.BinOp.add 9 (Go.Operand.tmp 58) (Go.Operand.tmp 64) 9, type := 9, pos := "text.go:153", after := #[{ on := 7, ground := Go.Ground.data }, { on := 13, ground := Go.Ground.data }], guard := none }) (v := .string P2) rfl (by kernel_rfl) (by kernel_rfl) (by kernel_rfl) (fun _ _ _ h => h) (Or.inl ⟨by rfl, ?_⟩) (by assumption) ?_
      · intro w9 hSw
        go_simp
      try simp only [Act.put, List.setIfInBounds_toArray, List.set_cons_zero, List.set_cons_succ]
      refine wpAnyH_take (i := 15) (oi := { dst := some 6, op := Go.Op.assign (Go.Operand.tmp 65), type := 9, pos := "text.go:153", after := #[{ on := 14, ground := Go.Ground.data }, { on := 13, ground := Go.Ground.chain }, { on := 0, ground := Go.Ground.phase }, { on := 1, ground := Go.Ground.phase }, { on := 2, ground := Go.Ground.phase }, { on := 3, ground := Go.Ground.phase }, { on := 4, ground := Go.Ground.phase }, { on := 5, ground := Go.Ground.phase }, { on := 6, ground := Go.Ground.phase }, { on := 7, ground := Go.Ground.phase }, { on := 8, ground := Go.Ground.phase }, { on := 9, ground := Go.Ground.phase }, { on := 10, ground := Go.Ground.phase }, { on := 11, ground := Go.Ground.phase }, { on := 12, ground := Go.Ground.phase }, { on := 13, ground := Go.Ground.phase }, { on := 14, ground := Go.Ground.phase }], guard := none }) (v := .string P2) rfl (by kernel_rfl) (by kernel_rfl) (by kernel_rfl) (fun _ _ _ h => h) (Or.inl ⟨by rfl, ?_⟩) (by assumption) ?_
      · intro w9 hSw
        go_simp
      try simp only [Act.put, List.setIfInBounds_toArray, List.set_cons_zero, List.set_cons_succ]
      refine wpAnyH_done (by kernel_rfl) ?_ _
      go_wp2_with fail
      go_meet
      case rel => exact ⟨by rw [HP2.out, HP1.out], BwW4k11⟩
  case rest =>
  obtain ⟨rfl, hbc⟩ := hcut
  have RC : wc.heap[w.heap.size]? = some (.cells #[.int .i64 t.z.off, .int .i64 t.z.f.m, .int .i64 t.z.f.w, .int .i64 t.z.f.d, .int .i64 t.z.f.h, .int .i64 t.z.t.m, .int .i64 t.z.t.w, .int .i64 t.z.t.d, .int .i64 t.z.t.h, .int .i64 t.days, .int .i64 t.gap, .int .i64 t.first, .int .i64 t.last, .string t.h0, .string t.h1, .string t.h2, .string t.h3, .int .i64 t.b0.x, .int .i64 t.b0.y, .int .i64 t.b0.z, .int .i64 t.b1.x, .int .i64 t.b1.y, .int .i64 t.b1.z, .int .i64 t.b2.x, .int .i64 t.b2.y, .int .i64 t.b2.z, .int .i64 t.d.x, .int .i64 t.d.y, .int .i64 t.d.z, .int .i64 t.np, .int .i64 t.nn, .int .i64 t.fix, .int .i64 t.min, .int .i64 t.tax] 55) := (hbc.block _ z4).trans R4
  have BC := below_then BL4 hbc
  have zC : w.heap.size < wc.heap.size := row_lt RC
  obtain ⟨X3, hX3⟩ : ∃ X, X = X0 ++ rowS ⟨#[68]⟩ [t.days, t.gap] ++ rowS ⟨#[83]⟩ [t.first, t.last] := ⟨_, rfl⟩
  have sX3 : X3.size ≤ 292 := by
    have q1 := rowS_size (c := ⟨#[68]⟩) (nb_cons tnn.pc.1 (nb_cons tnn.pc.2.1 nb_nil))
    have q2 := rowS_size (c := ⟨#[83]⟩) (nb_cons tnn.pc.2.2.1 (nb_cons tnn.pc.2.2.2 nb_nil))
    rw [hX3, app_size, app_size]
    have q3 : (rowS ⟨#[68]⟩ [t.days, t.gap]).size ≤ 46 := q1
    have q4 : (rowS ⟨#[83]⟩ [t.first, t.last]).size ≤ 46 := q2
    omega
  rw [← hX3]
  have HX3 : Hid (X3 = zRow t ++ rowS ⟨#[68]⟩ [t.days, t.gap] ++ rowS ⟨#[83]⟩ [t.first, t.last]) := by show _ = _; rw [hX3, HX0.out]
  have HKS := hideP (fun k (hk : k ≤ 4) => by have := hK_size tnn sX3 k hk; rw [← hE_eq] at this; exact this)
  clear hX3 hbc
  go_wp2_with fail
  go_loopw [6, 7] (fun s p wi => ∃ k : Nat, p = .int .i64 k ∧ k ≤ 4 ∧ s = .string (hE t X3 k) ∧ wi = wc) (fun _ p _ => 4 - (intOf p).toNat)
  case atStart => exact ⟨0, rfl, by omega, rfl, rfl⟩
  case round =>
    obtain ⟨k, rfl, hk, rfl, hwr⟩ := hrel
    have hwr2 := hwr.symm
    subst hwr2
    by_cases hlt : k < 4
    · have hlt' : (k : Int) < 4 := by omega
      have hk0 : (0 : Int) ≤ (k : Int) := by omega
      have ck : wc.cell? ⟨w.heap.size, 13 + k, none⟩ = some (.string (hAt t k)) := by
        rw [cell_of_row _ _ _ _ _ _ RC]
        rcases (by omega : k = 0 ∨ k = 1 ∨ k = 2 ∨ k = 3) with rfl | rfl | rfl | rfl <;> rfl
      have sk := HKS.out k (by omega)
      have sh := tnn.ph k hlt
      have HS : Hid (hE t X3 (k + 1) = hE t X3 k ++ ⟨#[87, 32]⟩ ++ hAt t k ++ ⟨#[10]⟩) := rfl
      obtain ⟨X, hX⟩ : ∃ X, X = hE t X3 k := ⟨_, rfl⟩
      rw [← hX] at sk HS
      rw [← hX]
      obtain ⟨h, hh⟩ : ∃ h, h = hAt t k := ⟨_, rfl⟩
      rw [← hh] at ck sh HS
      obtain ⟨A1, hA1⟩ : ∃ A, A = X ++ (⟨#[87, 32]⟩ : ByteArray) := ⟨_, rfl⟩
      obtain ⟨A2, hA2⟩ : ∃ A, A = A1 ++ h := ⟨_, rfl⟩
      have sA1 : A1.size = X.size + 2 := by rw [hA1, app_size]; rfl
      have sA2 : A2.size = A1.size + 24 := by rw [hA2, app_size, sh]
      have d1 : ∀ w, (Op.stringOp .add X ⟨#[87, 32]⟩).run Tryd.prog w = .ok (.string A1) w := by rw [hA1]; exact sadd _ _ (by show _ + 2 ≤ _; omega)
      have d2 : ∀ w, (Op.stringOp .add A1 h).run Tryd.prog w = .ok (.string A2) w := by rw [hA2]; exact sadd _ _ (by omega)
      have d3 : ∀ w, (Op.stringOp .add A2 ⟨#[10]⟩).run Tryd.prog w = .ok (.string (A2 ++ ⟨#[10]⟩)) w := sadd _ _ (by show _ + 1 ≤ _; omega)
      have HA : Hid (A2 = X ++ ⟨#[87, 32]⟩ ++ h) := by show _ = _; rw [hA2, hA1]
      clear hX hh hA1 hA2
      go_wp2_with fail
      go_roundw
      case rel => exact ⟨k + 1, by go_num, by omega, by rw [HS.out, HA.out], by first | rfl | trivial⟩
      case measure => simp [intOf]; omega
    · have hlt' : ¬ (k : Int) < 4 := by omega
      have hk4 : k = 4 := by omega
      subst hk4
      have sX4 := HKS.out 4 (by omega)
      obtain ⟨X4, hX4⟩ : ∃ X, X = hE t X3 4 := ⟨_, rfl⟩
      rw [← hX4] at sX4
      rw [← hX4]
      have HX4 := hideP hX4
      have BKS := hideP (fun k (hk : k ≤ 3) => by have := bK_size tnn sX4 k hk; rw [← bE_eq] at this; exact this)
      clear hX4 hlt
      go_wp2_with fail
      go_loopw [6, 8] (fun s p wi => ∃ k : Nat, p = .int .i64 k ∧ k ≤ 3 ∧ s = .string (bE t X4 k) ∧ Below wc.heap.size wc wi) (fun _ p _ => 3 - (intOf p).toNat)
      case atStart => exact ⟨0, rfl, by omega, rfl, Below.refl _ _⟩
      case round =>
        obtain ⟨k, rfl, hk, rfl, hb⟩ := hrel
        have RW : wr.heap[w.heap.size]? = some (.cells #[.int .i64 t.z.off, .int .i64 t.z.f.m, .int .i64 t.z.f.w, .int .i64 t.z.f.d, .int .i64 t.z.f.h, .int .i64 t.z.t.m, .int .i64 t.z.t.w, .int .i64 t.z.t.d, .int .i64 t.z.t.h, .int .i64 t.days, .int .i64 t.gap, .int .i64 t.first, .int .i64 t.last, .string t.h0, .string t.h1, .string t.h2, .string t.h3, .int .i64 t.b0.x, .int .i64 t.b0.y, .int .i64 t.b0.z, .int .i64 t.b1.x, .int .i64 t.b1.y, .int .i64 t.b1.z, .int .i64 t.b2.x, .int .i64 t.b2.y, .int .i64 t.b2.z, .int .i64 t.d.x, .int .i64 t.d.y, .int .i64 t.d.z, .int .i64 t.np, .int .i64 t.nn, .int .i64 t.fix, .int .i64 t.min, .int .i64 t.tax] 55) := (hb.block _ zC).trans RC
        have BW := below_then BC hb
        have zW : w.heap.size < wr.heap.size := row_lt RW
        have sk := BKS.out k hk
        have HS : Hid (bE t X4 (k + 1) = bE t X4 k ++ rowS ⟨#[66]⟩ [(bAt t k).x, (bAt t k).y, (bAt t k).z]) := rfl
        obtain ⟨X, hX⟩ : ∃ X, X = bE t X4 k := ⟨_, rfl⟩
        rw [← hX] at sk HS
        rw [← hX]
        have sX : X.size ≤ 2000 := by omega
        have HXX := hideP hX
        clear hX
        by_cases hlt : k < 3
        · have hlt' : (k : Int) < 3 := by omega
          have hk0 : (0 : Int) ≤ (k : Int) := by omega
          rcases (by omega : k = 0 ∨ k = 1 ∨ k = 2) with rfl | rfl | rfl
          · go_wp2_with fail
            obtain ⟨P1, hP1⟩ : ∃ Z, Z = X ++ (rowS (⟨#[66]⟩ : ByteArray) [t.b0.x, t.b0.y, t.b0.z]) := ⟨_, rfl⟩
            have sP1 : P1.size ≤ 2068 := by have q1 := (show X.size ≤ 2000 from sX); have q2 := (show (rowS (⟨#[66]⟩ : ByteArray) [t.b0.x, t.b0.y, t.b0.z]).size ≤ 68 from rowS_size (c := (⟨#[66]⟩ : ByteArray)) (nb_cons (tnn.pb 0 (by omega)).1 (nb_cons (tnn.pb 0 (by omega)).2.1 (nb_cons (tnn.pb 0 (by omega)).2.2 nb_nil)))); rw [hP1, app_size]; omega
            have aP1 : ∀ w, (Op.stringOp .add X (rowS (⟨#[66]⟩ : ByteArray) [t.b0.x, t.b0.y, t.b0.z])).run Tryd.prog w = .ok (.string P1) w := by have q1 := (show X.size ≤ 2000 from sX); have q2 := (show (rowS (⟨#[66]⟩ : ByteArray) [t.b0.x, t.b0.y, t.b0.z]).size ≤ 68 from rowS_size (c := (⟨#[66]⟩ : ByteArray)) (nb_cons (tnn.pb 0 (by omega)).1 (nb_cons (tnn.pb 0 (by omega)).2.1 (nb_cons (tnn.pb 0 (by omega)).2.2 nb_nil)))); rw [hP1]; exact sadd _ _ (by omega)
            have HP1 := hideP hP1
            clear hP1
            refine wp_region_held_drew (S := (fun w' => w'.heap[w.heap.size]? = some (.cells #[.int .i64 t.z.off, .int .i64 t.z.f.m, .int .i64 t.z.f.w, .int .i64 t.z.f.d, .int .i64 t.z.f.h, .int .i64 t.z.t.m, .int .i64 t.z.t.w, .int .i64 t.z.t.d, .int .i64 t.z.t.h, .int .i64 t.days, .int .i64 t.gap, .int .i64 t.first, .int .i64 t.last, .string t.h0, .string t.h1, .string t.h2, .string t.h3, .int .i64 t.b0.x, .int .i64 t.b0.y, .int .i64 t.b0.z, .int .i64 t.b1.x, .int .i64 t.b1.y, .int .i64 t.b1.z, .int .i64 t.b2.x, .int .i64 t.b2.y, .int .i64 t.b2.z, .int .i64 t.d.x, .int .i64 t.d.y, .int .i64 t.d.z, .int .i64 t.np, .int .i64 t.nn, .int .i64 t.fix, .int .i64 t.min, .int .i64 t.tax] 55 (0, 0)))) (by kernel_rfl) RW (fun hH0 => ?_)
            refine wpAnyH_take (i := 0) (oi := { dst := some 82, op := Go.Op.move (Go.Operand.tmp 6), type := 9, pos := "text.go:158", after := #[], guard := none }) (v := .string X) rfl (by kernel_rfl) (by kernel_rfl) (by kernel_rfl) (fun _ _ _ h => h) (Or.inl ⟨by rfl, ?_⟩) (by assumption) ?_
            · intro w9 hSw
              go_simp
            try simp only [Act.put, List.setIfInBounds_toArray, List.set_cons_zero, List.set_cons_succ]
            refine wpAnyH_take (i := 1) (oi := { dst := some 83, op := Go.Op.move (Go.Operand.tmp 8), type := 3, pos := "text.go:158", after := #[], guard := none }) (v := .int .i64 0) rfl (by kernel_rfl) (by kernel_rfl) (by kernel_rfl) (fun _ _ _ h => h) (Or.inl ⟨by rfl, ?_⟩) (by assumption) ?_
            · intro w9 hSw
              go_simp
            try simp only [Act.put, List.setIfInBounds_toArray, List.set_cons_zero, List.set_cons_succ]
            refine wpAnyH_take (i := 2) (oi := { dst := some 84, op := Go.Op.fieldAddr 55 (Go.Operand.tmp 1) 6, type := 0, pos := "text.go:158", after := #[], guard := none }) (v := .pointer (some ⟨w.heap.size, 17, none⟩)) rfl (by kernel_rfl) (by kernel_rfl) (by kernel_rfl) (fun _ _ _ h => h) (Or.inl ⟨by rfl, ?_⟩) (by assumption) ?_
            · intro w9 hSw
              go_simp
            try simp only [Act.put, List.setIfInBounds_toArray, List.set_cons_zero, List.set_cons_succ]
            refine wpAnyH_take (i := 3) (oi := { dst := some 85, op := Go.Op.indexAddr 51 (Go.Operand.tmp 84) (Go.Operand.tmp 83), type := 0, pos := "text.go:158", after := #[{ on := 2, ground := Go.Ground.data }, { on := 1, ground := Go.Ground.data }], guard := none }) (v := .pointer (some ⟨w.heap.size, 17, none⟩)) rfl (by kernel_rfl) (by kernel_rfl) (by kernel_rfl) (fun _ _ _ h => h) (Or.inl ⟨by rfl, ?_⟩) (by assumption) ?_
            · intro w9 hSw
              go_simp
            try simp only [Act.put, List.setIfInBounds_toArray, List.set_cons_zero, List.set_cons_succ]
            refine wpAnyH_take (i := 4) (oi := { dst := some 86, op := Go.Op.fieldAddr 50 (Go.Operand.tmp 85) 0, type := 0, pos := "text.go:158", after := #[{ on := 3, ground := Go.Ground.data }], guard := none }) (v := .pointer (some ⟨w.heap.size, 17, none⟩)) rfl (by kernel_rfl) (by kernel_rfl) (by kernel_rfl) (fun _ _ _ h => h) (Or.inl ⟨by rfl, ?_⟩) (by assumption) ?_
            · intro w9 hSw
              go_simp
            try simp only [Act.put, List.setIfInBounds_toArray, List.set_cons_zero, List.set_cons_succ]
            refine wpAnyH_take (i := 5) (oi := { dst := some 87, op := Go.Op.load 3 (Go.Operand.tmp 86), type := 3, pos := "text.go:158", after := #[{ on := 4, ground := Go.Ground.data }], guard := none }) (v := .int .i64 t.b0.x) rfl (by kernel_rfl) (by kernel_rfl) (by kernel_rfl) (fun _ _ _ h => h) (Or.inl ⟨by rfl, ?_⟩) (by assumption) ?_
            · intro w9 hSw
              have q17 : w9.cell? ⟨w.heap.size, 17, none⟩ = some (.int .i64 t.b0.x) := cell_of_row _ _ _ _ _ _ hSw; go_simp
            try simp only [Act.put, List.setIfInBounds_toArray, List.set_cons_zero, List.set_cons_succ]
            refine wpAnyH_take (i := 6) (oi := { dst := some 88, op := Go.Op.move (Go.Operand.tmp 8), type := 3, pos := "text.go:158", after := #[], guard := none }) (v := .int .i64 0) rfl (by kernel_rfl) (by kernel_rfl) (by kernel_rfl) (fun _ _ _ h => h) (Or.inl ⟨by rfl, ?_⟩) (by assumption) ?_
            · intro w9 hSw
              go_simp
            try simp only [Act.put, List.setIfInBounds_toArray, List.set_cons_zero, List.set_cons_succ]
            refine wpAnyH_take (i := 7) (oi := { dst := some 89, op := Go.Op.fieldAddr 55 (Go.Operand.tmp 1) 6, type := 0, pos := "text.go:158", after := #[], guard := none }) (v := .pointer (some ⟨w.heap.size, 17, none⟩)) rfl (by kernel_rfl) (by kernel_rfl) (by kernel_rfl) (fun _ _ _ h => h) (Or.inl ⟨by rfl, ?_⟩) (by assumption) ?_
            · intro w9 hSw
              go_simp
            try simp only [Act.put, List.setIfInBounds_toArray, List.set_cons_zero, List.set_cons_succ]
            refine wpAnyH_take (i := 8) (oi := { dst := some 90, op := Go.Op.indexAddr 51 (Go.Operand.tmp 89) (Go.Operand.tmp 88), type := 0, pos := "text.go:158", after := #[{ on := 7, ground := Go.Ground.data }, { on := 6, ground := Go.Ground.data }], guard := none }) (v := .pointer (some ⟨w.heap.size, 17, none⟩)) rfl (by kernel_rfl) (by kernel_rfl) (by kernel_rfl) (fun _ _ _ h => h) (Or.inl ⟨by rfl, ?_⟩) (by assumption) ?_
            · intro w9 hSw
              go_simp
            try simp only [Act.put, List.setIfInBounds_toArray, List.set_cons_zero, List.set_cons_succ]
            refine wpAnyH_take (i := 9) (oi := { dst := some 91, op := Go.Op.fieldAddr 50 (Go.Operand.tmp 90) 1, type := 0, pos := "text.go:158", after := #[{ on := 8, ground := Go.Ground.data }], guard := none }) (v := .pointer (some ⟨w.heap.size, 18, none⟩)) rfl (by kernel_rfl) (by kernel_rfl) (by kernel_rfl) (fun _ _ _ h => h) (Or.inl ⟨by rfl, ?_⟩) (by assumption) ?_
            · intro w9 hSw
              go_simp
            try simp only [Act.put, List.setIfInBounds_toArray, List.set_cons_zero, List.set_cons_succ]
            refine wpAnyH_take (i := 10) (oi := { dst := some 92, op := Go.Op.load 3 (Go.Operand.tmp 91), type := 3, pos := "text.go:158", after := #[{ on := 9, ground := Go.Ground.data }], guard := none }) (v := .int .i64 t.b0.y) rfl (by kernel_rfl) (by kernel_rfl) (by kernel_rfl) (fun _ _ _ h => h) (Or.inl ⟨by rfl, ?_⟩) (by assumption) ?_
            · intro w9 hSw
              have q18 : w9.cell? ⟨w.heap.size, 18, none⟩ = some (.int .i64 t.b0.y) := cell_of_row _ _ _ _ _ _ hSw; go_simp
            try simp only [Act.put, List.setIfInBounds_toArray, List.set_cons_zero, List.set_cons_succ]
            refine wpAnyH_take (i := 11) (oi := { dst := some 93, op := Go.Op.move (Go.Operand.tmp 8), type := 3, pos := "text.go:158", after := #[], guard := none }) (v := .int .i64 0) rfl (by kernel_rfl) (by kernel_rfl) (by kernel_rfl) (fun _ _ _ h => h) (Or.inl ⟨by rfl, ?_⟩) (by assumption) ?_
            · intro w9 hSw
              go_simp
            try simp only [Act.put, List.setIfInBounds_toArray, List.set_cons_zero, List.set_cons_succ]
            refine wpAnyH_take (i := 12) (oi := { dst := some 94, op := Go.Op.fieldAddr 55 (Go.Operand.tmp 1) 6, type := 0, pos := "text.go:158", after := #[], guard := none }) (v := .pointer (some ⟨w.heap.size, 17, none⟩)) rfl (by kernel_rfl) (by kernel_rfl) (by kernel_rfl) (fun _ _ _ h => h) (Or.inl ⟨by rfl, ?_⟩) (by assumption) ?_
            · intro w9 hSw
              go_simp
            try simp only [Act.put, List.setIfInBounds_toArray, List.set_cons_zero, List.set_cons_succ]
            refine wpAnyH_take (i := 13) (oi := { dst := some 95, op := Go.Op.indexAddr 51 (Go.Operand.tmp 94) (Go.Operand.tmp 93), type := 0, pos := "text.go:158", after := #[{ on := 12, ground := Go.Ground.data }, { on := 11, ground := Go.Ground.data }], guard := none }) (v := .pointer (some ⟨w.heap.size, 17, none⟩)) rfl (by kernel_rfl) (by kernel_rfl) (by kernel_rfl) (fun _ _ _ h => h) (Or.inl ⟨by rfl, ?_⟩) (by assumption) ?_
            · intro w9 hSw
              go_simp
            try simp only [Act.put, List.setIfInBounds_toArray, List.set_cons_zero, List.set_cons_succ]
            refine wpAnyH_take (i := 14) (oi := { dst := some 96, op := Go.Op.fieldAddr 50 (Go.Operand.tmp 95) 2, type := 0, pos := "text.go:158", after := #[{ on := 13, ground := Go.Ground.data }], guard := none }) (v := .pointer (some ⟨w.heap.size, 19, none⟩)) rfl (by kernel_rfl) (by kernel_rfl) (by kernel_rfl) (fun _ _ _ h => h) (Or.inl ⟨by rfl, ?_⟩) (by assumption) ?_
            · intro w9 hSw
              go_simp
            try simp only [Act.put, List.setIfInBounds_toArray, List.set_cons_zero, List.set_cons_succ]
            refine wpAnyH_take (i := 15) (oi := { dst := some 97, op := Go.Op.load 3 (Go.Operand.tmp 96), type := 3, pos := "text.go:158", after := #[{ on := 14, ground := Go.Ground.data }], guard := none }) (v := .int .i64 t.b0.z) rfl (by kernel_rfl) (by kernel_rfl) (by kernel_rfl) (fun _ _ _ h => h) (Or.inl ⟨by rfl, ?_⟩) (by assumption) ?_
            · intro w9 hSw
              have q19 : w9.cell? ⟨w.heap.size, 19, none⟩ = some (.int .i64 t.b0.z) := cell_of_row _ _ _ _ _ _ hSw; go_simp
            try simp only [Act.put, List.setIfInBounds_toArray, List.set_cons_zero, List.set_cons_succ]
            refine wpAnyH_ready (rs := [16]) (by kernel_rfl) (by simp) ?_
            refine AllReadyH.cons (o := { dst := some 98, op := Go.Op.buildSlice 98 3 #[(0, Go.Operand.tmp 87), (1, Go.Operand.tmp 92), (2, Go.Operand.tmp 97)], type := 98, pos := "text.go:158", after := #[{ on := 5, ground := Go.Ground.data }, { on := 10, ground := Go.Ground.data }, { on := 15, ground := Go.Ground.data }], guard := none }) rfl (fun K hK => ?_) AllReadyH.nil
            go_simp
            have Bwra1 : Below wr.heap.size wr (wr.drew.alloc (.cells #[.int .i64 t.b0.x, .int .i64 t.b0.y, .int .i64 t.b0.z] 3)) := below_more (Below.drew (Below.refl _ _)) _
            have Rwrn1 : (wr.drew.alloc (.cells #[.int .i64 t.b0.x, .int .i64 t.b0.y, .int .i64 t.b0.z] 3)).heap[wr.heap.size]? = some (.cells ([t.b0.x, t.b0.y, t.b0.z].map (Value.int .i64)).toArray 3 (0, 0)) := by simpa using heap_alloc_new (wr.drew) (.cells #[.int .i64 t.b0.x, .int .i64 t.b0.y, .int .i64 t.b0.z] 3)
            refine hK.out _ _ ((Bwra1.block _ zW).trans RW) (fun hHwra1 => ?_)
            clear hK K
            try simp only [Act.put, List.setIfInBounds_toArray, List.set_cons_zero, List.set_cons_succ]
            refine wpAnyH_ready (rs := [17]) (by kernel_rfl) (by simp) ?_
            refine AllReadyH.cons (o := { dst := some 99, op := Go.Op.call { callee := Go.Callee.value (Go.Operand.func 37), args := #[Go.Operand.const (Go.Value.string { data := #[66] }), Go.Operand.tmp 98], argTypes := #[9, 98] }, type := 9, pos := "text.go:158", after := #[{ on := 16, ground := Go.Ground.data }], guard := none }) rfl (fun K hK => ?_) AllReadyH.nil
            go_simp
            refine (row_any (⟨#[66]⟩ : ByteArray) [t.b0.x, t.b0.y, t.b0.z] wr.heap.size _ (row_lt Rwrn1) (row_cells Rwrn1) (nb_cons (tnn.pb 0 (by omega)).1 (nb_cons (tnn.pb 0 (by omega)).2.1 (nb_cons (tnn.pb 0 (by omega)).2.2 nb_nil))) (by simp) (show ((⟨#[66]⟩ : ByteArray)).size ≤ 1000 from by decide)).mono ?_
            rintro e wwrk2 ⟨rfl, hwwrk2⟩
            have Bwwrk2 := below_then Bwra1 hwwrk2
            have Rwwrk2_Rwrn1 := (hwwrk2.block _ (row_lt Rwrn1)).trans Rwrn1
            go_wp2_with fail
            refine hK.out _ _ ((Bwwrk2.block _ zW).trans RW) (fun hHwwrk2 => ?_)
            clear hK K
            try simp only [Act.put, List.setIfInBounds_toArray, List.set_cons_zero, List.set_cons_succ]
            refine wpAnyH_take (i := 18) (oi := { dst := some 100, op := Go.Op.binOp Go.BinOp.add 9 (Go.Operand.tmp 82) (Go.Operand.tmp 99) 9, type := 9, pos := "text.go:158", after := #[{ on := 0, ground := Go.Ground.data }, { on := 17, ground := Go.Ground.data }], guard := none }) (v := .string P1) rfl (by kernel_rfl) (by kernel_rfl) (by kernel_rfl) (fun _ _ _ h => h) (Or.inl ⟨by rfl, ?_⟩) (by assumption) ?_
            · intro w9 hSw
              go_simp
            try simp only [Act.put, List.setIfInBounds_toArray, List.set_cons_zero, List.set_cons_succ]
            refine wpAnyH_take (i := 19) (oi := { dst := some 6, op := Go.Op.assign (Go.Operand.tmp 100), type := 9, pos := "text.go:158", after := #[{ on := 18, ground := Go.Ground.data }, { on := 17, ground := Go.Ground.chain }, { on := 0, ground := Go.Ground.phase }, { on := 1, ground := Go.Ground.phase }, { on := 2, ground := Go.Ground.phase }, { on := 3, ground := Go.Ground.phase }, { on := 4, ground := Go.Ground.phase }, { on := 5, ground := Go.Ground.phase }, { on := 6, ground := Go.Ground.phase }, { on := 7, ground := Go.Ground.phase }, { on := 8, ground := Go.Ground.phase }, { on := 9, ground := Go.Ground.phase }, { on := 10, ground := Go.Ground.phase }, { on := 11, ground := Go.Ground.phase }, { on := 12, ground := Go.Ground.phase }, { on := 13, ground := Go.Ground.phase }, { on := 14, ground := Go.Ground.phase }, { on := 15, ground := Go.Ground.phase }, { on := 16, ground := Go.Ground.phase }, { on := 17, ground := Go.Ground.phase }, { on := 18, ground := Go.Ground.phase }], guard := none }) (v := .string P1) rfl (by kernel_rfl) (by kernel_rfl) (by kernel_rfl) (fun _ _ _ h => h) (Or.inl ⟨by rfl, ?_⟩) (by assumption) ?_
            · intro w9 hSw
              go_simp
            try simp only [Act.put, List.setIfInBounds_toArray, List.set_cons_zero, List.set_cons_succ]
            refine wpAnyH_done (by kernel_rfl) ?_ _
            go_wp2_with fail
            go_roundw
            case rel => exact ⟨1, by first | rfl | go_num, by omega, by rw [HS.out, HP1.out]; rfl, below_then hb Bwwrk2⟩
            case measure => simp [intOf]
          · go_wp2_with fail
            obtain ⟨P1, hP1⟩ : ∃ Z, Z = X ++ (rowS (⟨#[66]⟩ : ByteArray) [t.b1.x, t.b1.y, t.b1.z]) := ⟨_, rfl⟩
            have sP1 : P1.size ≤ 2068 := by have q1 := (show X.size ≤ 2000 from sX); have q2 := (show (rowS (⟨#[66]⟩ : ByteArray) [t.b1.x, t.b1.y, t.b1.z]).size ≤ 68 from rowS_size (c := (⟨#[66]⟩ : ByteArray)) (nb_cons (tnn.pb 1 (by omega)).1 (nb_cons (tnn.pb 1 (by omega)).2.1 (nb_cons (tnn.pb 1 (by omega)).2.2 nb_nil)))); rw [hP1, app_size]; omega
            have aP1 : ∀ w, (Op.stringOp .add X (rowS (⟨#[66]⟩ : ByteArray) [t.b1.x, t.b1.y, t.b1.z])).run Tryd.prog w = .ok (.string P1) w := by have q1 := (show X.size ≤ 2000 from sX); have q2 := (show (rowS (⟨#[66]⟩ : ByteArray) [t.b1.x, t.b1.y, t.b1.z]).size ≤ 68 from rowS_size (c := (⟨#[66]⟩ : ByteArray)) (nb_cons (tnn.pb 1 (by omega)).1 (nb_cons (tnn.pb 1 (by omega)).2.1 (nb_cons (tnn.pb 1 (by omega)).2.2 nb_nil)))); rw [hP1]; exact sadd _ _ (by omega)
            have HP1 := hideP hP1
            clear hP1
            refine wp_region_held_drew (S := (fun w' => w'.heap[w.heap.size]? = some (.cells #[.int .i64 t.z.off, .int .i64 t.z.f.m, .int .i64 t.z.f.w, .int .i64 t.z.f.d, .int .i64 t.z.f.h, .int .i64 t.z.t.m, .int .i64 t.z.t.w, .int .i64 t.z.t.d, .int .i64 t.z.t.h, .int .i64 t.days, .int .i64 t.gap, .int .i64 t.first, .int .i64 t.last, .string t.h0, .string t.h1, .string t.h2, .string t.h3, .int .i64 t.b0.x, .int .i64 t.b0.y, .int .i64 t.b0.z, .int .i64 t.b1.x, .int .i64 t.b1.y, .int .i64 t.b1.z, .int .i64 t.b2.x, .int .i64 t.b2.y, .int .i64 t.b2.z, .int .i64 t.d.x, .int .i64 t.d.y, .int .i64 t.d.z, .int .i64 t.np, .int .i64 t.nn, .int .i64 t.fix, .int .i64 t.min, .int .i64 t.tax] 55 (0, 0)))) (by kernel_rfl) RW (fun hH0 => ?_)
            refine wpAnyH_take (i := 0) (oi := { dst := some 82, op := Go.Op.move (Go.Operand.tmp 6), type := 9, pos := "text.go:158", after := #[], guard := none }) (v := .string X) rfl (by kernel_rfl) (by kernel_rfl) (by kernel_rfl) (fun _ _ _ h => h) (Or.inl ⟨by rfl, ?_⟩) (by assumption) ?_
            · intro w9 hSw
              go_simp
            try simp only [Act.put, List.setIfInBounds_toArray, List.set_cons_zero, List.set_cons_succ]
            refine wpAnyH_take (i := 1) (oi := { dst := some 83, op := Go.Op.move (Go.Operand.tmp 8), type := 3, pos := "text.go:158", after := #[], guard := none }) (v := .int .i64 1) rfl (by kernel_rfl) (by kernel_rfl) (by kernel_rfl) (fun _ _ _ h => h) (Or.inl ⟨by rfl, ?_⟩) (by assumption) ?_
            · intro w9 hSw
              go_simp
            try simp only [Act.put, List.setIfInBounds_toArray, List.set_cons_zero, List.set_cons_succ]
            refine wpAnyH_take (i := 2) (oi := { dst := some 84, op := Go.Op.fieldAddr 55 (Go.Operand.tmp 1) 6, type := 0, pos := "text.go:158", after := #[], guard := none }) (v := .pointer (some ⟨w.heap.size, 17, none⟩)) rfl (by kernel_rfl) (by kernel_rfl) (by kernel_rfl) (fun _ _ _ h => h) (Or.inl ⟨by rfl, ?_⟩) (by assumption) ?_
            · intro w9 hSw
              go_simp
            try simp only [Act.put, List.setIfInBounds_toArray, List.set_cons_zero, List.set_cons_succ]
            refine wpAnyH_take (i := 3) (oi := { dst := some 85, op := Go.Op.indexAddr 51 (Go.Operand.tmp 84) (Go.Operand.tmp 83), type := 0, pos := "text.go:158", after := #[{ on := 2, ground := Go.Ground.data }, { on := 1, ground := Go.Ground.data }], guard := none }) (v := .pointer (some ⟨w.heap.size, 20, none⟩)) rfl (by kernel_rfl) (by kernel_rfl) (by kernel_rfl) (fun _ _ _ h => h) (Or.inl ⟨by rfl, ?_⟩) (by assumption) ?_
            · intro w9 hSw
              go_simp
            try simp only [Act.put, List.setIfInBounds_toArray, List.set_cons_zero, List.set_cons_succ]
            refine wpAnyH_take (i := 4) (oi := { dst := some 86, op := Go.Op.fieldAddr 50 (Go.Operand.tmp 85) 0, type := 0, pos := "text.go:158", after := #[{ on := 3, ground := Go.Ground.data }], guard := none }) (v := .pointer (some ⟨w.heap.size, 20, none⟩)) rfl (by kernel_rfl) (by kernel_rfl) (by kernel_rfl) (fun _ _ _ h => h) (Or.inl ⟨by rfl, ?_⟩) (by assumption) ?_
            · intro w9 hSw
              go_simp
            try simp only [Act.put, List.setIfInBounds_toArray, List.set_cons_zero, List.set_cons_succ]
            refine wpAnyH_take (i := 5) (oi := { dst := some 87, op := Go.Op.load 3 (Go.Operand.tmp 86), type := 3, pos := "text.go:158", after := #[{ on := 4, ground := Go.Ground.data }], guard := none }) (v := .int .i64 t.b1.x) rfl (by kernel_rfl) (by kernel_rfl) (by kernel_rfl) (fun _ _ _ h => h) (Or.inl ⟨by rfl, ?_⟩) (by assumption) ?_
            · intro w9 hSw
              have q20 : w9.cell? ⟨w.heap.size, 20, none⟩ = some (.int .i64 t.b1.x) := cell_of_row _ _ _ _ _ _ hSw; go_simp
            try simp only [Act.put, List.setIfInBounds_toArray, List.set_cons_zero, List.set_cons_succ]
            refine wpAnyH_take (i := 6) (oi := { dst := some 88, op := Go.Op.move (Go.Operand.tmp 8), type := 3, pos := "text.go:158", after := #[], guard := none }) (v := .int .i64 1) rfl (by kernel_rfl) (by kernel_rfl) (by kernel_rfl) (fun _ _ _ h => h) (Or.inl ⟨by rfl, ?_⟩) (by assumption) ?_
            · intro w9 hSw
              go_simp
            try simp only [Act.put, List.setIfInBounds_toArray, List.set_cons_zero, List.set_cons_succ]
            refine wpAnyH_take (i := 7) (oi := { dst := some 89, op := Go.Op.fieldAddr 55 (Go.Operand.tmp 1) 6, type := 0, pos := "text.go:158", after := #[], guard := none }) (v := .pointer (some ⟨w.heap.size, 17, none⟩)) rfl (by kernel_rfl) (by kernel_rfl) (by kernel_rfl) (fun _ _ _ h => h) (Or.inl ⟨by rfl, ?_⟩) (by assumption) ?_
            · intro w9 hSw
              go_simp
            try simp only [Act.put, List.setIfInBounds_toArray, List.set_cons_zero, List.set_cons_succ]
            refine wpAnyH_take (i := 8) (oi := { dst := some 90, op := Go.Op.indexAddr 51 (Go.Operand.tmp 89) (Go.Operand.tmp 88), type := 0, pos := "text.go:158", after := #[{ on := 7, ground := Go.Ground.data }, { on := 6, ground := Go.Ground.data }], guard := none }) (v := .pointer (some ⟨w.heap.size, 20, none⟩)) rfl (by kernel_rfl) (by kernel_rfl) (by kernel_rfl) (fun _ _ _ h => h) (Or.inl ⟨by rfl, ?_⟩) (by assumption) ?_
            · intro w9 hSw
              go_simp
            try simp only [Act.put, List.setIfInBounds_toArray, List.set_cons_zero, List.set_cons_succ]
            refine wpAnyH_take (i := 9) (oi := { dst := some 91, op := Go.Op.fieldAddr 50 (Go.Operand.tmp 90) 1, type := 0, pos := "text.go:158", after := #[{ on := 8, ground := Go.Ground.data }], guard := none }) (v := .pointer (some ⟨w.heap.size, 21, none⟩)) rfl (by kernel_rfl) (by kernel_rfl) (by kernel_rfl) (fun _ _ _ h => h) (Or.inl ⟨by rfl, ?_⟩) (by assumption) ?_
            · intro w9 hSw
              go_simp
            try simp only [Act.put, List.setIfInBounds_toArray, List.set_cons_zero, List.set_cons_succ]
            refine wpAnyH_take (i := 10) (oi := { dst := some 92, op := Go.Op.load 3 (Go.Operand.tmp 91), type := 3, pos := "text.go:158", after := #[{ on := 9, ground := Go.Ground.data }], guard := none }) (v := .int .i64 t.b1.y) rfl (by kernel_rfl) (by kernel_rfl) (by kernel_rfl) (fun _ _ _ h => h) (Or.inl ⟨by rfl, ?_⟩) (by assumption) ?_
            · intro w9 hSw
              have q21 : w9.cell? ⟨w.heap.size, 21, none⟩ = some (.int .i64 t.b1.y) := cell_of_row _ _ _ _ _ _ hSw; go_simp
            try simp only [Act.put, List.setIfInBounds_toArray, List.set_cons_zero, List.set_cons_succ]
            refine wpAnyH_take (i := 11) (oi := { dst := some 93, op := Go.Op.move (Go.Operand.tmp 8), type := 3, pos := "text.go:158", after := #[], guard := none }) (v := .int .i64 1) rfl (by kernel_rfl) (by kernel_rfl) (by kernel_rfl) (fun _ _ _ h => h) (Or.inl ⟨by rfl, ?_⟩) (by assumption) ?_
            · intro w9 hSw
              go_simp
            try simp only [Act.put, List.setIfInBounds_toArray, List.set_cons_zero, List.set_cons_succ]
            refine wpAnyH_take (i := 12) (oi := { dst := some 94, op := Go.Op.fieldAddr 55 (Go.Operand.tmp 1) 6, type := 0, pos := "text.go:158", after := #[], guard := none }) (v := .pointer (some ⟨w.heap.size, 17, none⟩)) rfl (by kernel_rfl) (by kernel_rfl) (by kernel_rfl) (fun _ _ _ h => h) (Or.inl ⟨by rfl, ?_⟩) (by assumption) ?_
            · intro w9 hSw
              go_simp
            try simp only [Act.put, List.setIfInBounds_toArray, List.set_cons_zero, List.set_cons_succ]
            refine wpAnyH_take (i := 13) (oi := { dst := some 95, op := Go.Op.indexAddr 51 (Go.Operand.tmp 94) (Go.Operand.tmp 93), type := 0, pos := "text.go:158", after := #[{ on := 12, ground := Go.Ground.data }, { on := 11, ground := Go.Ground.data }], guard := none }) (v := .pointer (some ⟨w.heap.size, 20, none⟩)) rfl (by kernel_rfl) (by kernel_rfl) (by kernel_rfl) (fun _ _ _ h => h) (Or.inl ⟨by rfl, ?_⟩) (by assumption) ?_
            · intro w9 hSw
              go_simp
            try simp only [Act.put, List.setIfInBounds_toArray, List.set_cons_zero, List.set_cons_succ]
            refine wpAnyH_take (i := 14) (oi := { dst := some 96, op := Go.Op.fieldAddr 50 (Go.Operand.tmp 95) 2, type := 0, pos := "text.go:158", after := #[{ on := 13, ground := Go.Ground.data }], guard := none }) (v := .pointer (some ⟨w.heap.size, 22, none⟩)) rfl (by kernel_rfl) (by kernel_rfl) (by kernel_rfl) (fun _ _ _ h => h) (Or.inl ⟨by rfl, ?_⟩) (by assumption) ?_
            · intro w9 hSw
              go_simp
            try simp only [Act.put, List.setIfInBounds_toArray, List.set_cons_zero, List.set_cons_succ]
            refine wpAnyH_take (i := 15) (oi := { dst := some 97, op := Go.Op.load 3 (Go.Operand.tmp 96), type := 3, pos := "text.go:158", after := #[{ on := 14, ground := Go.Ground.data }], guard := none }) (v := .int .i64 t.b1.z) rfl (by kernel_rfl) (by kernel_rfl) (by kernel_rfl) (fun _ _ _ h => h) (Or.inl ⟨by rfl, ?_⟩) (by assumption) ?_
            · intro w9 hSw
              have q22 : w9.cell? ⟨w.heap.size, 22, none⟩ = some (.int .i64 t.b1.z) := cell_of_row _ _ _ _ _ _ hSw; go_simp
            try simp only [Act.put, List.setIfInBounds_toArray, List.set_cons_zero, List.set_cons_succ]
            refine wpAnyH_ready (rs := [16]) (by kernel_rfl) (by simp) ?_
            refine AllReadyH.cons (o := { dst := some 98, op := Go.Op.buildSlice 98 3 #[(0, Go.Operand.tmp 87), (1, Go.Operand.tmp 92), (2, Go.Operand.tmp 97)], type := 98, pos := "text.go:158", after := #[{ on := 5, ground := Go.Ground.data }, { on := 10, ground := Go.Ground.data }, { on := 15, ground := Go.Ground.data }], guard := none }) rfl (fun K hK => ?_) AllReadyH.nil
            go_simp
            have Bwra1 : Below wr.heap.size wr (wr.drew.alloc (.cells #[.int .i64 t.b1.x, .int .i64 t.b1.y, .int .i64 t.b1.z] 3)) := below_more (Below.drew (Below.refl _ _)) _
            have Rwrn1 : (wr.drew.alloc (.cells #[.int .i64 t.b1.x, .int .i64 t.b1.y, .int .i64 t.b1.z] 3)).heap[wr.heap.size]? = some (.cells ([t.b1.x, t.b1.y, t.b1.z].map (Value.int .i64)).toArray 3 (0, 0)) := by simpa using heap_alloc_new (wr.drew) (.cells #[.int .i64 t.b1.x, .int .i64 t.b1.y, .int .i64 t.b1.z] 3)
            refine hK.out _ _ ((Bwra1.block _ zW).trans RW) (fun hHwra1 => ?_)
            clear hK K
            try simp only [Act.put, List.setIfInBounds_toArray, List.set_cons_zero, List.set_cons_succ]
            refine wpAnyH_ready (rs := [17]) (by kernel_rfl) (by simp) ?_
            refine AllReadyH.cons (o := { dst := some 99, op := Go.Op.call { callee := Go.Callee.value (Go.Operand.func 37), args := #[Go.Operand.const (Go.Value.string { data := #[66] }), Go.Operand.tmp 98], argTypes := #[9, 98] }, type := 9, pos := "text.go:158", after := #[{ on := 16, ground := Go.Ground.data }], guard := none }) rfl (fun K hK => ?_) AllReadyH.nil
            go_simp
            refine (row_any (⟨#[66]⟩ : ByteArray) [t.b1.x, t.b1.y, t.b1.z] wr.heap.size _ (row_lt Rwrn1) (row_cells Rwrn1) (nb_cons (tnn.pb 1 (by omega)).1 (nb_cons (tnn.pb 1 (by omega)).2.1 (nb_cons (tnn.pb 1 (by omega)).2.2 nb_nil))) (by simp) (show ((⟨#[66]⟩ : ByteArray)).size ≤ 1000 from by decide)).mono ?_
            rintro e wwrk2 ⟨rfl, hwwrk2⟩
            have Bwwrk2 := below_then Bwra1 hwwrk2
            have Rwwrk2_Rwrn1 := (hwwrk2.block _ (row_lt Rwrn1)).trans Rwrn1
            go_wp2_with fail
            refine hK.out _ _ ((Bwwrk2.block _ zW).trans RW) (fun hHwwrk2 => ?_)
            clear hK K
            try simp only [Act.put, List.setIfInBounds_toArray, List.set_cons_zero, List.set_cons_succ]
            refine wpAnyH_take (i := 18) (oi := { dst := some 100, op := Go.Op.binOp Go.BinOp.add 9 (Go.Operand.tmp 82) (Go.Operand.tmp 99) 9, type := 9, pos := "text.go:158", after := #[{ on := 0, ground := Go.Ground.data }, { on := 17, ground := Go.Ground.data }], guard := none }) (v := .string P1) rfl (by kernel_rfl) (by kernel_rfl) (by kernel_rfl) (fun _ _ _ h => h) (Or.inl ⟨by rfl, ?_⟩) (by assumption) ?_
            · intro w9 hSw
              go_simp
            try simp only [Act.put, List.setIfInBounds_toArray, List.set_cons_zero, List.set_cons_succ]
            refine wpAnyH_take (i := 19) (oi := { dst := some 6, op := Go.Op.assign (Go.Operand.tmp 100), type := 9, pos := "text.go:158", after := #[{ on := 18, ground := Go.Ground.data }, { on := 17, ground := Go.Ground.chain }, { on := 0, ground := Go.Ground.phase }, { on := 1, ground := Go.Ground.phase }, { on := 2, ground := Go.Ground.phase }, { on := 3, ground := Go.Ground.phase }, { on := 4, ground := Go.Ground.phase }, { on := 5, ground := Go.Ground.phase }, { on := 6, ground := Go.Ground.phase }, { on := 7, ground := Go.Ground.phase }, { on := 8, ground := Go.Ground.phase }, { on := 9, ground := Go.Ground.phase }, { on := 10, ground := Go.Ground.phase }, { on := 11, ground := Go.Ground.phase }, { on := 12, ground := Go.Ground.phase }, { on := 13, ground := Go.Ground.phase }, { on := 14, ground := Go.Ground.phase }, { on := 15, ground := Go.Ground.phase }, { on := 16, ground := Go.Ground.phase }, { on := 17, ground := Go.Ground.phase }, { on := 18, ground := Go.Ground.phase }], guard := none }) (v := .string P1) rfl (by kernel_rfl) (by kernel_rfl) (by kernel_rfl) (fun _ _ _ h => h) (Or.inl ⟨by rfl, ?_⟩) (by assumption) ?_
            · intro w9 hSw
              go_simp
            try simp only [Act.put, List.setIfInBounds_toArray, List.set_cons_zero, List.set_cons_succ]
            refine wpAnyH_done (by kernel_rfl) ?_ _
            go_wp2_with fail
            go_roundw
            case rel => exact ⟨2, by first | rfl | go_num, by omega, by rw [HS.out, HP1.out]; rfl, below_then hb Bwwrk2⟩
            case measure => simp [intOf]
          · go_wp2_with fail
            obtain ⟨P1, hP1⟩ : ∃ Z, Z = X ++ (rowS (⟨#[66]⟩ : ByteArray) [t.b2.x, t.b2.y, t.b2.z]) := ⟨_, rfl⟩
            have sP1 : P1.size ≤ 2068 := by have q1 := (show X.size ≤ 2000 from sX); have q2 := (show (rowS (⟨#[66]⟩ : ByteArray) [t.b2.x, t.b2.y, t.b2.z]).size ≤ 68 from rowS_size (c := (⟨#[66]⟩ : ByteArray)) (nb_cons (tnn.pb 2 (by omega)).1 (nb_cons (tnn.pb 2 (by omega)).2.1 (nb_cons (tnn.pb 2 (by omega)).2.2 nb_nil)))); rw [hP1, app_size]; omega
            have aP1 : ∀ w, (Op.stringOp .add X (rowS (⟨#[66]⟩ : ByteArray) [t.b2.x, t.b2.y, t.b2.z])).run Tryd.prog w = .ok (.string P1) w := by have q1 := (show X.size ≤ 2000 from sX); have q2 := (show (rowS (⟨#[66]⟩ : ByteArray) [t.b2.x, t.b2.y, t.b2.z]).size ≤ 68 from rowS_size (c := (⟨#[66]⟩ : ByteArray)) (nb_cons (tnn.pb 2 (by omega)).1 (nb_cons (tnn.pb 2 (by omega)).2.1 (nb_cons (tnn.pb 2 (by omega)).2.2 nb_nil)))); rw [hP1]; exact sadd _ _ (by omega)
            have HP1 := hideP hP1
            clear hP1
            refine wp_region_held_drew (S := (fun w' => w'.heap[w.heap.size]? = some (.cells #[.int .i64 t.z.off, .int .i64 t.z.f.m, .int .i64 t.z.f.w, .int .i64 t.z.f.d, .int .i64 t.z.f.h, .int .i64 t.z.t.m, .int .i64 t.z.t.w, .int .i64 t.z.t.d, .int .i64 t.z.t.h, .int .i64 t.days, .int .i64 t.gap, .int .i64 t.first, .int .i64 t.last, .string t.h0, .string t.h1, .string t.h2, .string t.h3, .int .i64 t.b0.x, .int .i64 t.b0.y, .int .i64 t.b0.z, .int .i64 t.b1.x, .int .i64 t.b1.y, .int .i64 t.b1.z, .int .i64 t.b2.x, .int .i64 t.b2.y, .int .i64 t.b2.z, .int .i64 t.d.x, .int .i64 t.d.y, .int .i64 t.d.z, .int .i64 t.np, .int .i64 t.nn, .int .i64 t.fix, .int .i64 t.min, .int .i64 t.tax] 55 (0, 0)))) (by kernel_rfl) RW (fun hH0 => ?_)
            refine wpAnyH_take (i := 0) (oi := { dst := some 82, op := Go.Op.move (Go.Operand.tmp 6), type := 9, pos := "text.go:158", after := #[], guard := none }) (v := .string X) rfl (by kernel_rfl) (by kernel_rfl) (by kernel_rfl) (fun _ _ _ h => h) (Or.inl ⟨by rfl, ?_⟩) (by assumption) ?_
            · intro w9 hSw
              go_simp
            try simp only [Act.put, List.setIfInBounds_toArray, List.set_cons_zero, List.set_cons_succ]
            refine wpAnyH_take (i := 1) (oi := { dst := some 83, op := Go.Op.move (Go.Operand.tmp 8), type := 3, pos := "text.go:158", after := #[], guard := none }) (v := .int .i64 2) rfl (by kernel_rfl) (by kernel_rfl) (by kernel_rfl) (fun _ _ _ h => h) (Or.inl ⟨by rfl, ?_⟩) (by assumption) ?_
            · intro w9 hSw
              go_simp
            try simp only [Act.put, List.setIfInBounds_toArray, List.set_cons_zero, List.set_cons_succ]
            refine wpAnyH_take (i := 2) (oi := { dst := some 84, op := Go.Op.fieldAddr 55 (Go.Operand.tmp 1) 6, type := 0, pos := "text.go:158", after := #[], guard := none }) (v := .pointer (some ⟨w.heap.size, 17, none⟩)) rfl (by kernel_rfl) (by kernel_rfl) (by kernel_rfl) (fun _ _ _ h => h) (Or.inl ⟨by rfl, ?_⟩) (by assumption) ?_
            · intro w9 hSw
              go_simp
            try simp only [Act.put, List.setIfInBounds_toArray, List.set_cons_zero, List.set_cons_succ]
            refine wpAnyH_take (i := 3) (oi := { dst := some 85, op := Go.Op.indexAddr 51 (Go.Operand.tmp 84) (Go.Operand.tmp 83), type := 0, pos := "text.go:158", after := #[{ on := 2, ground := Go.Ground.data }, { on := 1, ground := Go.Ground.data }], guard := none }) (v := .pointer (some ⟨w.heap.size, 23, none⟩)) rfl (by kernel_rfl) (by kernel_rfl) (by kernel_rfl) (fun _ _ _ h => h) (Or.inl ⟨by rfl, ?_⟩) (by assumption) ?_
            · intro w9 hSw
              go_simp
            try simp only [Act.put, List.setIfInBounds_toArray, List.set_cons_zero, List.set_cons_succ]
            refine wpAnyH_take (i := 4) (oi := { dst := some 86, op := Go.Op.fieldAddr 50 (Go.Operand.tmp 85) 0, type := 0, pos := "text.go:158", after := #[{ on := 3, ground := Go.Ground.data }], guard := none }) (v := .pointer (some ⟨w.heap.size, 23, none⟩)) rfl (by kernel_rfl) (by kernel_rfl) (by kernel_rfl) (fun _ _ _ h => h) (Or.inl ⟨by rfl, ?_⟩) (by assumption) ?_
            · intro w9 hSw
              go_simp
            try simp only [Act.put, List.setIfInBounds_toArray, List.set_cons_zero, List.set_cons_succ]
            refine wpAnyH_take (i := 5) (oi := { dst := some 87, op := Go.Op.load 3 (Go.Operand.tmp 86), type := 3, pos := "text.go:158", after := #[{ on := 4, ground := Go.Ground.data }], guard := none }) (v := .int .i64 t.b2.x) rfl (by kernel_rfl) (by kernel_rfl) (by kernel_rfl) (fun _ _ _ h => h) (Or.inl ⟨by rfl, ?_⟩) (by assumption) ?_
            · intro w9 hSw
              have q23 : w9.cell? ⟨w.heap.size, 23, none⟩ = some (.int .i64 t.b2.x) := cell_of_row _ _ _ _ _ _ hSw; go_simp
            try simp only [Act.put, List.setIfInBounds_toArray, List.set_cons_zero, List.set_cons_succ]
            refine wpAnyH_take (i := 6) (oi := { dst := some 88, op := Go.Op.move (Go.Operand.tmp 8), type := 3, pos := "text.go:158", after := #[], guard := none }) (v := .int .i64 2) rfl (by kernel_rfl) (by kernel_rfl) (by kernel_rfl) (fun _ _ _ h => h) (Or.inl ⟨by rfl, ?_⟩) (by assumption) ?_
            · intro w9 hSw
              go_simp
            try simp only [Act.put, List.setIfInBounds_toArray, List.set_cons_zero, List.set_cons_succ]
            refine wpAnyH_take (i := 7) (oi := { dst := some 89, op := Go.Op.fieldAddr 55 (Go.Operand.tmp 1) 6, type := 0, pos := "text.go:158", after := #[], guard := none }) (v := .pointer (some ⟨w.heap.size, 17, none⟩)) rfl (by kernel_rfl) (by kernel_rfl) (by kernel_rfl) (fun _ _ _ h => h) (Or.inl ⟨by rfl, ?_⟩) (by assumption) ?_
            · intro w9 hSw
              go_simp
            try simp only [Act.put, List.setIfInBounds_toArray, List.set_cons_zero, List.set_cons_succ]
            refine wpAnyH_take (i := 8) (oi := { dst := some 90, op := Go.Op.indexAddr 51 (Go.Operand.tmp 89) (Go.Operand.tmp 88), type := 0, pos := "text.go:158", after := #[{ on := 7, ground := Go.Ground.data }, { on := 6, ground := Go.Ground.data }], guard := none }) (v := .pointer (some ⟨w.heap.size, 23, none⟩)) rfl (by kernel_rfl) (by kernel_rfl) (by kernel_rfl) (fun _ _ _ h => h) (Or.inl ⟨by rfl, ?_⟩) (by assumption) ?_
            · intro w9 hSw
              go_simp
            try simp only [Act.put, List.setIfInBounds_toArray, List.set_cons_zero, List.set_cons_succ]
            refine wpAnyH_take (i := 9) (oi := { dst := some 91, op := Go.Op.fieldAddr 50 (Go.Operand.tmp 90) 1, type := 0, pos := "text.go:158", after := #[{ on := 8, ground := Go.Ground.data }], guard := none }) (v := .pointer (some ⟨w.heap.size, 24, none⟩)) rfl (by kernel_rfl) (by kernel_rfl) (by kernel_rfl) (fun _ _ _ h => h) (Or.inl ⟨by rfl, ?_⟩) (by assumption) ?_
            · intro w9 hSw
              go_simp
            try simp only [Act.put, List.setIfInBounds_toArray, List.set_cons_zero, List.set_cons_succ]
            refine wpAnyH_take (i := 10) (oi := { dst := some 92, op := Go.Op.load 3 (Go.Operand.tmp 91), type := 3, pos := "text.go:158", after := #[{ on := 9, ground := Go.Ground.data }], guard := none }) (v := .int .i64 t.b2.y) rfl (by kernel_rfl) (by kernel_rfl) (by kernel_rfl) (fun _ _ _ h => h) (Or.inl ⟨by rfl, ?_⟩) (by assumption) ?_
            · intro w9 hSw
              have q24 : w9.cell? ⟨w.heap.size, 24, none⟩ = some (.int .i64 t.b2.y) := cell_of_row _ _ _ _ _ _ hSw; go_simp
            try simp only [Act.put, List.setIfInBounds_toArray, List.set_cons_zero, List.set_cons_succ]
            refine wpAnyH_take (i := 11) (oi := { dst := some 93, op := Go.Op.move (Go.Operand.tmp 8), type := 3, pos := "text.go:158", after := #[], guard := none }) (v := .int .i64 2) rfl (by kernel_rfl) (by kernel_rfl) (by kernel_rfl) (fun _ _ _ h => h) (Or.inl ⟨by rfl, ?_⟩) (by assumption) ?_
            · intro w9 hSw
              go_simp
            try simp only [Act.put, List.setIfInBounds_toArray, List.set_cons_zero, List.set_cons_succ]
            refine wpAnyH_take (i := 12) (oi := { dst := some 94, op := Go.Op.fieldAddr 55 (Go.Operand.tmp 1) 6, type := 0, pos := "text.go:158", after := #[], guard := none }) (v := .pointer (some ⟨w.heap.size, 17, none⟩)) rfl (by kernel_rfl) (by kernel_rfl) (by kernel_rfl) (fun _ _ _ h => h) (Or.inl ⟨by rfl, ?_⟩) (by assumption) ?_
            · intro w9 hSw
              go_simp
            try simp only [Act.put, List.setIfInBounds_toArray, List.set_cons_zero, List.set_cons_succ]
            refine wpAnyH_take (i := 13) (oi := { dst := some 95, op := Go.Op.indexAddr 51 (Go.Operand.tmp 94) (Go.Operand.tmp 93), type := 0, pos := "text.go:158", after := #[{ on := 12, ground := Go.Ground.data }, { on := 11, ground := Go.Ground.data }], guard := none }) (v := .pointer (some ⟨w.heap.size, 23, none⟩)) rfl (by kernel_rfl) (by kernel_rfl) (by kernel_rfl) (fun _ _ _ h => h) (Or.inl ⟨by rfl, ?_⟩) (by assumption) ?_
            · intro w9 hSw
              go_simp
            try simp only [Act.put, List.setIfInBounds_toArray, List.set_cons_zero, List.set_cons_succ]
            refine wpAnyH_take (i := 14) (oi := { dst := some 96, op := Go.Op.fieldAddr 50 (Go.Operand.tmp 95) 2, type := 0, pos := "text.go:158", after := #[{ on := 13, ground := Go.Ground.data }], guard := none }) (v := .pointer (some ⟨w.heap.size, 25, none⟩)) rfl (by kernel_rfl) (by kernel_rfl) (by kernel_rfl) (fun _ _ _ h => h) (Or.inl ⟨by rfl, ?_⟩) (by assumption) ?_
            · intro w9 hSw
              go_simp
            try simp only [Act.put, List.setIfInBounds_toArray, List.set_cons_zero, List.set_cons_succ]
            refine wpAnyH_take (i := 15) (oi := { dst := some 97, op := Go.Op.load 3 (Go.Operand.tmp 96), type := 3, pos := "text.go:158", after := #[{ on := 14, ground := Go.Ground.data }], guard := none }) (v := .int .i64 t.b2.z) rfl (by kernel_rfl) (by kernel_rfl) (by kernel_rfl) (fun _ _ _ h => h) (Or.inl ⟨by rfl, ?_⟩) (by assumption) ?_
            · intro w9 hSw
              have q25 : w9.cell? ⟨w.heap.size, 25, none⟩ = some (.int .i64 t.b2.z) := cell_of_row _ _ _ _ _ _ hSw; go_simp
            try simp only [Act.put, List.setIfInBounds_toArray, List.set_cons_zero, List.set_cons_succ]
            refine wpAnyH_ready (rs := [16]) (by kernel_rfl) (by simp) ?_
            refine AllReadyH.cons (o := { dst := some 98, op := Go.Op.buildSlice 98 3 #[(0, Go.Operand.tmp 87), (1, Go.Operand.tmp 92), (2, Go.Operand.tmp 97)], type := 98, pos := "text.go:158", after := #[{ on := 5, ground := Go.Ground.data }, { on := 10, ground := Go.Ground.data }, { on := 15, ground := Go.Ground.data }], guard := none }) rfl (fun K hK => ?_) AllReadyH.nil
            go_simp
            have Bwra1 : Below wr.heap.size wr (wr.drew.alloc (.cells #[.int .i64 t.b2.x, .int .i64 t.b2.y, .int .i64 t.b2.z] 3)) := below_more (Below.drew (Below.refl _ _)) _
            have Rwrn1 : (wr.drew.alloc (.cells #[.int .i64 t.b2.x, .int .i64 t.b2.y, .int .i64 t.b2.z] 3)).heap[wr.heap.size]? = some (.cells ([t.b2.x, t.b2.y, t.b2.z].map (Value.int .i64)).toArray 3 (0, 0)) := by simpa using heap_alloc_new (wr.drew) (.cells #[.int .i64 t.b2.x, .int .i64 t.b2.y, .int .i64 t.b2.z] 3)
            refine hK.out _ _ ((Bwra1.block _ zW).trans RW) (fun hHwra1 => ?_)
            clear hK K
            try simp only [Act.put, List.setIfInBounds_toArray, List.set_cons_zero, List.set_cons_succ]
            refine wpAnyH_ready (rs := [17]) (by kernel_rfl) (by simp) ?_
            refine AllReadyH.cons (o := { dst := some 99, op := Go.Op.call { callee := Go.Callee.value (Go.Operand.func 37), args := #[Go.Operand.const (Go.Value.string { data := #[66] }), Go.Operand.tmp 98], argTypes := #[9, 98] }, type := 9, pos := "text.go:158", after := #[{ on := 16, ground := Go.Ground.data }], guard := none }) rfl (fun K hK => ?_) AllReadyH.nil
            go_simp
            refine (row_any (⟨#[66]⟩ : ByteArray) [t.b2.x, t.b2.y, t.b2.z] wr.heap.size _ (row_lt Rwrn1) (row_cells Rwrn1) (nb_cons (tnn.pb 2 (by omega)).1 (nb_cons (tnn.pb 2 (by omega)).2.1 (nb_cons (tnn.pb 2 (by omega)).2.2 nb_nil))) (by simp) (show ((⟨#[66]⟩ : ByteArray)).size ≤ 1000 from by decide)).mono ?_
            rintro e wwrk2 ⟨rfl, hwwrk2⟩
            have Bwwrk2 := below_then Bwra1 hwwrk2
            have Rwwrk2_Rwrn1 := (hwwrk2.block _ (row_lt Rwrn1)).trans Rwrn1
            go_wp2_with fail
            refine hK.out _ _ ((Bwwrk2.block _ zW).trans RW) (fun hHwwrk2 => ?_)
            clear hK K
            try simp only [Act.put, List.setIfInBounds_toArray, List.set_cons_zero, List.set_cons_succ]
            refine wpAnyH_take (i := 18) (oi := { dst := some 100, op := Go.Op.binOp Go.BinOp.add 9 (Go.Operand.tmp 82) (Go.Operand.tmp 99) 9, type := 9, pos := "text.go:158", after := #[{ on := 0, ground := Go.Ground.data }, { on := 17, ground := Go.Ground.data }], guard := none }) (v := .string P1) rfl (by kernel_rfl) (by kernel_rfl) (by kernel_rfl) (fun _ _ _ h => h) (Or.inl ⟨by rfl, ?_⟩) (by assumption) ?_
            · intro w9 hSw
              go_simp
            try simp only [Act.put, List.setIfInBounds_toArray, List.set_cons_zero, List.set_cons_succ]
            refine wpAnyH_take (i := 19) (oi := { dst := some 6, op := Go.Op.assign (Go.Operand.tmp 100), type := 9, pos := "text.go:158", after := #[{ on := 18, ground := Go.Ground.data }, { on := 17, ground := Go.Ground.chain }, { on := 0, ground := Go.Ground.phase }, { on := 1, ground := Go.Ground.phase }, { on := 2, ground := Go.Ground.phase }, { on := 3, ground := Go.Ground.phase }, { on := 4, ground := Go.Ground.phase }, { on := 5, ground := Go.Ground.phase }, { on := 6, ground := Go.Ground.phase }, { on := 7, ground := Go.Ground.phase }, { on := 8, ground := Go.Ground.phase }, { on := 9, ground := Go.Ground.phase }, { on := 10, ground := Go.Ground.phase }, { on := 11, ground := Go.Ground.phase }, { on := 12, ground := Go.Ground.phase }, { on := 13, ground := Go.Ground.phase }, { on := 14, ground := Go.Ground.phase }, { on := 15, ground := Go.Ground.phase }, { on := 16, ground := Go.Ground.phase }, { on := 17, ground := Go.Ground.phase }, { on := 18, ground := Go.Ground.phase }], guard := none }) (v := .string P1) rfl (by kernel_rfl) (by kernel_rfl) (by kernel_rfl) (fun _ _ _ h => h) (Or.inl ⟨by rfl, ?_⟩) (by assumption) ?_
            · intro w9 hSw
              go_simp
            try simp only [Act.put, List.setIfInBounds_toArray, List.set_cons_zero, List.set_cons_succ]
            refine wpAnyH_done (by kernel_rfl) ?_ _
            go_wp2_with fail
            go_roundw
            case rel => exact ⟨3, by first | rfl | go_num, by omega, by rw [HS.out, HP1.out]; rfl, below_then hb Bwwrk2⟩
            case measure => simp [intOf]
        · have hlt' : ¬ (k : Int) < 3 := by omega
          have hk3 : k = 3 := by omega
          have HX5 : Hid (X = bE t X4 3) := by show _ = _; rw [HXX.out, hk3]
          have e26 : wr.cell? ⟨w.heap.size, 26, none⟩ = some (.int .i64 t.d.x) := cell_of_row _ _ _ _ _ _ RW
          have e27 : wr.cell? ⟨w.heap.size, 27, none⟩ = some (.int .i64 t.d.y) := cell_of_row _ _ _ _ _ _ RW
          have e28 : wr.cell? ⟨w.heap.size, 28, none⟩ = some (.int .i64 t.d.z) := cell_of_row _ _ _ _ _ _ RW
          have sM : (rowS ⟨#[77]⟩ [t.d.x, t.d.y, t.d.z]).size ≤ 68 := rowS_size (c := ⟨#[77]⟩) (nb_cons tnn.pd.1 (nb_cons tnn.pd.2.1 (nb_cons tnn.pd.2.2 nb_nil)))
          obtain ⟨X6, hX6⟩ : ∃ Y, Y = X ++ rowS ⟨#[77]⟩ [t.d.x, t.d.y, t.d.z] := ⟨_, rfl⟩
          have sX6 : X6.size ≤ 3000 := by rw [hX6, app_size]; omega
          have d3 : ∀ w, (Op.stringOp .add X (rowS ⟨#[77]⟩ [t.d.x, t.d.y, t.d.z])).run Tryd.prog w = .ok (.string X6) w := by rw [hX6]; exact sadd _ _ (by omega)
          have HX6 := hideP hX6
          clear hX6 hlt hk3
          go_upto_region 17 with (go_at_call 37; refine (row_any ⟨#[77]⟩ [t.d.x, t.d.y, t.d.z] wr.heap.size _ (by simp) (row_cells (heap_alloc_new wr _)) (nb_cons tnn.pd.1 (nb_cons tnn.pd.2.1 (nb_cons tnn.pd.2.2 nb_nil))) (by simp) (show (⟨#[77]⟩ : ByteArray).size ≤ 1000 from by decide)).mono ?_; rintro e W6 ⟨rfl, hW6⟩)
          have BW6 := below_then (below_more BW _) hW6
          have R6 : W6.heap[w.heap.size]? = some (.cells #[.int .i64 t.z.off, .int .i64 t.z.f.m, .int .i64 t.z.f.w, .int .i64 t.z.f.d, .int .i64 t.z.f.h, .int .i64 t.z.t.m, .int .i64 t.z.t.w, .int .i64 t.z.t.d, .int .i64 t.z.t.h, .int .i64 t.days, .int .i64 t.gap, .int .i64 t.first, .int .i64 t.last, .string t.h0, .string t.h1, .string t.h2, .string t.h3, .int .i64 t.b0.x, .int .i64 t.b0.y, .int .i64 t.b0.z, .int .i64 t.b1.x, .int .i64 t.b1.y, .int .i64 t.b1.z, .int .i64 t.b2.x, .int .i64 t.b2.y, .int .i64 t.b2.z, .int .i64 t.d.x, .int .i64 t.d.y, .int .i64 t.d.z, .int .i64 t.np, .int .i64 t.nn, .int .i64 t.fix, .int .i64 t.min, .int .i64 t.tax] 55) := (hW6.block _ (by simp; omega)).trans ((heap_alloc_old _ _ zW).trans RW)
          have z6 : w.heap.size < W6.heap.size := row_lt R6
          clear hW6 e26 e27 e28
          obtain ⟨P1, hP1⟩ : ∃ Z, Z = X6 ++ (rowS (⟨#[78]⟩ : ByteArray) [t.np, t.nn]) := ⟨_, rfl⟩
          have sP1 : P1.size ≤ 3046 := by have q1 := (show X6.size ≤ 3000 from sX6); have q2 := (show (rowS (⟨#[78]⟩ : ByteArray) [t.np, t.nn]).size ≤ 46 from rowS_size (c := (⟨#[78]⟩ : ByteArray)) (nb_cons tnn.pn.1 (nb_cons tnn.pn.2 nb_nil))); rw [hP1, app_size]; omega
          have aP1 : ∀ w, (Op.stringOp .add X6 (rowS (⟨#[78]⟩ : ByteArray) [t.np, t.nn])).run Tryd.prog w = .ok (.string P1) w := by have q1 := (show X6.size ≤ 3000 from sX6); have q2 := (show (rowS (⟨#[78]⟩ : ByteArray) [t.np, t.nn]).size ≤ 46 from rowS_size (c := (⟨#[78]⟩ : ByteArray)) (nb_cons tnn.pn.1 (nb_cons tnn.pn.2 nb_nil))); rw [hP1]; exact sadd _ _ (by omega)
          have HP1 := hideP hP1
          clear hP1
          obtain ⟨P2, hP2⟩ : ∃ Z, Z = P1 ++ (rowS (⟨#[70]⟩ : ByteArray) [t.fix, t.min, t.tax]) := ⟨_, rfl⟩
          have sP2 : P2.size ≤ 3114 := by have q1 := (show P1.size ≤ 3046 from sP1); have q2 := (show (rowS (⟨#[70]⟩ : ByteArray) [t.fix, t.min, t.tax]).size ≤ 68 from rowS_size (c := (⟨#[70]⟩ : ByteArray)) (nb_cons tnn.pe.1 (nb_cons tnn.pe.2.1 (nb_cons tnn.pe.2.2 nb_nil)))); rw [hP2, app_size]; omega
          have aP2 : ∀ w, (Op.stringOp .add P1 (rowS (⟨#[70]⟩ : ByteArray) [t.fix, t.min, t.tax])).run Tryd.prog w = .ok (.string P2) w := by have q1 := (show P1.size ≤ 3046 from sP1); have q2 := (show (rowS (⟨#[70]⟩ : ByteArray) [t.fix, t.min, t.tax]).size ≤ 68 from rowS_size (c := (⟨#[70]⟩ : ByteArray)) (nb_cons tnn.pe.1 (nb_cons tnn.pe.2.1 (nb_cons tnn.pe.2.2 nb_nil)))); rw [hP2]; exact sadd _ _ (by omega)
          have HP2 := hideP hP2
          clear hP2
          refine wp_region_held_drew (S := (fun w' => w'.heap[w.heap.size]? = some (.cells #[.int .i64 t.z.off, .int .i64 t.z.f.m, .int .i64 t.z.f.w, .int .i64 t.z.f.d, .int .i64 t.z.f.h, .int .i64 t.z.t.m, .int .i64 t.z.t.w, .int .i64 t.z.t.d, .int .i64 t.z.t.h, .int .i64 t.days, .int .i64 t.gap, .int .i64 t.first, .int .i64 t.last, .string t.h0, .string t.h1, .string t.h2, .string t.h3, .int .i64 t.b0.x, .int .i64 t.b0.y, .int .i64 t.b0.z, .int .i64 t.b1.x, .int .i64 t.b1.y, .int .i64 t.b1.z, .int .i64 t.b2.x, .int .i64 t.b2.y, .int .i64 t.b2.z, .int .i64 t.d.x, .int .i64 t.d.y, .int .i64 t.d.z, .int .i64 t.np, .int .i64 t.nn, .int .i64 t.fix, .int .i64 t.min, .int .i64 t.tax] 55 (0, 0)))) (by kernel_rfl) R6 (fun hH0 => ?_)
          refine wpAnyH_take (i := 0) (oi := { dst := some 114, op := Go.Op.move (Go.Operand.tmp 6), type := 9, pos := "text.go:161", after := #[], guard := none }) (v := .string X6) rfl (by kernel_rfl) (by kernel_rfl) (by kernel_rfl) (fun _ _ _ h => h) (Or.inl ⟨by rfl, ?_⟩) (by assumption) ?_
          · intro w9 hSw
            go_simp
          try simp only [Act.put, List.setIfInBounds_toArray, List.set_cons_zero, List.set_cons_succ]
          refine wpAnyH_take (i := 1) (oi := { dst := some 115, op := Go.Op.fieldAddr 55 (Go.Operand.tmp 1) 8, type := 0, pos := "text.go:161", after := #[], guard := none }) (v := .pointer (some ⟨w.heap.size, 29, none⟩)) rfl (by kernel_rfl) (by kernel_rfl) (by kernel_rfl) (fun _ _ _ h => h) (Or.inl ⟨by rfl, ?_⟩) (by assumption) ?_
          · intro w9 hSw
            go_simp
          try simp only [Act.put, List.setIfInBounds_toArray, List.set_cons_zero, List.set_cons_succ]
          refine wpAnyH_take (i := 2) (oi := { dst := some 116, op := Go.Op.fieldAddr 53 (Go.Operand.tmp 115) 0, type := 0, pos := "text.go:161", after := #[{ on := 1, ground := Go.Ground.data }], guard := none }) (v := .pointer (some ⟨w.heap.size, 29, none⟩)) rfl (by kernel_rfl) (by kernel_rfl) (by kernel_rfl) (fun _ _ _ h => h) (Or.inl ⟨by rfl, ?_⟩) (by assumption) ?_
          · intro w9 hSw
            go_simp
          try simp only [Act.put, List.setIfInBounds_toArray, List.set_cons_zero, List.set_cons_succ]
          refine wpAnyH_take (i := 3) (oi := { dst := some 117, op := Go.Op.load 3 (Go.Operand.tmp 116), type := 3, pos := "text.go:161", after := #[{ on := 2, ground := Go.Ground.data }], guard := none }) (v := .int .i64 t.np) rfl (by kernel_rfl) (by kernel_rfl) (by kernel_rfl) (fun _ _ _ h => h) (Or.inl ⟨by rfl, ?_⟩) (by assumption) ?_
          · intro w9 hSw
            have q29 : w9.cell? ⟨w.heap.size, 29, none⟩ = some (.int .i64 t.np) := cell_of_row _ _ _ _ _ _ hSw; go_simp
          try simp only [Act.put, List.setIfInBounds_toArray, List.set_cons_zero, List.set_cons_succ]
          refine wpAnyH_take (i := 4) (oi := { dst := some 118, op := Go.Op.fieldAddr 55 (Go.Operand.tmp 1) 8, type := 0, pos := "text.go:161", after := #[], guard := none }) (v := .pointer (some ⟨w.heap.size, 29, none⟩)) rfl (by kernel_rfl) (by kernel_rfl) (by kernel_rfl) (fun _ _ _ h => h) (Or.inl ⟨by rfl, ?_⟩) (by assumption) ?_
          · intro w9 hSw
            go_simp
          try simp only [Act.put, List.setIfInBounds_toArray, List.set_cons_zero, List.set_cons_succ]
          refine wpAnyH_take (i := 5) (oi := { dst := some 119, op := Go.Op.fieldAddr 53 (Go.Operand.tmp 118) 1, type := 0, pos := "text.go:161", after := #[{ on := 4, ground := Go.Ground.data }], guard := none }) (v := .pointer (some ⟨w.heap.size, 30, none⟩)) rfl (by kernel_rfl) (by kernel_rfl) (by kernel_rfl) (fun _ _ _ h => h) (Or.inl ⟨by rfl, ?_⟩) (by assumption) ?_
          · intro w9 hSw
            go_simp
          try simp only [Act.put, List.setIfInBounds_toArray, List.set_cons_zero, List.set_cons_succ]
          refine wpAnyH_take (i := 6) (oi := { dst := some 120, op := Go.Op.load 3 (Go.Operand.tmp 119), type := 3, pos := "text.go:161", after := #[{ on := 5, ground := Go.Ground.data }], guard := none }) (v := .int .i64 t.nn) rfl (by kernel_rfl) (by kernel_rfl) (by kernel_rfl) (fun _ _ _ h => h) (Or.inl ⟨by rfl, ?_⟩) (by assumption) ?_
          · intro w9 hSw
            have q30 : w9.cell? ⟨w.heap.size, 30, none⟩ = some (.int .i64 t.nn) := cell_of_row _ _ _ _ _ _ hSw; go_simp
          try simp only [Act.put, List.setIfInBounds_toArray, List.set_cons_zero, List.set_cons_succ]
          refine wpAnyH_take (i := 10) (oi := { dst := some 124, op := Go.Op.fieldAddr 55 (Go.Operand.tmp 1) 9, type := 0, pos := "text.go:161", after := #[], guard := none }) (v := .pointer (some ⟨w.heap.size, 31, none⟩)) rfl (by kernel_rfl) (by kernel_rfl) (by kernel_rfl) (fun _ _ _ h => h) (Or.inl ⟨by rfl, ?_⟩) (by assumption) ?_
          · intro w9 hSw
            go_simp
          try simp only [Act.put, List.setIfInBounds_toArray, List.set_cons_zero, List.set_cons_succ]
          refine wpAnyH_take (i := 11) (oi := { dst := some 125, op := Go.Op.load 3 (Go.Operand.tmp 124), type := 3, pos := "text.go:161", after := #[{ on := 10, ground := Go.Ground.data }], guard := none }) (v := .int .i64 t.fix) rfl (by kernel_rfl) (by kernel_rfl) (by kernel_rfl) (fun _ _ _ h => h) (Or.inl ⟨by rfl, ?_⟩) (by assumption) ?_
          · intro w9 hSw
            have q31 : w9.cell? ⟨w.heap.size, 31, none⟩ = some (.int .i64 t.fix) := cell_of_row _ _ _ _ _ _ hSw; go_simp
          try simp only [Act.put, List.setIfInBounds_toArray, List.set_cons_zero, List.set_cons_succ]
          refine wpAnyH_take (i := 12) (oi := { dst := some 126, op := Go.Op.fieldAddr 55 (Go.Operand.tmp 1) 10, type := 0, pos := "text.go:161", after := #[], guard := none }) (v := .pointer (some ⟨w.heap.size, 32, none⟩)) rfl (by kernel_rfl) (by kernel_rfl) (by kernel_rfl) (fun _ _ _ h => h) (Or.inl ⟨by rfl, ?_⟩) (by assumption) ?_
          · intro w9 hSw
            go_simp
          try simp only [Act.put, List.setIfInBounds_toArray, List.set_cons_zero, List.set_cons_succ]
          refine wpAnyH_take (i := 13) (oi := { dst := some 127, op := Go.Op.load 3 (Go.Operand.tmp 126), type := 3, pos := "text.go:161", after := #[{ on := 12, ground := Go.Ground.data }], guard := none }) (v := .int .i64 t.min) rfl (by kernel_rfl) (by kernel_rfl) (by kernel_rfl) (fun _ _ _ h => h) (Or.inl ⟨by rfl, ?_⟩) (by assumption) ?_
          · intro w9 hSw
            have q32 : w9.cell? ⟨w.heap.size, 32, none⟩ = some (.int .i64 t.min) := cell_of_row _ _ _ _ _ _ hSw; go_simp
          try simp only [Act.put, List.setIfInBounds_toArray, List.set_cons_zero, List.set_cons_succ]
          refine wpAnyH_take (i := 14) (oi := { dst := some 128, op := Go.Op.fieldAddr 55 (Go.Operand.tmp 1) 11, type := 0, pos := "text.go:161", after := #[], guard := none }) (v := .pointer (some ⟨w.heap.size, 33, none⟩)) rfl (by kernel_rfl) (by kernel_rfl) (by kernel_rfl) (fun _ _ _ h => h) (Or.inl ⟨by rfl, ?_⟩) (by assumption) ?_
          · intro w9 hSw
            go_simp
          try simp only [Act.put, List.setIfInBounds_toArray, List.set_cons_zero, List.set_cons_succ]
          refine wpAnyH_take (i := 15) (oi := { dst := some 129, op := Go.Op.load 3 (Go.Operand.tmp 128), type := 3, pos := "text.go:161", after := #[{ on := 14, ground := Go.Ground.data }], guard := none }) (v := .int .i64 t.tax) rfl (by kernel_rfl) (by kernel_rfl) (by kernel_rfl) (fun _ _ _ h => h) (Or.inl ⟨by rfl, ?_⟩) (by assumption) ?_
          · intro w9 hSw
            have q33 : w9.cell? ⟨w.heap.size, 33, none⟩ = some (.int .i64 t.tax) := cell_of_row _ _ _ _ _ _ hSw; go_simp
          try simp only [Act.put, List.setIfInBounds_toArray, List.set_cons_zero, List.set_cons_succ]
          refine wpAnyH_ready (rs := [7, 16]) (by kernel_rfl) (by simp) ?_
          refine AllReadyH.cons (o := { dst := some 121, op := Go.Op.buildSlice 98 2 #[(0, Go.Operand.tmp 117), (1, Go.Operand.tmp 120)], type := 98, pos := "text.go:161", after := #[{ on := 3, ground := Go.Ground.data }, { on := 6, ground := Go.Ground.data }], guard := none }) rfl (fun K hK => ?_) (AllReadyH.cons (o := { dst := some 130, op := Go.Op.buildSlice 98 3 #[(0, Go.Operand.tmp 125), (1, Go.Operand.tmp 127), (2, Go.Operand.tmp 129)], type := 98, pos := "text.go:161", after := #[{ on := 11, ground := Go.Ground.data }, { on := 13, ground := Go.Ground.data }, { on := 15, ground := Go.Ground.data }], guard := none }) rfl (fun K hK => ?_) AllReadyH.nil)
          · go_simp
            have BW6a1 : Below W6.heap.size W6 (W6.drew.alloc (.cells #[.int .i64 t.np, .int .i64 t.nn] 3)) := below_more (Below.drew (Below.refl _ _)) _
            have RW6n1 : (W6.drew.alloc (.cells #[.int .i64 t.np, .int .i64 t.nn] 3)).heap[W6.heap.size]? = some (.cells ([t.np, t.nn].map (Value.int .i64)).toArray 3 (0, 0)) := by simpa using heap_alloc_new (W6.drew) (.cells #[.int .i64 t.np, .int .i64 t.nn] 3)
            refine hK.out _ _ ((BW6a1.block _ z6).trans R6) (fun hHW6a1 => ?_)
            clear hK K
            try simp only [Act.put, List.setIfInBounds_toArray, List.set_cons_zero, List.set_cons_succ]
            refine wpAnyH_ready (rs := [8, 16]) (by kernel_rfl) (by simp) ?_
            refine AllReadyH.cons (o := { dst := some 122, op := Go.Op.call { callee := Go.Callee.value (Go.Operand.func 37), args := #[Go.Operand.const (Go.Value.string { data := #[78] }), Go.Operand.tmp 121], argTypes := #[9, 98] }, type := 9, pos := "text.go:161", after := #[{ on := 7, ground := Go.Ground.data }], guard := none }) rfl (fun K hK => ?_) (AllReadyH.cons (o := { dst := some 130, op := Go.Op.buildSlice 98 3 #[(0, Go.Operand.tmp 125), (1, Go.Operand.tmp 127), (2, Go.Operand.tmp 129)], type := 98, pos := "text.go:161", after := #[{ on := 11, ground := Go.Ground.data }, { on := 13, ground := Go.Ground.data }, { on := 15, ground := Go.Ground.data }], guard := none }) rfl (fun K hK => ?_) AllReadyH.nil)
            · go_simp
              refine (row_any (⟨#[78]⟩ : ByteArray) [t.np, t.nn] W6.heap.size _ (row_lt RW6n1) (row_cells RW6n1) (nb_cons tnn.pn.1 (nb_cons tnn.pn.2 nb_nil)) (by simp) (show ((⟨#[78]⟩ : ByteArray)).size ≤ 1000 from by decide)).mono ?_
              rintro e wW6k2 ⟨rfl, hwW6k2⟩
              have BwW6k2 := below_then BW6a1 hwW6k2
              have RwW6k2_RW6n1 := (hwW6k2.block _ (row_lt RW6n1)).trans RW6n1
              go_wp2_with fail
              refine hK.out _ _ ((BwW6k2.block _ z6).trans R6) (fun hHwW6k2 => ?_)
              clear hK K
              try simp only [Act.put, List.setIfInBounds_toArray, List.set_cons_zero, List.set_cons_succ]
              refine wpAnyH_take (i := 9) (oi := { dst := some 123, op := Go.Op.binOp Go.BinOp.add 9 (Go.Operand.tmp 114) (Go.Operand.tmp 122) 9, type := 9, pos := "text.go:161", after := #[{ on := 0, ground := Go.Ground.data }, { on := 8, ground := Go.Ground.data }], guard := none }) (v := .string P1) rfl (by kernel_rfl) (by kernel_rfl) (by kernel_rfl) (fun _ _ _ h => h) (Or.inl ⟨by rfl, ?_⟩) (by assumption) ?_
              · intro w9 hSw
                go_simp
              try simp only [Act.put, List.setIfInBounds_toArray, List.set_cons_zero, List.set_cons_succ]
              refine wpAnyH_ready (rs := [16]) (by kernel_rfl) (by simp) ?_
              refine AllReadyH.cons (o := { dst := some 130, op := Go.Op.buildSlice 98 3 #[(0, Go.Operand.tmp 125), (1, Go.Operand.tmp 127), (2, Go.Operand.tmp 129)], type := 98, pos := "text.go:161", after := #[{ on := 11, ground := Go.Ground.data }, { on := 13, ground := Go.Ground.data }, { on := 15, ground := Go.Ground.data }], guard := none }) rfl (fun K hK => ?_) AllReadyH.nil
              go_simp
              have BW6a3 : Below W6.heap.size W6 (wW6k2.alloc (.cells #[.int .i64 t.fix, .int .i64 t.min, .int .i64 t.tax] 3)) := below_more BwW6k2 _
              have RW6a3_RwW6k2_RW6n1 : (wW6k2.alloc (.cells #[.int .i64 t.fix, .int .i64 t.min, .int .i64 t.tax] 3)).heap[W6.heap.size]? = _ := alloc_far RwW6k2_RW6n1 (row_lt RwW6k2_RW6n1)
              have RW6n3 : (wW6k2.alloc (.cells #[.int .i64 t.fix, .int .i64 t.min, .int .i64 t.tax] 3)).heap[wW6k2.heap.size]? = some (.cells ([t.fix, t.min, t.tax].map (Value.int .i64)).toArray 3 (0, 0)) := by simpa using heap_alloc_new (wW6k2) (.cells #[.int .i64 t.fix, .int .i64 t.min, .int .i64 t.tax] 3)
              refine hK.out _ _ ((BW6a3.block _ z6).trans R6) (fun hHW6a3 => ?_)
              clear hK K
              try simp only [Act.put, List.setIfInBounds_toArray, List.set_cons_zero, List.set_cons_succ]
              refine wpAnyH_ready (rs := [17]) (by kernel_rfl) (by simp) ?_
              refine AllReadyH.cons (o := { dst := some 131, op := Go.Op.call { callee := Go.Callee.value (Go.Operand.func 37), args := #[Go.Operand.const (Go.Value.string { data := #[70] }), Go.Operand.tmp 130], argTypes := #[9, 98] }, type := 9, pos := "text.go:161", after := #[{ on := 16, ground := Go.Ground.data }, { on := 8, ground := Go.Ground.chain }], guard := none }) rfl (fun K hK => ?_) AllReadyH.nil
              go_simp
              refine (row_any (⟨#[70]⟩ : ByteArray) [t.fix, t.min, t.tax] wW6k2.heap.size _ (row_lt RW6n3) (row_cells RW6n3) (nb_cons tnn.pe.1 (nb_cons tnn.pe.2.1 (nb_cons tnn.pe.2.2 nb_nil))) (by simp) (show ((⟨#[70]⟩ : ByteArray)).size ≤ 1000 from by decide)).mono ?_
              rintro e wW6k4 ⟨rfl, hwW6k4⟩
              have BwW6k4 := below_then BW6a3 hwW6k4
              have RwW6k4_RW6a3_RwW6k2_RW6n1 := (hwW6k4.block _ (row_lt RW6a3_RwW6k2_RW6n1)).trans RW6a3_RwW6k2_RW6n1
              have RwW6k4_RW6n3 := (hwW6k4.block _ (row_lt RW6n3)).trans RW6n3
              go_wp2_with fail
              refine hK.out _ _ ((BwW6k4.block _ z6).trans R6) (fun hHwW6k4 => ?_)
              clear hK K
              try simp only [Act.put, List.setIfInBounds_toArray, List.set_cons_zero, List.set_cons_succ]
              refine wpAnyH_take (i := 18) (oi := { dst := some 132, op := Go.Op.binOp Go.BinOp.add 9 (Go.Operand.tmp 123) (Go.Operand.tmp 131) 9, type := 9, pos := "text.go:161", after := #[{ on := 9, ground := Go.Ground.data }, { on := 17, ground := Go.Ground.data }], guard := none }) (v := .string P2) rfl (by kernel_rfl) (by kernel_rfl) (by kernel_rfl) (fun _ _ _ h => h) (Or.inl ⟨by rfl, ?_⟩) (by assumption) ?_
              · intro w9 hSw
                go_simp
              try simp only [Act.put, List.setIfInBounds_toArray, List.set_cons_zero, List.set_cons_succ]
              refine wpAnyH_take (i := 19) (oi := { dst := some 2, op := Go.Op.assign (Go.Operand.tmp 132), type := 9, pos := "text.go:161", after := #[{ on := 18, ground := Go.Ground.data }, { on := 17, ground := Go.Ground.chain }, { on := 0, ground := Go.Ground.phase }, { on := 1, ground := Go.Ground.phase }, { on := 2, ground := Go.Ground.phase }, { on := 3, ground := Go.Ground.phase }, { on := 4, ground := Go.Ground.phase }, { on := 5, ground := Go.Ground.phase }, { on := 6, ground := Go.Ground.phase }, { on := 7, ground := Go.Ground.phase }, { on := 8, ground := Go.Ground.phase }, { on := 9, ground := Go.Ground.phase }, { on := 10, ground := Go.Ground.phase }, { on := 11, ground := Go.Ground.phase }, { on := 12, ground := Go.Ground.phase }, { on := 13, ground := Go.Ground.phase }, { on := 14, ground := Go.Ground.phase }, { on := 15, ground := Go.Ground.phase }, { on := 16, ground := Go.Ground.phase }, { on := 17, ground := Go.Ground.phase }, { on := 18, ground := Go.Ground.phase }], guard := none }) (v := .string P2) rfl (by kernel_rfl) (by kernel_rfl) (by kernel_rfl) (fun _ _ _ h => h) (Or.inl ⟨by rfl, ?_⟩) (by assumption) ?_
              · intro w9 hSw
                go_simp
              try simp only [Act.put, List.setIfInBounds_toArray, List.set_cons_zero, List.set_cons_succ]
              refine wpAnyH_done (by kernel_rfl) ?_ _
              go_wp2_with fail
              go_ret
              exact ⟨ret_str (by unfold tD; rw [HP2.out, HP1.out, HX6.out, HX5.out, HX4.out, HX3.out]), below_then BW6 BwW6k4⟩
            · go_simp
              have BW6a5 : Below W6.heap.size W6 ((W6.drew.alloc (.cells #[.int .i64 t.np, .int .i64 t.nn] 3)).alloc (.cells #[.int .i64 t.fix, .int .i64 t.min, .int .i64 t.tax] 3)) := below_more BW6a1 _
              have RW6a5_RW6n1 : ((W6.drew.alloc (.cells #[.int .i64 t.np, .int .i64 t.nn] 3)).alloc (.cells #[.int .i64 t.fix, .int .i64 t.min, .int .i64 t.tax] 3)).heap[W6.heap.size]? = _ := alloc_far RW6n1 (row_lt RW6n1)
              have RW6n5 : ((W6.drew.alloc (.cells #[.int .i64 t.np, .int .i64 t.nn] 3)).alloc (.cells #[.int .i64 t.fix, .int .i64 t.min, .int .i64 t.tax] 3)).heap[(W6.heap.size + 1)]? = some (.cells ([t.fix, t.min, t.tax].map (Value.int .i64)).toArray 3 (0, 0)) := by simpa using heap_alloc_new ((W6.drew.alloc (.cells #[.int .i64 t.np, .int .i64 t.nn] 3))) (.cells #[.int .i64 t.fix, .int .i64 t.min, .int .i64 t.tax] 3)
              refine hK.out _ _ ((BW6a5.block _ z6).trans R6) (fun hHW6a5 => ?_)
              clear hK K
              try simp only [Act.put, List.setIfInBounds_toArray, List.set_cons_zero, List.set_cons_succ]
              refine wpAnyH_ready (rs := [8]) (by kernel_rfl) (by simp) ?_
              refine AllReadyH.cons (o := { dst := some 122, op := Go.Op.call { callee := Go.Callee.value (Go.Operand.func 37), args := #[Go.Operand.const (Go.Value.string { data := #[78] }), Go.Operand.tmp 121], argTypes := #[9, 98] }, type := 9, pos := "text.go:161", after := #[{ on := 7, ground := Go.Ground.data }], guard := none }) rfl (fun K hK => ?_) AllReadyH.nil
              go_simp
              refine (row_any (⟨#[78]⟩ : ByteArray) [t.np, t.nn] W6.heap.size _ (row_lt RW6a5_RW6n1) (row_cells RW6a5_RW6n1) (nb_cons tnn.pn.1 (nb_cons tnn.pn.2 nb_nil)) (by simp) (show ((⟨#[78]⟩ : ByteArray)).size ≤ 1000 from by decide)).mono ?_
              rintro e wW6k6 ⟨rfl, hwW6k6⟩
              have BwW6k6 := below_then BW6a5 hwW6k6
              have RwW6k6_RW6a5_RW6n1 := (hwW6k6.block _ (row_lt RW6a5_RW6n1)).trans RW6a5_RW6n1
              have RwW6k6_RW6n5 := (hwW6k6.block _ (row_lt RW6n5)).trans RW6n5
              go_wp2_with fail
              refine hK.out _ _ ((BwW6k6.block _ z6).trans R6) (fun hHwW6k6 => ?_)
              clear hK K
              try simp only [Act.put, List.setIfInBounds_toArray, List.set_cons_zero, List.set_cons_succ]
              refine wpAnyH_take (i := 9) (oi := { dst := some 123, op := Go.Op.binOp Go.BinOp.add 9 (Go.Operand.tmp 114) (Go.Operand.tmp 122) 9, type := 9, pos := "text.go:161", after := #[{ on := 0, ground := Go.Ground.data }, { on := 8, ground := Go.Ground.data }], guard := none }) (v := .string P1) rfl (by kernel_rfl) (by kernel_rfl) (by kernel_rfl) (fun _ _ _ h => h) (Or.inl ⟨by rfl, ?_⟩) (by assumption) ?_
              · intro w9 hSw
                go_simp
              try simp only [Act.put, List.setIfInBounds_toArray, List.set_cons_zero, List.set_cons_succ]
              refine wpAnyH_ready (rs := [17]) (by kernel_rfl) (by simp) ?_
              refine AllReadyH.cons (o := { dst := some 131, op := Go.Op.call { callee := Go.Callee.value (Go.Operand.func 37), args := #[Go.Operand.const (Go.Value.string { data := #[70] }), Go.Operand.tmp 130], argTypes := #[9, 98] }, type := 9, pos := "text.go:161", after := #[{ on := 16, ground := Go.Ground.data }, { on := 8, ground := Go.Ground.chain }], guard := none }) rfl (fun K hK => ?_) AllReadyH.nil
              go_simp
              refine (row_any (⟨#[70]⟩ : ByteArray) [t.fix, t.min, t.tax] (W6.heap.size + 1) _ (row_lt RwW6k6_RW6n5) (row_cells RwW6k6_RW6n5) (nb_cons tnn.pe.1 (nb_cons tnn.pe.2.1 (nb_cons tnn.pe.2.2 nb_nil))) (by simp) (show ((⟨#[70]⟩ : ByteArray)).size ≤ 1000 from by decide)).mono ?_
              rintro e wW6k7 ⟨rfl, hwW6k7⟩
              have BwW6k7 := below_then BwW6k6 hwW6k7
              have RwW6k7_RwW6k6_RW6a5_RW6n1 := (hwW6k7.block _ (row_lt RwW6k6_RW6a5_RW6n1)).trans RwW6k6_RW6a5_RW6n1
              have RwW6k7_RwW6k6_RW6n5 := (hwW6k7.block _ (row_lt RwW6k6_RW6n5)).trans RwW6k6_RW6n5
              go_wp2_with fail
              refine hK.out _ _ ((BwW6k7.block _ z6).trans R6) (fun hHwW6k7 => ?_)
              clear hK K
              try simp only [Act.put, List.setIfInBounds_toArray, List.set_cons_zero, List.set_cons_succ]
              refine wpAnyH_take (i := 18) (oi := { dst := some 132, op := Go.Op.binOp Go.BinOp.add 9 (Go.Operand.tmp 123) (Go.Operand.tmp 131) 9, type := 9, pos := "text.go:161", after := #[{ on := 9, ground := Go.Ground.data }, { on := 17, ground := Go.Ground.data }], guard := none }) (v := .string P2) rfl (by kernel_rfl) (by kernel_rfl) (by kernel_rfl) (fun _ _ _ h => h) (Or.inl ⟨by rfl, ?_⟩) (by assumption) ?_
              · intro w9 hSw
                go_simp
              try simp only [Act.put, List.setIfInBounds_toArray, List.set_cons_zero, List.set_cons_succ]
              refine wpAnyH_take (i := 19) (oi := { dst := some 2, op := Go.Op.assign (Go.Operand.tmp 132), type := 9, pos := "text.go:161", after := #[{ on := 18, ground := Go.Ground.data }, { on := 17, ground := Go.Ground.chain }, { on := 0, ground := Go.Ground.phase }, { on := 1, ground := Go.Ground.phase }, { on := 2, ground := Go.Ground.phase }, { on := 3, ground := Go.Ground.phase }, { on := 4, ground := Go.Ground.phase }, { on := 5, ground := Go.Ground.phase }, { on := 6, ground := Go.Ground.phase }, { on := 7, ground := Go.Ground.phase }, { on := 8, ground := Go.Ground.phase }, { on := 9, ground := Go.Ground.phase }, { on := 10, ground := Go.Ground.phase }, { on := 11, ground := Go.Ground.phase }, { on := 12, ground := Go.Ground.phase }, { on := 13, ground := Go.Ground.phase }, { on := 14, ground := Go.Ground.phase }, { on := 15, ground := Go.Ground.phase }, { on := 16, ground := Go.Ground.phase }, { on := 17, ground := Go.Ground.phase }, { on := 18, ground := Go.Ground.phase }], guard := none }) (v := .string P2) rfl (by kernel_rfl) (by kernel_rfl) (by kernel_rfl) (fun _ _ _ h => h) (Or.inl ⟨by rfl, ?_⟩) (by assumption) ?_
              · intro w9 hSw
                go_simp
              try simp only [Act.put, List.setIfInBounds_toArray, List.set_cons_zero, List.set_cons_succ]
              refine wpAnyH_done (by kernel_rfl) ?_ _
              go_wp2_with fail
              go_ret
              exact ⟨ret_str (by unfold tD; rw [HP2.out, HP1.out, HX6.out, HX5.out, HX4.out, HX3.out]), below_then BW6 BwW6k7⟩
          · go_simp
            have BW6a8 : Below W6.heap.size W6 (W6.drew.alloc (.cells #[.int .i64 t.fix, .int .i64 t.min, .int .i64 t.tax] 3)) := below_more (Below.drew (Below.refl _ _)) _
            have RW6n8 : (W6.drew.alloc (.cells #[.int .i64 t.fix, .int .i64 t.min, .int .i64 t.tax] 3)).heap[W6.heap.size]? = some (.cells ([t.fix, t.min, t.tax].map (Value.int .i64)).toArray 3 (0, 0)) := by simpa using heap_alloc_new (W6.drew) (.cells #[.int .i64 t.fix, .int .i64 t.min, .int .i64 t.tax] 3)
            refine hK.out _ _ ((BW6a8.block _ z6).trans R6) (fun hHW6a8 => ?_)
            clear hK K
            try simp only [Act.put, List.setIfInBounds_toArray, List.set_cons_zero, List.set_cons_succ]
            refine wpAnyH_ready (rs := [7]) (by kernel_rfl) (by simp) ?_
            refine AllReadyH.cons (o := { dst := some 121, op := Go.Op.buildSlice 98 2 #[(0, Go.Operand.tmp 117), (1, Go.Operand.tmp 120)], type := 98, pos := "text.go:161", after := #[{ on := 3, ground := Go.Ground.data }, { on := 6, ground := Go.Ground.data }], guard := none }) rfl (fun K hK => ?_) AllReadyH.nil
            go_simp
            have BW6a9 : Below W6.heap.size W6 ((W6.drew.alloc (.cells #[.int .i64 t.fix, .int .i64 t.min, .int .i64 t.tax] 3)).alloc (.cells #[.int .i64 t.np, .int .i64 t.nn] 3)) := below_more BW6a8 _
            have RW6a9_RW6n8 : ((W6.drew.alloc (.cells #[.int .i64 t.fix, .int .i64 t.min, .int .i64 t.tax] 3)).alloc (.cells #[.int .i64 t.np, .int .i64 t.nn] 3)).heap[W6.heap.size]? = _ := alloc_far RW6n8 (row_lt RW6n8)
            have RW6n9 : ((W6.drew.alloc (.cells #[.int .i64 t.fix, .int .i64 t.min, .int .i64 t.tax] 3)).alloc (.cells #[.int .i64 t.np, .int .i64 t.nn] 3)).heap[(W6.heap.size + 1)]? = some (.cells ([t.np, t.nn].map (Value.int .i64)).toArray 3 (0, 0)) := by simpa using heap_alloc_new ((W6.drew.alloc (.cells #[.int .i64 t.fix, .int .i64 t.min, .int .i64 t.tax] 3))) (.cells #[.int .i64 t.np, .int .i64 t.nn] 3)
            refine hK.out _ _ ((BW6a9.block _ z6).trans R6) (fun hHW6a9 => ?_)
            clear hK K
            try simp only [Act.put, List.setIfInBounds_toArray, List.set_cons_zero, List.set_cons_succ]
            refine wpAnyH_ready (rs := [8]) (by kernel_rfl) (by simp) ?_
            refine AllReadyH.cons (o := { dst := some 122, op := Go.Op.call { callee := Go.Callee.value (Go.Operand.func 37), args := #[Go.Operand.const (Go.Value.string { data := #[78] }), Go.Operand.tmp 121], argTypes := #[9, 98] }, type := 9, pos := "text.go:161", after := #[{ on := 7, ground := Go.Ground.data }], guard := none }) rfl (fun K hK => ?_) AllReadyH.nil
            go_simp
            refine (row_any (⟨#[78]⟩ : ByteArray) [t.np, t.nn] (W6.heap.size + 1) _ (row_lt RW6n9) (row_cells RW6n9) (nb_cons tnn.pn.1 (nb_cons tnn.pn.2 nb_nil)) (by simp) (show ((⟨#[78]⟩ : ByteArray)).size ≤ 1000 from by decide)).mono ?_
            rintro e wW6k10 ⟨rfl, hwW6k10⟩
            have BwW6k10 := below_then BW6a9 hwW6k10
            have RwW6k10_RW6a9_RW6n8 := (hwW6k10.block _ (row_lt RW6a9_RW6n8)).trans RW6a9_RW6n8
            have RwW6k10_RW6n9 := (hwW6k10.block _ (row_lt RW6n9)).trans RW6n9
            go_wp2_with fail
            refine hK.out _ _ ((BwW6k10.block _ z6).trans R6) (fun hHwW6k10 => ?_)
            clear hK K
            try simp only [Act.put, List.setIfInBounds_toArray, List.set_cons_zero, List.set_cons_succ]
            refine wpAnyH_take (i := 9) (oi := { dst := some 123, op := Go.Op.binOp Go.BinOp.add 9 (Go.Operand.tmp 114) (Go.Operand.tmp 122) 9, type := 9, pos := "text.go:161", after := #[{ on := 0, ground := Go.Ground.data }, { on := 8, ground := Go.Ground.data }], guard := none }) (v := .string P1) rfl (by kernel_rfl) (by kernel_rfl) (by kernel_rfl) (fun _ _ _ h => h) (Or.inl ⟨by rfl, ?_⟩) (by assumption) ?_
            · intro w9 hSw
              go_simp
            try simp only [Act.put, List.setIfInBounds_toArray, List.set_cons_zero, List.set_cons_succ]
            refine wpAnyH_ready (rs := [17]) (by kernel_rfl) (by simp) ?_
            refine AllReadyH.cons (o := { dst := some 131, op := Go.Op.call { callee := Go.Callee.value (Go.Operand.func 37), args := #[Go.Operand.const (Go.Value.string { data := #[70] }), Go.Operand.tmp 130], argTypes := #[9, 98] }, type := 9, pos := "text.go:161", after := #[{ on := 16, ground := Go.Ground.data }, { on := 8, ground := Go.Ground.chain }], guard := none }) rfl (fun K hK => ?_) AllReadyH.nil
            go_simp
            refine (row_any (⟨#[70]⟩ : ByteArray) [t.fix, t.min, t.tax] W6.heap.size _ (row_lt RwW6k10_RW6a9_RW6n8) (row_cells RwW6k10_RW6a9_RW6n8) (nb_cons tnn.pe.1 (nb_cons tnn.pe.2.1 (nb_cons tnn.pe.2.2 nb_nil))) (by simp) (show ((⟨#[70]⟩ : ByteArray)).size ≤ 1000 from by decide)).mono ?_
            rintro e wW6k11 ⟨rfl, hwW6k11⟩
            have BwW6k11 := below_then BwW6k10 hwW6k11
            have RwW6k11_RwW6k10_RW6a9_RW6n8 := (hwW6k11.block _ (row_lt RwW6k10_RW6a9_RW6n8)).trans RwW6k10_RW6a9_RW6n8
            have RwW6k11_RwW6k10_RW6n9 := (hwW6k11.block _ (row_lt RwW6k10_RW6n9)).trans RwW6k10_RW6n9
            go_wp2_with fail
            refine hK.out _ _ ((BwW6k11.block _ z6).trans R6) (fun hHwW6k11 => ?_)
            clear hK K
            try simp only [Act.put, List.setIfInBounds_toArray, List.set_cons_zero, List.set_cons_succ]
            refine wpAnyH_take (i := 18) (oi := { dst := some 132, op := Go.Op.binOp Go.BinOp.add 9 (Go.Operand.tmp 123) (Go.Operand.tmp 131) 9, type := 9, pos := "text.go:161", after := #[{ on := 9, ground := Go.Ground.data }, { on := 17, ground := Go.Ground.data }], guard := none }) (v := .string P2) rfl (by kernel_rfl) (by kernel_rfl) (by kernel_rfl) (fun _ _ _ h => h) (Or.inl ⟨by rfl, ?_⟩) (by assumption) ?_
            · intro w9 hSw
              go_simp
            try simp only [Act.put, List.setIfInBounds_toArray, List.set_cons_zero, List.set_cons_succ]
            refine wpAnyH_take (i := 19) (oi := { dst := some 2, op := Go.Op.assign (Go.Operand.tmp 132), type := 9, pos := "text.go:161", after := #[{ on := 18, ground := Go.Ground.data }, { on := 17, ground := Go.Ground.chain }, { on := 0, ground := Go.Ground.phase }, { on := 1, ground := Go.Ground.phase }, { on := 2, ground := Go.Ground.phase }, { on := 3, ground := Go.Ground.phase }, { on := 4, ground := Go.Ground.phase }, { on := 5, ground := Go.Ground.phase }, { on := 6, ground := Go.Ground.phase }, { on := 7, ground := Go.Ground.phase }, { on := 8, ground := Go.Ground.phase }, { on := 9, ground := Go.Ground.phase }, { on := 10, ground := Go.Ground.phase }, { on := 11, ground := Go.Ground.phase }, { on := 12, ground := Go.Ground.phase }, { on := 13, ground := Go.Ground.phase }, { on := 14, ground := Go.Ground.phase }, { on := 15, ground := Go.Ground.phase }, { on := 16, ground := Go.Ground.phase }, { on := 17, ground := Go.Ground.phase }, { on := 18, ground := Go.Ground.phase }], guard := none }) (v := .string P2) rfl (by kernel_rfl) (by kernel_rfl) (by kernel_rfl) (fun _ _ _ h => h) (Or.inl ⟨by rfl, ?_⟩) (by assumption) ?_
            · intro w9 hSw
              go_simp
            try simp only [Act.put, List.setIfInBounds_toArray, List.set_cons_zero, List.set_cons_succ]
            refine wpAnyH_done (by kernel_rfl) ?_ _
            go_wp2_with fail
            go_ret
            exact ⟨ret_str (by unfold tD; rw [HP2.out, HP1.out, HX6.out, HX5.out, HX4.out, HX3.out]), below_then BW6 BwW6k11⟩
theorem refPrintTariff_any (t : Trf) (w : World) (s0 : t.h0.size ≤ maxLen) (s1 : t.h1.size ≤ maxLen) (s2 : t.h2.size ≤ maxLen) (s3 : t.h3.size ≤ maxLen) :
    Calls Tryd.prog 11 #[.agg #[.int .i64 t.z.off, .int .i64 t.z.f.m, .int .i64 t.z.f.w, .int .i64 t.z.f.d, .int .i64 t.z.f.h, .int .i64 t.z.t.m, .int .i64 t.z.t.w, .int .i64 t.z.t.d, .int .i64 t.z.t.h, .int .i64 t.days, .int .i64 t.gap, .int .i64 t.first, .int .i64 t.last, .string t.h0, .string t.h1, .string t.h2, .string t.h3, .int .i64 t.b0.x, .int .i64 t.b0.y, .int .i64 t.b0.z, .int .i64 t.b1.x, .int .i64 t.b1.y, .int .i64 t.b1.z, .int .i64 t.b2.x, .int .i64 t.b2.y, .int .i64 t.b2.z, .int .i64 t.d.x, .int .i64 t.d.y, .int .i64 t.d.z, .int .i64 t.np, .int .i64 t.nn, .int .i64 t.fix, .int .i64 t.min, .int .i64 t.tax]] w fun e w' => e = .returned (.string (if badN t < 13 then ByteArray.empty else tP t)) ∧ Below w.heap.size w w' := by
  by_cases hn : badN t < 13
  · rw [if_pos hn]; exact refPrintTariff_no t w s0 s1 s2 s3 hn
  · rw [if_neg hn, ← tD_eq]; exact refPrintTariff_yes t w s0 s1 s2 s3 (by have := badN_le t; omega)
end Go.Proofs.YtjaffmmocbplaaaDoor
