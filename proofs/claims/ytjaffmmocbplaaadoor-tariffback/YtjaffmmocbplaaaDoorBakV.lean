/-
  TariffBack: the law's walk (made by tools/genbkt.py).
-/
import Derived.Test.YtjaffmmocbplaaaDoorBakT
import Derived.Test.YtjaffmmocbplaaaDoorTdS
import Derived.Test.YtjaffmmocbplaaaDoorGdW
namespace Go.Proofs.YtjaffmmocbplaaaDoor
open Go.RowKit Go.Shelf
set_option linter.unusedVariables false
attribute [local go_sem ↓] Go.wp_at_zero Go.wp_at_succ
namespace tariffBack
theorem tP_pos (t : Trf) : 0 < (tP t).size := by
  unfold tP; rw [app_size]; show 0 < _ + 1; omega
theorem yields_row' {P : Program} {ops : Array Oper} {S : World → Prop} {op : Oper} {a : Act} (hw : Region.wanted op (yielded ops a.tmps) = true) (ty : TypeId) (x : Operand) (ho : op.op = .load ty x)
    (g : Nat) (hx : a.eval x = .pointer (some ⟨g, 0, none⟩)) (cs : Array Value) (t : TypeId) (fr : Nat × Nat) (d : TypeDesc) (hS : ∀ w, S w → w.heap[g]? = some (.cells cs t fr))
    (hu : P.underlying ty = some d) (hd : (match d with | .struct _ | .array _ _ => true | _ => false) = true) (hi : (P.info? ty).map (·.size) = some cs.size) : YieldsIf P ops S op (.agg cs) a :=
  .inl ⟨hw, fun w hw' => by
    unfold execOp
    simp only [ho, hx, Instr.loadAt, Instr.sureAddr, Sem.run_bind, Sem.run_pure, Result.andThen_ok, run_loadVar_row w g t ty cs fr d (hS w hw') hu hd hi]⟩
set_option maxRecDepth 1000000 in
set_option maxHeartbeats 2000000 in
theorem walk_io (t : Trf) (x : ByteArray) (w : World) (ht : TB w) (s0 : t.h0.size ≤ maxLen) (s1 : t.h1.size ≤ maxLen) (s2 : t.h2.size ≤ maxLen) (s3 : t.h3.size ≤ maxLen) (hx : x.size ≤ maxLen) (hm : badN t < 13) (hz : rtE x (rdT x (hrP x)) = 0) :
    Calls Tryd.prog 5 #[.agg #[.int .i64 t.z.off, .int .i64 t.z.f.m, .int .i64 t.z.f.w, .int .i64 t.z.f.d, .int .i64 t.z.f.h, .int .i64 t.z.t.m, .int .i64 t.z.t.w, .int .i64 t.z.t.d, .int .i64 t.z.t.h, .int .i64 t.days, .int .i64 t.gap, .int .i64 t.first, .int .i64 t.last, .string t.h0, .string t.h1, .string t.h2, .string t.h3, .int .i64 t.b0.x, .int .i64 t.b0.y, .int .i64 t.b0.z, .int .i64 t.b1.x, .int .i64 t.b1.y, .int .i64 t.b1.z, .int .i64 t.b2.x, .int .i64 t.b2.y, .int .i64 t.b2.z, .int .i64 t.d.x, .int .i64 t.d.y, .int .i64 t.d.z, .int .i64 t.np, .int .i64 t.nn, .int .i64 t.fix, .int .i64 t.min, .int .i64 t.tax], .string x] w fun e w' => e = .returned (.bool true) ∧ Below w.heap.size w w' := by
  have tf := fun w1 => tariff_any t w1
  have gm := fun w1 => GoodTariff_any t w1 s0 s1 s2 s3
  have pm := fun w1 (hb : Below w.heap.size w w1) => PrintTariff_any t w1 (ht.below hb) s0 s1 s2 s3
  have hg : goodB t = false := by unfold goodB; simp; omega
  rw [hg] at gm
  rw [if_pos (by omega)] at pm
  obtain ⟨xp, hp⟩ : ∃ z, z = rdT x (hrP x) := ⟨_, rfl⟩
  obtain ⟨y, hy⟩ : ∃ y, y = rtV x xp := ⟨_, rfl⟩
  have rx := fun w1 => ReadTariff_any x xp hp y hy w1 hx
  have hz' : rtE x xp = 0 := by rw [hp]; exact hz
  rw [hz'] at rx
  obtain ⟨bk, bn⟩ := tariff_back hz
  obtain ⟨z0, z1, z2, z3⟩ := tariffs.y_sizes x xp y hp hy
  have px := fun w1 (hb : Below w.heap.size w w1) => PrintTariff_any y w1 (ht.below hb) z0 z1 z2 z3
  have ey : y = rdT x (hrP x) := by rw [hy]; unfold rtV; rw [if_pos hz']; exact hp
  rw [if_neg (by rw [ey]; exact bn), show tP y = x by rw [ey]; exact bk.symm] at px
  have hpos : 0 < x.size := by rw [bk]; exact tP_pos _
  have hpos' : (0 : Int) < (x.size : Int) := by omega
  obtain ⟨A, hA⟩ : ∃ A, A = rtA x xp := ⟨_, rfl⟩
  rw [← hA] at rx
  clear hA hy hp hz hz' bk bn z0 z1 z2 z3 ey
  have hx' : (x.size : Int) ≤ 9223372036854775807 := by unfold maxLen at hx; omega
  have B0 : Below w.heap.size w (w.alloc (.cells #[.int .i64 t.z.off, .int .i64 t.z.f.m, .int .i64 t.z.f.w, .int .i64 t.z.f.d, .int .i64 t.z.f.h, .int .i64 t.z.t.m, .int .i64 t.z.t.w, .int .i64 t.z.t.d, .int .i64 t.z.t.h, .int .i64 t.days, .int .i64 t.gap, .int .i64 t.first, .int .i64 t.last, .string t.h0, .string t.h1, .string t.h2, .string t.h3, .int .i64 t.b0.x, .int .i64 t.b0.y, .int .i64 t.b0.z, .int .i64 t.b1.x, .int .i64 t.b1.y, .int .i64 t.b1.z, .int .i64 t.b2.x, .int .i64 t.b2.y, .int .i64 t.b2.z, .int .i64 t.d.x, .int .i64 t.d.y, .int .i64 t.d.z, .int .i64 t.np, .int .i64 t.nn, .int .i64 t.fix, .int .i64 t.min, .int .i64 t.tax] 38)) := below_more (Below.refl _ _) _
  have MT : (w.alloc (.cells #[.int .i64 t.z.off, .int .i64 t.z.f.m, .int .i64 t.z.f.w, .int .i64 t.z.f.d, .int .i64 t.z.f.h, .int .i64 t.z.t.m, .int .i64 t.z.t.w, .int .i64 t.z.t.d, .int .i64 t.z.t.h, .int .i64 t.days, .int .i64 t.gap, .int .i64 t.first, .int .i64 t.last, .string t.h0, .string t.h1, .string t.h2, .string t.h3, .int .i64 t.b0.x, .int .i64 t.b0.y, .int .i64 t.b0.z, .int .i64 t.b1.x, .int .i64 t.b1.y, .int .i64 t.b1.z, .int .i64 t.b2.x, .int .i64 t.b2.y, .int .i64 t.b2.z, .int .i64 t.d.x, .int .i64 t.d.y, .int .i64 t.d.z, .int .i64 t.np, .int .i64 t.nn, .int .i64 t.fix, .int .i64 t.min, .int .i64 t.tax] 38)).heap[w.heap.size]? = some (.cells #[.int .i64 t.z.off, .int .i64 t.z.f.m, .int .i64 t.z.f.w, .int .i64 t.z.f.d, .int .i64 t.z.f.h, .int .i64 t.z.t.m, .int .i64 t.z.t.w, .int .i64 t.z.t.d, .int .i64 t.z.t.h, .int .i64 t.days, .int .i64 t.gap, .int .i64 t.first, .int .i64 t.last, .string t.h0, .string t.h1, .string t.h2, .string t.h3, .int .i64 t.b0.x, .int .i64 t.b0.y, .int .i64 t.b0.z, .int .i64 t.b1.x, .int .i64 t.b1.y, .int .i64 t.b1.z, .int .i64 t.b2.x, .int .i64 t.b2.y, .int .i64 t.b2.z, .int .i64 t.d.x, .int .i64 t.d.y, .int .i64 t.d.z, .int .i64 t.np, .int .i64 t.nn, .int .i64 t.fix, .int .i64 t.min, .int .i64 t.tax] 38) := heap_alloc_new _ _
  clear ht hm hx hg s0 s1 s2 s3
  go_enter Tryd.func5, Tryd.ntmps5
  go_wp2_with (first
    | (go_at_call 18; refine (rx _).mono ?_; rintro e wx ⟨rfl, hbx⟩; have BX := below_then B3 hbx)
    | (with_reducible show wpList _ _ _ _ _ (World.alloc wx _); refine wpList_store_row rfl 38 _ _ rfl wx.heap.size #[.int .i64 y.z.off, .int .i64 y.z.f.m, .int .i64 y.z.f.w, .int .i64 y.z.f.d, .int .i64 y.z.f.h, .int .i64 y.z.t.m, .int .i64 y.z.t.w, .int .i64 y.z.t.d, .int .i64 y.z.t.h, .int .i64 y.days, .int .i64 y.gap, .int .i64 y.first, .int .i64 y.last, .string y.h0, .string y.h1, .string y.h2, .string y.h3, .int .i64 y.b0.x, .int .i64 y.b0.y, .int .i64 y.b0.z, .int .i64 y.b1.x, .int .i64 y.b1.y, .int .i64 y.b1.z, .int .i64 y.b2.x, .int .i64 y.b2.y, .int .i64 y.b2.z, .int .i64 y.d.x, .int .i64 y.d.y, .int .i64 y.d.z, .int .i64 y.np, .int .i64 y.nn, .int .i64 y.fix, .int .i64 y.min, .int .i64 y.tax] rfl rfl 38 _ (heap_alloc_new wx _) (td_info y) (td_size y) (td_one y) ?_)
    | (go_at_call 15; refine (num_any _ _).mono ?_; rintro e wn ⟨rfl, h7⟩; have h8 := h7.symm; subst h8)
    | (refine wpList_load_row rfl 38 _ rfl wx.heap.size rfl 38 _ (0, 0) _ (setRow_heap _ _ _ _ _ _ (heap_alloc_new wx _)) Tryd.underlying38 rfl (by kernel_rfl) ?_)
    | (go_at_call 8; refine (px _ (below_setRow (below_more BX _) BX.size _)).mono ?_; rintro e wp ⟨rfl, hbp⟩)
    | (with_reducible show wpList _ _ _ _ _ (w.alloc (.cells #[.int .i64 t.z.off, .int .i64 t.z.f.m, .int .i64 t.z.f.w, .int .i64 t.z.f.d, .int .i64 t.z.f.h, .int .i64 t.z.t.m, .int .i64 t.z.t.w, .int .i64 t.z.t.d, .int .i64 t.z.t.h, .int .i64 t.days, .int .i64 t.gap, .int .i64 t.first, .int .i64 t.last, .string t.h0, .string t.h1, .string t.h2, .string t.h3, .int .i64 t.b0.x, .int .i64 t.b0.y, .int .i64 t.b0.z, .int .i64 t.b1.x, .int .i64 t.b1.y, .int .i64 t.b1.z, .int .i64 t.b2.x, .int .i64 t.b2.y, .int .i64 t.b2.z, .int .i64 t.d.x, .int .i64 t.d.y, .int .i64 t.d.z, .int .i64 t.np, .int .i64 t.nn, .int .i64 t.fix, .int .i64 t.min, .int .i64 t.tax] 38)); refine wpList_load_row rfl 38 _ rfl w.heap.size rfl 38 _ (0, 0) _ MT Tryd.underlying38 rfl (by kernel_rfl) ?_)
    | (with_reducible show wpList _ _ _ _ _ w2; refine wpList_load_row rfl 38 _ rfl w.heap.size rfl 38 _ (0, 0) _ MT2 Tryd.underlying38 rfl (by kernel_rfl) ?_)
    | (go_at_call 12; refine (tf _).mono ?_; rintro e w1 ⟨rfl, hb1⟩; have Z1 : w.heap.size < w1.heap.size := (by have := hb1.size; first | omega | (simp at this; omega)); have MT1 : w1.heap[w.heap.size]? = some (.cells #[.int .i64 t.z.off, .int .i64 t.z.f.m, .int .i64 t.z.f.w, .int .i64 t.z.f.d, .int .i64 t.z.f.h, .int .i64 t.z.t.m, .int .i64 t.z.t.w, .int .i64 t.z.t.d, .int .i64 t.z.t.h, .int .i64 t.days, .int .i64 t.gap, .int .i64 t.first, .int .i64 t.last, .string t.h0, .string t.h1, .string t.h2, .string t.h3, .int .i64 t.b0.x, .int .i64 t.b0.y, .int .i64 t.b0.z, .int .i64 t.b1.x, .int .i64 t.b1.y, .int .i64 t.b1.z, .int .i64 t.b2.x, .int .i64 t.b2.y, .int .i64 t.b2.z, .int .i64 t.d.x, .int .i64 t.d.y, .int .i64 t.d.z, .int .i64 t.np, .int .i64 t.nn, .int .i64 t.fix, .int .i64 t.min, .int .i64 t.tax] 38) := (hb1.block w.heap.size (by first | omega | (simp; done) | (simp; omega))).trans MT; have B1 := below_then B0 hb1)
    | (go_at_call 17; refine (gm _).mono ?_; rintro e w2 ⟨rfl, hb2⟩; have Z2 : w.heap.size < w2.heap.size := (by have := hb2.size; first | omega | (simp at this; omega)); have MT2 : w2.heap[w.heap.size]? = some (.cells #[.int .i64 t.z.off, .int .i64 t.z.f.m, .int .i64 t.z.f.w, .int .i64 t.z.f.d, .int .i64 t.z.f.h, .int .i64 t.z.t.m, .int .i64 t.z.t.w, .int .i64 t.z.t.d, .int .i64 t.z.t.h, .int .i64 t.days, .int .i64 t.gap, .int .i64 t.first, .int .i64 t.last, .string t.h0, .string t.h1, .string t.h2, .string t.h3, .int .i64 t.b0.x, .int .i64 t.b0.y, .int .i64 t.b0.z, .int .i64 t.b1.x, .int .i64 t.b1.y, .int .i64 t.b1.z, .int .i64 t.b2.x, .int .i64 t.b2.y, .int .i64 t.b2.z, .int .i64 t.d.x, .int .i64 t.d.y, .int .i64 t.d.z, .int .i64 t.np, .int .i64 t.nn, .int .i64 t.fix, .int .i64 t.min, .int .i64 t.tax] 38) := (hb2.block w.heap.size (by first | omega | (simp; done) | (simp; omega))).trans MT1; have B2 := below_then B1 hb2)
    | (go_at_call 8; refine (pm _ B2).mono ?_; rintro e w3 ⟨rfl, hb3⟩; have Z3 : w.heap.size < w3.heap.size := (by have := hb3.size; first | omega | (simp at this; omega)); have MT3 : w3.heap[w.heap.size]? = some (.cells #[.int .i64 t.z.off, .int .i64 t.z.f.m, .int .i64 t.z.f.w, .int .i64 t.z.f.d, .int .i64 t.z.f.h, .int .i64 t.z.t.m, .int .i64 t.z.t.w, .int .i64 t.z.t.d, .int .i64 t.z.t.h, .int .i64 t.days, .int .i64 t.gap, .int .i64 t.first, .int .i64 t.last, .string t.h0, .string t.h1, .string t.h2, .string t.h3, .int .i64 t.b0.x, .int .i64 t.b0.y, .int .i64 t.b0.z, .int .i64 t.b1.x, .int .i64 t.b1.y, .int .i64 t.b1.z, .int .i64 t.b2.x, .int .i64 t.b2.y, .int .i64 t.b2.z, .int .i64 t.d.x, .int .i64 t.d.y, .int .i64 t.d.z, .int .i64 t.np, .int .i64 t.nn, .int .i64 t.fix, .int .i64 t.min, .int .i64 t.tax] 38) := (hb3.block w.heap.size (by first | omega | (simp; done) | (simp; omega))).trans MT2; have B3 := below_then B2 hb3))
  go_ret
  exact ⟨rfl, below_then (below_setRow (below_more BX _) BX.size _) hbp⟩
set_option maxRecDepth 1000000 in
set_option maxHeartbeats 2000000 in
theorem walk_in (t : Trf) (x : ByteArray) (w : World) (ht : TB w) (s0 : t.h0.size ≤ maxLen) (s1 : t.h1.size ≤ maxLen) (s2 : t.h2.size ≤ maxLen) (s3 : t.h3.size ≤ maxLen) (hx : x.size ≤ maxLen) (hm : badN t < 13) (hz : ¬ rtE x (rdT x (hrP x)) = 0) :
    Calls Tryd.prog 5 #[.agg #[.int .i64 t.z.off, .int .i64 t.z.f.m, .int .i64 t.z.f.w, .int .i64 t.z.f.d, .int .i64 t.z.f.h, .int .i64 t.z.t.m, .int .i64 t.z.t.w, .int .i64 t.z.t.d, .int .i64 t.z.t.h, .int .i64 t.days, .int .i64 t.gap, .int .i64 t.first, .int .i64 t.last, .string t.h0, .string t.h1, .string t.h2, .string t.h3, .int .i64 t.b0.x, .int .i64 t.b0.y, .int .i64 t.b0.z, .int .i64 t.b1.x, .int .i64 t.b1.y, .int .i64 t.b1.z, .int .i64 t.b2.x, .int .i64 t.b2.y, .int .i64 t.b2.z, .int .i64 t.d.x, .int .i64 t.d.y, .int .i64 t.d.z, .int .i64 t.np, .int .i64 t.nn, .int .i64 t.fix, .int .i64 t.min, .int .i64 t.tax], .string x] w fun e w' => e = .returned (.bool true) ∧ Below w.heap.size w w' := by
  have tf := fun w1 => tariff_any t w1
  have gm := fun w1 => GoodTariff_any t w1 s0 s1 s2 s3
  have pm := fun w1 (hb : Below w.heap.size w w1) => PrintTariff_any t w1 (ht.below hb) s0 s1 s2 s3
  have hg : goodB t = false := by unfold goodB; simp; omega
  rw [hg] at gm
  rw [if_pos (by omega)] at pm
  obtain ⟨xp, hp⟩ : ∃ z, z = rdT x (hrP x) := ⟨_, rfl⟩
  obtain ⟨y, hy⟩ : ∃ y, y = rtV x xp := ⟨_, rfl⟩
  have rx := fun w1 => ReadTariff_any x xp hp y hy w1 hx
  obtain ⟨q0, q1⟩ := rtA_bd x xp hp
  obtain ⟨E, hE⟩ : ∃ E, E = rtE x xp := ⟨_, rfl⟩
  obtain ⟨A, hA⟩ : ∃ A, A = rtA x xp := ⟨_, rfl⟩
  rw [← hE, ← hA] at rx
  rw [← hA] at q0 q1
  have hEB : (E != 0) = true := by
    have : ¬ E = 0 := by rw [hE, hp]; exact hz
    simpa using this
  clear hE hA hy hp hz
  have hx' : (x.size : Int) ≤ 9223372036854775807 := by unfold maxLen at hx; omega
  have B0 : Below w.heap.size w (w.alloc (.cells #[.int .i64 t.z.off, .int .i64 t.z.f.m, .int .i64 t.z.f.w, .int .i64 t.z.f.d, .int .i64 t.z.f.h, .int .i64 t.z.t.m, .int .i64 t.z.t.w, .int .i64 t.z.t.d, .int .i64 t.z.t.h, .int .i64 t.days, .int .i64 t.gap, .int .i64 t.first, .int .i64 t.last, .string t.h0, .string t.h1, .string t.h2, .string t.h3, .int .i64 t.b0.x, .int .i64 t.b0.y, .int .i64 t.b0.z, .int .i64 t.b1.x, .int .i64 t.b1.y, .int .i64 t.b1.z, .int .i64 t.b2.x, .int .i64 t.b2.y, .int .i64 t.b2.z, .int .i64 t.d.x, .int .i64 t.d.y, .int .i64 t.d.z, .int .i64 t.np, .int .i64 t.nn, .int .i64 t.fix, .int .i64 t.min, .int .i64 t.tax] 38)) := below_more (Below.refl _ _) _
  have MT : (w.alloc (.cells #[.int .i64 t.z.off, .int .i64 t.z.f.m, .int .i64 t.z.f.w, .int .i64 t.z.f.d, .int .i64 t.z.f.h, .int .i64 t.z.t.m, .int .i64 t.z.t.w, .int .i64 t.z.t.d, .int .i64 t.z.t.h, .int .i64 t.days, .int .i64 t.gap, .int .i64 t.first, .int .i64 t.last, .string t.h0, .string t.h1, .string t.h2, .string t.h3, .int .i64 t.b0.x, .int .i64 t.b0.y, .int .i64 t.b0.z, .int .i64 t.b1.x, .int .i64 t.b1.y, .int .i64 t.b1.z, .int .i64 t.b2.x, .int .i64 t.b2.y, .int .i64 t.b2.z, .int .i64 t.d.x, .int .i64 t.d.y, .int .i64 t.d.z, .int .i64 t.np, .int .i64 t.nn, .int .i64 t.fix, .int .i64 t.min, .int .i64 t.tax] 38)).heap[w.heap.size]? = some (.cells #[.int .i64 t.z.off, .int .i64 t.z.f.m, .int .i64 t.z.f.w, .int .i64 t.z.f.d, .int .i64 t.z.f.h, .int .i64 t.z.t.m, .int .i64 t.z.t.w, .int .i64 t.z.t.d, .int .i64 t.z.t.h, .int .i64 t.days, .int .i64 t.gap, .int .i64 t.first, .int .i64 t.last, .string t.h0, .string t.h1, .string t.h2, .string t.h3, .int .i64 t.b0.x, .int .i64 t.b0.y, .int .i64 t.b0.z, .int .i64 t.b1.x, .int .i64 t.b1.y, .int .i64 t.b1.z, .int .i64 t.b2.x, .int .i64 t.b2.y, .int .i64 t.b2.z, .int .i64 t.d.x, .int .i64 t.d.y, .int .i64 t.d.z, .int .i64 t.np, .int .i64 t.nn, .int .i64 t.fix, .int .i64 t.min, .int .i64 t.tax] 38) := heap_alloc_new _ _
  clear ht hm hx hg s0 s1 s2 s3
  go_enter Tryd.func5, Tryd.ntmps5
  go_wp2_with (first
    | (go_at_call 18; refine (rx _).mono ?_; rintro e wx ⟨rfl, hbx⟩; have BX := below_then B3 hbx)
    | (with_reducible show wpList _ _ _ _ _ (World.alloc wx _); refine wpList_store_row rfl 38 _ _ rfl wx.heap.size #[.int .i64 y.z.off, .int .i64 y.z.f.m, .int .i64 y.z.f.w, .int .i64 y.z.f.d, .int .i64 y.z.f.h, .int .i64 y.z.t.m, .int .i64 y.z.t.w, .int .i64 y.z.t.d, .int .i64 y.z.t.h, .int .i64 y.days, .int .i64 y.gap, .int .i64 y.first, .int .i64 y.last, .string y.h0, .string y.h1, .string y.h2, .string y.h3, .int .i64 y.b0.x, .int .i64 y.b0.y, .int .i64 y.b0.z, .int .i64 y.b1.x, .int .i64 y.b1.y, .int .i64 y.b1.z, .int .i64 y.b2.x, .int .i64 y.b2.y, .int .i64 y.b2.z, .int .i64 y.d.x, .int .i64 y.d.y, .int .i64 y.d.z, .int .i64 y.np, .int .i64 y.nn, .int .i64 y.fix, .int .i64 y.min, .int .i64 y.tax] rfl rfl 38 _ (heap_alloc_new wx _) (td_info y) (td_size y) (td_one y) ?_)
    | (go_at_call 15; refine (num_any _ _).mono ?_; rintro e wn ⟨rfl, h7⟩; have h8 := h7.symm; subst h8)
    | (with_reducible show wpList _ _ _ _ _ (w.alloc (.cells #[.int .i64 t.z.off, .int .i64 t.z.f.m, .int .i64 t.z.f.w, .int .i64 t.z.f.d, .int .i64 t.z.f.h, .int .i64 t.z.t.m, .int .i64 t.z.t.w, .int .i64 t.z.t.d, .int .i64 t.z.t.h, .int .i64 t.days, .int .i64 t.gap, .int .i64 t.first, .int .i64 t.last, .string t.h0, .string t.h1, .string t.h2, .string t.h3, .int .i64 t.b0.x, .int .i64 t.b0.y, .int .i64 t.b0.z, .int .i64 t.b1.x, .int .i64 t.b1.y, .int .i64 t.b1.z, .int .i64 t.b2.x, .int .i64 t.b2.y, .int .i64 t.b2.z, .int .i64 t.d.x, .int .i64 t.d.y, .int .i64 t.d.z, .int .i64 t.np, .int .i64 t.nn, .int .i64 t.fix, .int .i64 t.min, .int .i64 t.tax] 38)); refine wpList_load_row rfl 38 _ rfl w.heap.size rfl 38 _ (0, 0) _ MT Tryd.underlying38 rfl (by kernel_rfl) ?_)
    | (with_reducible show wpList _ _ _ _ _ w2; refine wpList_load_row rfl 38 _ rfl w.heap.size rfl 38 _ (0, 0) _ MT2 Tryd.underlying38 rfl (by kernel_rfl) ?_)
    | (go_at_call 12; refine (tf _).mono ?_; rintro e w1 ⟨rfl, hb1⟩; have Z1 : w.heap.size < w1.heap.size := (by have := hb1.size; first | omega | (simp at this; omega)); have MT1 : w1.heap[w.heap.size]? = some (.cells #[.int .i64 t.z.off, .int .i64 t.z.f.m, .int .i64 t.z.f.w, .int .i64 t.z.f.d, .int .i64 t.z.f.h, .int .i64 t.z.t.m, .int .i64 t.z.t.w, .int .i64 t.z.t.d, .int .i64 t.z.t.h, .int .i64 t.days, .int .i64 t.gap, .int .i64 t.first, .int .i64 t.last, .string t.h0, .string t.h1, .string t.h2, .string t.h3, .int .i64 t.b0.x, .int .i64 t.b0.y, .int .i64 t.b0.z, .int .i64 t.b1.x, .int .i64 t.b1.y, .int .i64 t.b1.z, .int .i64 t.b2.x, .int .i64 t.b2.y, .int .i64 t.b2.z, .int .i64 t.d.x, .int .i64 t.d.y, .int .i64 t.d.z, .int .i64 t.np, .int .i64 t.nn, .int .i64 t.fix, .int .i64 t.min, .int .i64 t.tax] 38) := (hb1.block w.heap.size (by first | omega | (simp; done) | (simp; omega))).trans MT; have B1 := below_then B0 hb1)
    | (go_at_call 17; refine (gm _).mono ?_; rintro e w2 ⟨rfl, hb2⟩; have Z2 : w.heap.size < w2.heap.size := (by have := hb2.size; first | omega | (simp at this; omega)); have MT2 : w2.heap[w.heap.size]? = some (.cells #[.int .i64 t.z.off, .int .i64 t.z.f.m, .int .i64 t.z.f.w, .int .i64 t.z.f.d, .int .i64 t.z.f.h, .int .i64 t.z.t.m, .int .i64 t.z.t.w, .int .i64 t.z.t.d, .int .i64 t.z.t.h, .int .i64 t.days, .int .i64 t.gap, .int .i64 t.first, .int .i64 t.last, .string t.h0, .string t.h1, .string t.h2, .string t.h3, .int .i64 t.b0.x, .int .i64 t.b0.y, .int .i64 t.b0.z, .int .i64 t.b1.x, .int .i64 t.b1.y, .int .i64 t.b1.z, .int .i64 t.b2.x, .int .i64 t.b2.y, .int .i64 t.b2.z, .int .i64 t.d.x, .int .i64 t.d.y, .int .i64 t.d.z, .int .i64 t.np, .int .i64 t.nn, .int .i64 t.fix, .int .i64 t.min, .int .i64 t.tax] 38) := (hb2.block w.heap.size (by first | omega | (simp; done) | (simp; omega))).trans MT1; have B2 := below_then B1 hb2)
    | (go_at_call 8; refine (pm _ B2).mono ?_; rintro e w3 ⟨rfl, hb3⟩; have Z3 : w.heap.size < w3.heap.size := (by have := hb3.size; first | omega | (simp at this; omega)); have MT3 : w3.heap[w.heap.size]? = some (.cells #[.int .i64 t.z.off, .int .i64 t.z.f.m, .int .i64 t.z.f.w, .int .i64 t.z.f.d, .int .i64 t.z.f.h, .int .i64 t.z.t.m, .int .i64 t.z.t.w, .int .i64 t.z.t.d, .int .i64 t.z.t.h, .int .i64 t.days, .int .i64 t.gap, .int .i64 t.first, .int .i64 t.last, .string t.h0, .string t.h1, .string t.h2, .string t.h3, .int .i64 t.b0.x, .int .i64 t.b0.y, .int .i64 t.b0.z, .int .i64 t.b1.x, .int .i64 t.b1.y, .int .i64 t.b1.z, .int .i64 t.b2.x, .int .i64 t.b2.y, .int .i64 t.b2.z, .int .i64 t.d.x, .int .i64 t.d.y, .int .i64 t.d.z, .int .i64 t.np, .int .i64 t.nn, .int .i64 t.fix, .int .i64 t.min, .int .i64 t.tax] 38) := (hb3.block w.heap.size (by first | omega | (simp; done) | (simp; omega))).trans MT2; have B3 := below_then B2 hb3))
  go_ret
  exact ⟨rfl, below_setRow (below_more BX _) BX.size _⟩
set_option maxRecDepth 1000000 in
set_option maxHeartbeats 2000000 in
theorem walk_vo (t : Trf) (x : ByteArray) (w : World) (ht : TB w) (s0 : t.h0.size ≤ maxLen) (s1 : t.h1.size ≤ maxLen) (s2 : t.h2.size ≤ maxLen) (s3 : t.h3.size ≤ maxLen) (hx : x.size ≤ maxLen) (hm : badN t = 13) (hz : rtE x (rdT x (hrP x)) = 0) :
    Calls Tryd.prog 5 #[.agg #[.int .i64 t.z.off, .int .i64 t.z.f.m, .int .i64 t.z.f.w, .int .i64 t.z.f.d, .int .i64 t.z.f.h, .int .i64 t.z.t.m, .int .i64 t.z.t.w, .int .i64 t.z.t.d, .int .i64 t.z.t.h, .int .i64 t.days, .int .i64 t.gap, .int .i64 t.first, .int .i64 t.last, .string t.h0, .string t.h1, .string t.h2, .string t.h3, .int .i64 t.b0.x, .int .i64 t.b0.y, .int .i64 t.b0.z, .int .i64 t.b1.x, .int .i64 t.b1.y, .int .i64 t.b1.z, .int .i64 t.b2.x, .int .i64 t.b2.y, .int .i64 t.b2.z, .int .i64 t.d.x, .int .i64 t.d.y, .int .i64 t.d.z, .int .i64 t.np, .int .i64 t.nn, .int .i64 t.fix, .int .i64 t.min, .int .i64 t.tax], .string x] w fun e w' => e = .returned (.bool true) ∧ Below w.heap.size w w' := by
  have tf := fun w1 => tariff_any t w1
  have gm := fun w1 => GoodTariff_any t w1 s0 s1 s2 s3
  have pm := fun w1 (hb : Below w.heap.size w w1) => PrintTariff_any t w1 (ht.below hb) s0 s1 s2 s3
  have hg : goodB t = true := by unfold goodB; simp; omega
  rw [hg] at gm
  rw [if_neg (by omega)] at pm
  obtain ⟨f1, f2, f3⟩ := tariff_forth hm
  have rs := fun w1 => ReadTariff_any (tP t) t f1.symm t (by unfold rtV; rw [if_pos f2]) w1 (by unfold maxLen; omega)
  rw [f2] at rs
  have sm := fun w1 => tariffs.sameTariff_any t w1 s0 s1 s2 s3
  obtain ⟨S, hS⟩ : ∃ S, S = tP t := ⟨_, rfl⟩
  obtain ⟨C, hC⟩ : ∃ C, C = rtA (tP t) t := ⟨_, rfl⟩
  rw [← hC] at rs
  rw [← hS] at pm rs
  clear f1 f2 f3 hS hC
  obtain ⟨xp, hp⟩ : ∃ z, z = rdT x (hrP x) := ⟨_, rfl⟩
  obtain ⟨y, hy⟩ : ∃ y, y = rtV x xp := ⟨_, rfl⟩
  have rx := fun w1 => ReadTariff_any x xp hp y hy w1 hx
  have hz' : rtE x xp = 0 := by rw [hp]; exact hz
  rw [hz'] at rx
  obtain ⟨bk, bn⟩ := tariff_back hz
  obtain ⟨z0, z1, z2, z3⟩ := tariffs.y_sizes x xp y hp hy
  have px := fun w1 (hb : Below w.heap.size w w1) => PrintTariff_any y w1 (ht.below hb) z0 z1 z2 z3
  have ey : y = rdT x (hrP x) := by rw [hy]; unfold rtV; rw [if_pos hz']; exact hp
  rw [if_neg (by rw [ey]; exact bn), show tP y = x by rw [ey]; exact bk.symm] at px
  have hpos : 0 < x.size := by rw [bk]; exact tP_pos _
  have hpos' : (0 : Int) < (x.size : Int) := by omega
  obtain ⟨A, hA⟩ : ∃ A, A = rtA x xp := ⟨_, rfl⟩
  rw [← hA] at rx
  clear hA hy hp hz hz' bk bn z0 z1 z2 z3 ey
  have hx' : (x.size : Int) ≤ 9223372036854775807 := by unfold maxLen at hx; omega
  have B0 : Below w.heap.size w (w.alloc (.cells #[.int .i64 t.z.off, .int .i64 t.z.f.m, .int .i64 t.z.f.w, .int .i64 t.z.f.d, .int .i64 t.z.f.h, .int .i64 t.z.t.m, .int .i64 t.z.t.w, .int .i64 t.z.t.d, .int .i64 t.z.t.h, .int .i64 t.days, .int .i64 t.gap, .int .i64 t.first, .int .i64 t.last, .string t.h0, .string t.h1, .string t.h2, .string t.h3, .int .i64 t.b0.x, .int .i64 t.b0.y, .int .i64 t.b0.z, .int .i64 t.b1.x, .int .i64 t.b1.y, .int .i64 t.b1.z, .int .i64 t.b2.x, .int .i64 t.b2.y, .int .i64 t.b2.z, .int .i64 t.d.x, .int .i64 t.d.y, .int .i64 t.d.z, .int .i64 t.np, .int .i64 t.nn, .int .i64 t.fix, .int .i64 t.min, .int .i64 t.tax] 38)) := below_more (Below.refl _ _) _
  have MT : (w.alloc (.cells #[.int .i64 t.z.off, .int .i64 t.z.f.m, .int .i64 t.z.f.w, .int .i64 t.z.f.d, .int .i64 t.z.f.h, .int .i64 t.z.t.m, .int .i64 t.z.t.w, .int .i64 t.z.t.d, .int .i64 t.z.t.h, .int .i64 t.days, .int .i64 t.gap, .int .i64 t.first, .int .i64 t.last, .string t.h0, .string t.h1, .string t.h2, .string t.h3, .int .i64 t.b0.x, .int .i64 t.b0.y, .int .i64 t.b0.z, .int .i64 t.b1.x, .int .i64 t.b1.y, .int .i64 t.b1.z, .int .i64 t.b2.x, .int .i64 t.b2.y, .int .i64 t.b2.z, .int .i64 t.d.x, .int .i64 t.d.y, .int .i64 t.d.z, .int .i64 t.np, .int .i64 t.nn, .int .i64 t.fix, .int .i64 t.min, .int .i64 t.tax] 38)).heap[w.heap.size]? = some (.cells #[.int .i64 t.z.off, .int .i64 t.z.f.m, .int .i64 t.z.f.w, .int .i64 t.z.f.d, .int .i64 t.z.f.h, .int .i64 t.z.t.m, .int .i64 t.z.t.w, .int .i64 t.z.t.d, .int .i64 t.z.t.h, .int .i64 t.days, .int .i64 t.gap, .int .i64 t.first, .int .i64 t.last, .string t.h0, .string t.h1, .string t.h2, .string t.h3, .int .i64 t.b0.x, .int .i64 t.b0.y, .int .i64 t.b0.z, .int .i64 t.b1.x, .int .i64 t.b1.y, .int .i64 t.b1.z, .int .i64 t.b2.x, .int .i64 t.b2.y, .int .i64 t.b2.z, .int .i64 t.d.x, .int .i64 t.d.y, .int .i64 t.d.z, .int .i64 t.np, .int .i64 t.nn, .int .i64 t.fix, .int .i64 t.min, .int .i64 t.tax] 38) := heap_alloc_new _ _
  clear ht hm hx hg s0 s1 s2 s3
  go_enter Tryd.func5, Tryd.ntmps5
  go_wp2_with (first
    | (with_reducible show wpList _ _ _ _ _ (World.alloc w4 _); refine wpList_store_row rfl 38 _ _ rfl w4.heap.size #[.int .i64 t.z.off, .int .i64 t.z.f.m, .int .i64 t.z.f.w, .int .i64 t.z.f.d, .int .i64 t.z.f.h, .int .i64 t.z.t.m, .int .i64 t.z.t.w, .int .i64 t.z.t.d, .int .i64 t.z.t.h, .int .i64 t.days, .int .i64 t.gap, .int .i64 t.first, .int .i64 t.last, .string t.h0, .string t.h1, .string t.h2, .string t.h3, .int .i64 t.b0.x, .int .i64 t.b0.y, .int .i64 t.b0.z, .int .i64 t.b1.x, .int .i64 t.b1.y, .int .i64 t.b1.z, .int .i64 t.b2.x, .int .i64 t.b2.y, .int .i64 t.b2.z, .int .i64 t.d.x, .int .i64 t.d.y, .int .i64 t.d.z, .int .i64 t.np, .int .i64 t.nn, .int .i64 t.fix, .int .i64 t.min, .int .i64 t.tax] rfl rfl 38 _ (heap_alloc_new w4 _) (td_info t) (td_size t) (td_one t) ?_)
    | (go_at_call 18; refine (rs _).mono ?_; rintro e w4 ⟨rfl, hb4⟩; have Z4 : w.heap.size < w4.heap.size := (by have := hb4.size; first | omega | (simp at this; omega)); have MT4 : w4.heap[w.heap.size]? = some (.cells #[.int .i64 t.z.off, .int .i64 t.z.f.m, .int .i64 t.z.f.w, .int .i64 t.z.f.d, .int .i64 t.z.f.h, .int .i64 t.z.t.m, .int .i64 t.z.t.w, .int .i64 t.z.t.d, .int .i64 t.z.t.h, .int .i64 t.days, .int .i64 t.gap, .int .i64 t.first, .int .i64 t.last, .string t.h0, .string t.h1, .string t.h2, .string t.h3, .int .i64 t.b0.x, .int .i64 t.b0.y, .int .i64 t.b0.z, .int .i64 t.b1.x, .int .i64 t.b1.y, .int .i64 t.b1.z, .int .i64 t.b2.x, .int .i64 t.b2.y, .int .i64 t.b2.z, .int .i64 t.d.x, .int .i64 t.d.y, .int .i64 t.d.z, .int .i64 t.np, .int .i64 t.nn, .int .i64 t.fix, .int .i64 t.min, .int .i64 t.tax] 38) := (hb4.block w.heap.size (by first | omega | (simp; done) | (simp; omega))).trans MT3; have B4 := below_then B3 hb4)
    | (with_reducible show wpList _ _ _ _ _ (w.alloc (.cells #[.int .i64 t.z.off, .int .i64 t.z.f.m, .int .i64 t.z.f.w, .int .i64 t.z.f.d, .int .i64 t.z.f.h, .int .i64 t.z.t.m, .int .i64 t.z.t.w, .int .i64 t.z.t.d, .int .i64 t.z.t.h, .int .i64 t.days, .int .i64 t.gap, .int .i64 t.first, .int .i64 t.last, .string t.h0, .string t.h1, .string t.h2, .string t.h3, .int .i64 t.b0.x, .int .i64 t.b0.y, .int .i64 t.b0.z, .int .i64 t.b1.x, .int .i64 t.b1.y, .int .i64 t.b1.z, .int .i64 t.b2.x, .int .i64 t.b2.y, .int .i64 t.b2.z, .int .i64 t.d.x, .int .i64 t.d.y, .int .i64 t.d.z, .int .i64 t.np, .int .i64 t.nn, .int .i64 t.fix, .int .i64 t.min, .int .i64 t.tax] 38)); refine wpList_load_row rfl 38 _ rfl w.heap.size rfl 38 _ (0, 0) _ MT Tryd.underlying38 rfl (by kernel_rfl) ?_)
    | (with_reducible show wpList _ _ _ _ _ w2; refine wpList_load_row rfl 38 _ rfl w.heap.size rfl 38 _ (0, 0) _ MT2 Tryd.underlying38 rfl (by kernel_rfl) ?_)
    | (go_at_call 12; refine (tf _).mono ?_; rintro e w1 ⟨rfl, hb1⟩; have Z1 : w.heap.size < w1.heap.size := (by have := hb1.size; first | omega | (simp at this; omega)); have MT1 : w1.heap[w.heap.size]? = some (.cells #[.int .i64 t.z.off, .int .i64 t.z.f.m, .int .i64 t.z.f.w, .int .i64 t.z.f.d, .int .i64 t.z.f.h, .int .i64 t.z.t.m, .int .i64 t.z.t.w, .int .i64 t.z.t.d, .int .i64 t.z.t.h, .int .i64 t.days, .int .i64 t.gap, .int .i64 t.first, .int .i64 t.last, .string t.h0, .string t.h1, .string t.h2, .string t.h3, .int .i64 t.b0.x, .int .i64 t.b0.y, .int .i64 t.b0.z, .int .i64 t.b1.x, .int .i64 t.b1.y, .int .i64 t.b1.z, .int .i64 t.b2.x, .int .i64 t.b2.y, .int .i64 t.b2.z, .int .i64 t.d.x, .int .i64 t.d.y, .int .i64 t.d.z, .int .i64 t.np, .int .i64 t.nn, .int .i64 t.fix, .int .i64 t.min, .int .i64 t.tax] 38) := (hb1.block w.heap.size (by first | omega | (simp; done) | (simp; omega))).trans MT; have B1 := below_then B0 hb1)
    | (go_at_call 17; refine (gm _).mono ?_; rintro e w2 ⟨rfl, hb2⟩; have Z2 : w.heap.size < w2.heap.size := (by have := hb2.size; first | omega | (simp at this; omega)); have MT2 : w2.heap[w.heap.size]? = some (.cells #[.int .i64 t.z.off, .int .i64 t.z.f.m, .int .i64 t.z.f.w, .int .i64 t.z.f.d, .int .i64 t.z.f.h, .int .i64 t.z.t.m, .int .i64 t.z.t.w, .int .i64 t.z.t.d, .int .i64 t.z.t.h, .int .i64 t.days, .int .i64 t.gap, .int .i64 t.first, .int .i64 t.last, .string t.h0, .string t.h1, .string t.h2, .string t.h3, .int .i64 t.b0.x, .int .i64 t.b0.y, .int .i64 t.b0.z, .int .i64 t.b1.x, .int .i64 t.b1.y, .int .i64 t.b1.z, .int .i64 t.b2.x, .int .i64 t.b2.y, .int .i64 t.b2.z, .int .i64 t.d.x, .int .i64 t.d.y, .int .i64 t.d.z, .int .i64 t.np, .int .i64 t.nn, .int .i64 t.fix, .int .i64 t.min, .int .i64 t.tax] 38) := (hb2.block w.heap.size (by first | omega | (simp; done) | (simp; omega))).trans MT1; have B2 := below_then B1 hb2)
    | (go_at_call 8; refine (pm _ B2).mono ?_; rintro e w3 ⟨rfl, hb3⟩; have Z3 : w.heap.size < w3.heap.size := (by have := hb3.size; first | omega | (simp at this; omega)); have MT3 : w3.heap[w.heap.size]? = some (.cells #[.int .i64 t.z.off, .int .i64 t.z.f.m, .int .i64 t.z.f.w, .int .i64 t.z.f.d, .int .i64 t.z.f.h, .int .i64 t.z.t.m, .int .i64 t.z.t.w, .int .i64 t.z.t.d, .int .i64 t.z.t.h, .int .i64 t.days, .int .i64 t.gap, .int .i64 t.first, .int .i64 t.last, .string t.h0, .string t.h1, .string t.h2, .string t.h3, .int .i64 t.b0.x, .int .i64 t.b0.y, .int .i64 t.b0.z, .int .i64 t.b1.x, .int .i64 t.b1.y, .int .i64 t.b1.z, .int .i64 t.b2.x, .int .i64 t.b2.y, .int .i64 t.b2.z, .int .i64 t.d.x, .int .i64 t.d.y, .int .i64 t.d.z, .int .i64 t.np, .int .i64 t.nn, .int .i64 t.fix, .int .i64 t.min, .int .i64 t.tax] 38) := (hb3.block w.heap.size (by first | omega | (simp; done) | (simp; omega))).trans MT2; have B3 := below_then B2 hb3))
  refine wp_world (fun w5 hw5 => ?_)
  have R5 : w5.heap[w4.heap.size]? = some (.cells #[.int .i64 t.z.off, .int .i64 t.z.f.m, .int .i64 t.z.f.w, .int .i64 t.z.f.d, .int .i64 t.z.f.h, .int .i64 t.z.t.m, .int .i64 t.z.t.w, .int .i64 t.z.t.d, .int .i64 t.z.t.h, .int .i64 t.days, .int .i64 t.gap, .int .i64 t.first, .int .i64 t.last, .string t.h0, .string t.h1, .string t.h2, .string t.h3, .int .i64 t.b0.x, .int .i64 t.b0.y, .int .i64 t.b0.z, .int .i64 t.b1.x, .int .i64 t.b1.y, .int .i64 t.b1.z, .int .i64 t.b2.x, .int .i64 t.b2.y, .int .i64 t.b2.z, .int .i64 t.d.x, .int .i64 t.d.y, .int .i64 t.d.z, .int .i64 t.np, .int .i64 t.nn, .int .i64 t.fix, .int .i64 t.min, .int .i64 t.tax] 38) := by rw [hw5]; exact setRow_heap _ _ _ _ _ _ (heap_alloc_new w4 _)
  have Q5 : w5.heap[w.heap.size]? = some (.cells #[.int .i64 t.z.off, .int .i64 t.z.f.m, .int .i64 t.z.f.w, .int .i64 t.z.f.d, .int .i64 t.z.f.h, .int .i64 t.z.t.m, .int .i64 t.z.t.w, .int .i64 t.z.t.d, .int .i64 t.z.t.h, .int .i64 t.days, .int .i64 t.gap, .int .i64 t.first, .int .i64 t.last, .string t.h0, .string t.h1, .string t.h2, .string t.h3, .int .i64 t.b0.x, .int .i64 t.b0.y, .int .i64 t.b0.z, .int .i64 t.b1.x, .int .i64 t.b1.y, .int .i64 t.b1.z, .int .i64 t.b2.x, .int .i64 t.b2.y, .int .i64 t.b2.z, .int .i64 t.d.x, .int .i64 t.d.y, .int .i64 t.d.z, .int .i64 t.np, .int .i64 t.nn, .int .i64 t.fix, .int .i64 t.min, .int .i64 t.tax] 38) := by rw [hw5]; exact (setRow_other _ _ _ _ (by omega)).trans ((heap_alloc_old _ _ (by omega)).trans MT4)
  have B5 : Below w.heap.size w w5 := by rw [hw5]; exact below_setRow (below_more B4 _) (by omega) _
  have N5 : w4.heap.size < w5.heap.size := (Array.getElem?_eq_some_iff.1 R5).1
  clear hw5 hb1 hb2 hb3 hb4 MT MT1 MT2 MT3 MT4 B0 B1 B2 B3 B4 pm rs gm
  refine wp_region_held_drew (S := fun w' => w'.heap[w4.heap.size]? = some (.cells #[.int .i64 t.z.off, .int .i64 t.z.f.m, .int .i64 t.z.f.w, .int .i64 t.z.f.d, .int .i64 t.z.f.h, .int .i64 t.z.t.m, .int .i64 t.z.t.w, .int .i64 t.z.t.d, .int .i64 t.z.t.h, .int .i64 t.days, .int .i64 t.gap, .int .i64 t.first, .int .i64 t.last, .string t.h0, .string t.h1, .string t.h2, .string t.h3, .int .i64 t.b0.x, .int .i64 t.b0.y, .int .i64 t.b0.z, .int .i64 t.b1.x, .int .i64 t.b1.y, .int .i64 t.b1.z, .int .i64 t.b2.x, .int .i64 t.b2.y, .int .i64 t.b2.z, .int .i64 t.d.x, .int .i64 t.d.y, .int .i64 t.d.z, .int .i64 t.np, .int .i64 t.nn, .int .i64 t.fix, .int .i64 t.min, .int .i64 t.tax] 38 (0, 0)) ∧ w'.heap[w.heap.size]? = some (.cells #[.int .i64 t.z.off, .int .i64 t.z.f.m, .int .i64 t.z.f.w, .int .i64 t.z.f.d, .int .i64 t.z.f.h, .int .i64 t.z.t.m, .int .i64 t.z.t.w, .int .i64 t.z.t.d, .int .i64 t.z.t.h, .int .i64 t.days, .int .i64 t.gap, .int .i64 t.first, .int .i64 t.last, .string t.h0, .string t.h1, .string t.h2, .string t.h3, .int .i64 t.b0.x, .int .i64 t.b0.y, .int .i64 t.b0.z, .int .i64 t.b1.x, .int .i64 t.b1.y, .int .i64 t.b1.z, .int .i64 t.b2.x, .int .i64 t.b2.y, .int .i64 t.b2.z, .int .i64 t.d.x, .int .i64 t.d.y, .int .i64 t.d.z, .int .i64 t.np, .int .i64 t.nn, .int .i64 t.fix, .int .i64 t.min, .int .i64 t.tax] 38 (0, 0))) (by kernel_rfl) ⟨R5, Q5⟩ (fun hH0 => ?_)
  refine wpAnyH_take (i := 0) (oi := { dst := some 29, op := Go.Op.move (Go.Operand.tmp 8), type := 59, pos := "outright.go:93", after := #[], guard := none }) (v := .int .i64 0) rfl (by kernel_rfl) (by kernel_rfl) (by kernel_rfl) (fun _ _ _ h => h) (Or.inl ⟨by rfl, ?_⟩) (by assumption) ?_
  · intro w9 hSw
    go_simp
  try simp only [Act.put, List.setIfInBounds_toArray, List.set_cons_zero, List.set_cons_succ]
  refine wpAnyH_ready (rs := [1]) (by kernel_rfl) (by simp) ?_
  refine AllReadyH.cons (o := { dst := some 30, op := Go.Op.call { callee := Go.Callee.value (Go.Operand.func 15), args := #[Go.Operand.tmp 29], argTypes := #[59] }, type := 3, pos := "outright.go:93", after := #[{ on := 0, ground := Go.Ground.data }], guard := none }) rfl (fun K hK => ?_) AllReadyH.nil
  go_simp
  refine (num_any _ _).mono ?_
  rintro e w6 ⟨rfl, h7⟩
  have h8 := h7.symm
  subst h8
  go_wp2_with fail
  refine hK.out _ _ hH0 (fun hH1 => ?_)
  clear hK K
  try simp only [Act.put, List.setIfInBounds_toArray, List.set_cons_zero, List.set_cons_succ]
  refine wpAnyH_take (i := 2) (oi := { dst := some 31, op := Go.Op.binOp Go.BinOp.neq 3 (Go.Operand.tmp 30) (Go.Operand.const (Go.Value.int Go.IntKind.i64 0)) 3, type := 4, pos := "outright.go:93", after := #[{ on := 1, ground := Go.Ground.data }], guard := none }) (v := .bool false) rfl (by kernel_rfl) (by kernel_rfl) (by kernel_rfl) (fun _ _ _ h => h) (Or.inl ⟨by rfl, ?_⟩) (by assumption) ?_
  · intro w9 hSw
    go_simp
  try simp only [Act.put, List.setIfInBounds_toArray, List.set_cons_zero, List.set_cons_succ]
  refine wpAnyH_take (i := 3) (oi := { dst := some 32, op := Go.Op.move (Go.Operand.tmp 31), type := 4, pos := "outright.go:93", after := #[{ on := 2, ground := Go.Ground.data }, { on := 1, ground := Go.Ground.chain }], guard := none }) (v := .bool false) rfl (by kernel_rfl) (by kernel_rfl) (by kernel_rfl) (fun _ _ _ h => h) (Or.inl ⟨by rfl, ?_⟩) (by assumption) ?_
  · intro w9 hSw
    go_simp
  try simp only [Act.put, List.setIfInBounds_toArray, List.set_cons_zero, List.set_cons_succ]
  refine wpAnyH_take (i := 4) (oi := { dst := some 33, op := Go.Op.load 38 (Go.Operand.tmp 7), type := 38, pos := "outright.go:93", after := #[{ on := 3, ground := Go.Ground.guard }], guard := some (3, false) }) (v := .agg #[.int .i64 t.z.off, .int .i64 t.z.f.m, .int .i64 t.z.f.w, .int .i64 t.z.f.d, .int .i64 t.z.f.h, .int .i64 t.z.t.m, .int .i64 t.z.t.w, .int .i64 t.z.t.d, .int .i64 t.z.t.h, .int .i64 t.days, .int .i64 t.gap, .int .i64 t.first, .int .i64 t.last, .string t.h0, .string t.h1, .string t.h2, .string t.h3, .int .i64 t.b0.x, .int .i64 t.b0.y, .int .i64 t.b0.z, .int .i64 t.b1.x, .int .i64 t.b1.y, .int .i64 t.b1.z, .int .i64 t.b2.x, .int .i64 t.b2.y, .int .i64 t.b2.z, .int .i64 t.d.x, .int .i64 t.d.y, .int .i64 t.d.z, .int .i64 t.np, .int .i64 t.nn, .int .i64 t.fix, .int .i64 t.min, .int .i64 t.tax]) rfl (by kernel_rfl) (by kernel_rfl) (by kernel_rfl) (fun _ _ _ h => h) (yields_row' (by rfl) 38 _ rfl w4.heap.size rfl _ 38 (0, 0) _ (fun w9 hSw => hSw.1) Tryd.underlying38 rfl (by kernel_rfl)) (by assumption) ?_
  try simp only [Act.put, List.setIfInBounds_toArray, List.set_cons_zero, List.set_cons_succ]
  refine wpAnyH_take (i := 6) (oi := { dst := some 35, op := Go.Op.load 38 (Go.Operand.tmp 2), type := 38, pos := "outright.go:93", after := #[{ on := 3, ground := Go.Ground.guard }], guard := some (3, false) }) (v := .agg #[.int .i64 t.z.off, .int .i64 t.z.f.m, .int .i64 t.z.f.w, .int .i64 t.z.f.d, .int .i64 t.z.f.h, .int .i64 t.z.t.m, .int .i64 t.z.t.w, .int .i64 t.z.t.d, .int .i64 t.z.t.h, .int .i64 t.days, .int .i64 t.gap, .int .i64 t.first, .int .i64 t.last, .string t.h0, .string t.h1, .string t.h2, .string t.h3, .int .i64 t.b0.x, .int .i64 t.b0.y, .int .i64 t.b0.z, .int .i64 t.b1.x, .int .i64 t.b1.y, .int .i64 t.b1.z, .int .i64 t.b2.x, .int .i64 t.b2.y, .int .i64 t.b2.z, .int .i64 t.d.x, .int .i64 t.d.y, .int .i64 t.d.z, .int .i64 t.np, .int .i64 t.nn, .int .i64 t.fix, .int .i64 t.min, .int .i64 t.tax]) rfl (by kernel_rfl) (by kernel_rfl) (by kernel_rfl) (fun _ _ _ h => h) (yields_row' (by rfl) 38 _ rfl w.heap.size rfl _ 38 (0, 0) _ (fun w9 hSw => hSw.2) Tryd.underlying38 rfl (by kernel_rfl)) (by assumption) ?_
  try simp only [Act.put, List.setIfInBounds_toArray, List.set_cons_zero, List.set_cons_succ]
  refine wpAnyH_ready (rs := [5]) (by kernel_rfl) (by simp) ?_
  refine AllReadyH.cons (o := { dst := some 34, op := Go.Op.call { callee := Go.Callee.value (Go.Operand.func 12), args := #[Go.Operand.tmp 33], argTypes := #[38] }, type := 55, pos := "outright.go:93", after := #[{ on := 4, ground := Go.Ground.data }, { on := 3, ground := Go.Ground.chain }, { on := 3, ground := Go.Ground.guard }], guard := some (3, false) }) rfl (fun K hK => ?_) AllReadyH.nil
  go_simp
  refine (tf _).mono ?_
  rintro e w7 ⟨rfl, hb7'⟩
  have hb7 : Below w5.heap.size w5 w7 := below_then (Below.drew (Below.refl _ _)) hb7'
  clear hb7'
  have M7 := hb7.size
  go_wp2_with fail
  refine hK.out _ _ ⟨(hb7.block _ (by omega)).trans R5, (hb7.block _ (by omega)).trans Q5⟩ (fun hH2 => ?_)
  clear hK K
  try simp only [Act.put, List.setIfInBounds_toArray, List.set_cons_zero, List.set_cons_succ]
  refine wpAnyH_ready (rs := [7]) (by kernel_rfl) (by simp) ?_
  refine AllReadyH.cons (o := { dst := some 36, op := Go.Op.call { callee := Go.Callee.value (Go.Operand.func 12), args := #[Go.Operand.tmp 35], argTypes := #[38] }, type := 55, pos := "outright.go:93", after := #[{ on := 6, ground := Go.Ground.data }, { on := 5, ground := Go.Ground.chain }, { on := 3, ground := Go.Ground.guard }], guard := some (3, false) }) rfl (fun K hK => ?_) AllReadyH.nil
  go_simp
  refine (tf _).mono ?_
  rintro e w8 ⟨rfl, hb8⟩
  have M8 := hb8.size
  go_wp2_with fail
  refine hK.out _ _ ⟨(hb8.block _ (by omega)).trans hH2.1, (hb8.block _ (by omega)).trans hH2.2⟩ (fun hH3 => ?_)
  clear hK K
  try simp only [Act.put, List.setIfInBounds_toArray, List.set_cons_zero, List.set_cons_succ]
  refine wpAnyH_ready (rs := [8]) (by kernel_rfl) (by simp) ?_
  refine AllReadyH.cons (o := { dst := some 37, op := Go.Op.call { callee := Go.Callee.value (Go.Operand.func 19), args := #[Go.Operand.tmp 34, Go.Operand.tmp 36], argTypes := #[55, 55] }, type := 4, pos := "outright.go:93", after := #[{ on := 5, ground := Go.Ground.data }, { on := 7, ground := Go.Ground.data }, { on := 7, ground := Go.Ground.chain }, { on := 3, ground := Go.Ground.guard }], guard := some (3, false) }) rfl (fun K hK => ?_) AllReadyH.nil
  go_simp
  refine (sm _).mono ?_
  rintro e wk ⟨rfl, hbk⟩
  go_wp2_with fail
  refine hK.out _ _ ⟨(hbk.block _ (by omega)).trans hH3.1, (hbk.block _ (by omega)).trans hH3.2⟩ (fun hH4 => ?_)
  clear hK K
  try simp only [Act.put, List.setIfInBounds_toArray, List.set_cons_zero, List.set_cons_succ]
  refine wpAnyH_take (i := 9) (oi := { dst := some 38, op := Go.Op.unOp Go.UnOp.not 4 (Go.Operand.tmp 37), type := 4, pos := "outright.go:93", after := #[{ on := 8, ground := Go.Ground.data }, { on := 3, ground := Go.Ground.guard }], guard := some (3, false) }) (v := .bool false) rfl (by kernel_rfl) (by kernel_rfl) (by kernel_rfl) (fun _ _ _ h => h) (Or.inl ⟨by rfl, ?_⟩) (by assumption) ?_
  · intro w9 hSw
    go_simp
  try simp only [Act.put, List.setIfInBounds_toArray, List.set_cons_zero, List.set_cons_succ]
  refine wpAnyH_take (i := 10) (oi := { dst := some 39, op := Go.Op.pick (Go.Operand.tmp 32) (Go.Operand.const (Go.Value.bool true)) (Go.Operand.tmp 38), type := 4, pos := "outright.go:93", after := #[{ on := 3, ground := Go.Ground.data }, { on := 9, ground := Go.Ground.data }], guard := none }) (v := .bool false) rfl (by kernel_rfl) (by kernel_rfl) (by kernel_rfl) (fun _ _ _ h => h) (Or.inl ⟨by rfl, ?_⟩) (by assumption) ?_
  · intro w9 hSw
    go_simp
  try simp only [Act.put, List.setIfInBounds_toArray, List.set_cons_zero, List.set_cons_succ]
  refine wpAnyH_done (by kernel_rfl) ?_ _
  have B9 := below_then (below_then (below_then B5 hb7) hb8) hbk
  clear hH0 hH1 hH2 hH3 hH4 R5 Q5
  go_wp2_with (first
    | (go_at_call 18; refine (rx _).mono ?_; rintro e wx ⟨rfl, hbx⟩; have BX := below_then B9 hbx)
    | (with_reducible show wpList _ _ _ _ _ (World.alloc wx _); refine wpList_store_row rfl 38 _ _ rfl wx.heap.size #[.int .i64 y.z.off, .int .i64 y.z.f.m, .int .i64 y.z.f.w, .int .i64 y.z.f.d, .int .i64 y.z.f.h, .int .i64 y.z.t.m, .int .i64 y.z.t.w, .int .i64 y.z.t.d, .int .i64 y.z.t.h, .int .i64 y.days, .int .i64 y.gap, .int .i64 y.first, .int .i64 y.last, .string y.h0, .string y.h1, .string y.h2, .string y.h3, .int .i64 y.b0.x, .int .i64 y.b0.y, .int .i64 y.b0.z, .int .i64 y.b1.x, .int .i64 y.b1.y, .int .i64 y.b1.z, .int .i64 y.b2.x, .int .i64 y.b2.y, .int .i64 y.b2.z, .int .i64 y.d.x, .int .i64 y.d.y, .int .i64 y.d.z, .int .i64 y.np, .int .i64 y.nn, .int .i64 y.fix, .int .i64 y.min, .int .i64 y.tax] rfl rfl 38 _ (heap_alloc_new wx _) (td_info y) (td_size y) (td_one y) ?_)
    | (go_at_call 15; refine (num_any _ _).mono ?_; rintro e wn ⟨rfl, h7⟩; have h8 := h7.symm; subst h8)
    | (refine wpList_load_row rfl 38 _ rfl wx.heap.size rfl 38 _ (0, 0) _ (setRow_heap _ _ _ _ _ _ (heap_alloc_new wx _)) Tryd.underlying38 rfl (by kernel_rfl) ?_)
    | (go_at_call 8; refine (px _ (below_setRow (below_more BX _) BX.size _)).mono ?_; rintro e wp ⟨rfl, hbp⟩))
  go_ret
  exact ⟨rfl, below_then (below_setRow (below_more BX _) BX.size _) hbp⟩
set_option maxRecDepth 1000000 in
set_option maxHeartbeats 2000000 in
theorem walk_vn (t : Trf) (x : ByteArray) (w : World) (ht : TB w) (s0 : t.h0.size ≤ maxLen) (s1 : t.h1.size ≤ maxLen) (s2 : t.h2.size ≤ maxLen) (s3 : t.h3.size ≤ maxLen) (hx : x.size ≤ maxLen) (hm : badN t = 13) (hz : ¬ rtE x (rdT x (hrP x)) = 0) :
    Calls Tryd.prog 5 #[.agg #[.int .i64 t.z.off, .int .i64 t.z.f.m, .int .i64 t.z.f.w, .int .i64 t.z.f.d, .int .i64 t.z.f.h, .int .i64 t.z.t.m, .int .i64 t.z.t.w, .int .i64 t.z.t.d, .int .i64 t.z.t.h, .int .i64 t.days, .int .i64 t.gap, .int .i64 t.first, .int .i64 t.last, .string t.h0, .string t.h1, .string t.h2, .string t.h3, .int .i64 t.b0.x, .int .i64 t.b0.y, .int .i64 t.b0.z, .int .i64 t.b1.x, .int .i64 t.b1.y, .int .i64 t.b1.z, .int .i64 t.b2.x, .int .i64 t.b2.y, .int .i64 t.b2.z, .int .i64 t.d.x, .int .i64 t.d.y, .int .i64 t.d.z, .int .i64 t.np, .int .i64 t.nn, .int .i64 t.fix, .int .i64 t.min, .int .i64 t.tax], .string x] w fun e w' => e = .returned (.bool true) ∧ Below w.heap.size w w' := by
  have tf := fun w1 => tariff_any t w1
  have gm := fun w1 => GoodTariff_any t w1 s0 s1 s2 s3
  have pm := fun w1 (hb : Below w.heap.size w w1) => PrintTariff_any t w1 (ht.below hb) s0 s1 s2 s3
  have hg : goodB t = true := by unfold goodB; simp; omega
  rw [hg] at gm
  rw [if_neg (by omega)] at pm
  obtain ⟨f1, f2, f3⟩ := tariff_forth hm
  have rs := fun w1 => ReadTariff_any (tP t) t f1.symm t (by unfold rtV; rw [if_pos f2]) w1 (by unfold maxLen; omega)
  rw [f2] at rs
  have sm := fun w1 => tariffs.sameTariff_any t w1 s0 s1 s2 s3
  obtain ⟨S, hS⟩ : ∃ S, S = tP t := ⟨_, rfl⟩
  obtain ⟨C, hC⟩ : ∃ C, C = rtA (tP t) t := ⟨_, rfl⟩
  rw [← hC] at rs
  rw [← hS] at pm rs
  clear f1 f2 f3 hS hC
  obtain ⟨xp, hp⟩ : ∃ z, z = rdT x (hrP x) := ⟨_, rfl⟩
  obtain ⟨y, hy⟩ : ∃ y, y = rtV x xp := ⟨_, rfl⟩
  have rx := fun w1 => ReadTariff_any x xp hp y hy w1 hx
  obtain ⟨q0, q1⟩ := rtA_bd x xp hp
  obtain ⟨E, hE⟩ : ∃ E, E = rtE x xp := ⟨_, rfl⟩
  obtain ⟨A, hA⟩ : ∃ A, A = rtA x xp := ⟨_, rfl⟩
  rw [← hE, ← hA] at rx
  rw [← hA] at q0 q1
  have hEB : (E != 0) = true := by
    have : ¬ E = 0 := by rw [hE, hp]; exact hz
    simpa using this
  clear hE hA hy hp hz
  have hx' : (x.size : Int) ≤ 9223372036854775807 := by unfold maxLen at hx; omega
  have B0 : Below w.heap.size w (w.alloc (.cells #[.int .i64 t.z.off, .int .i64 t.z.f.m, .int .i64 t.z.f.w, .int .i64 t.z.f.d, .int .i64 t.z.f.h, .int .i64 t.z.t.m, .int .i64 t.z.t.w, .int .i64 t.z.t.d, .int .i64 t.z.t.h, .int .i64 t.days, .int .i64 t.gap, .int .i64 t.first, .int .i64 t.last, .string t.h0, .string t.h1, .string t.h2, .string t.h3, .int .i64 t.b0.x, .int .i64 t.b0.y, .int .i64 t.b0.z, .int .i64 t.b1.x, .int .i64 t.b1.y, .int .i64 t.b1.z, .int .i64 t.b2.x, .int .i64 t.b2.y, .int .i64 t.b2.z, .int .i64 t.d.x, .int .i64 t.d.y, .int .i64 t.d.z, .int .i64 t.np, .int .i64 t.nn, .int .i64 t.fix, .int .i64 t.min, .int .i64 t.tax] 38)) := below_more (Below.refl _ _) _
  have MT : (w.alloc (.cells #[.int .i64 t.z.off, .int .i64 t.z.f.m, .int .i64 t.z.f.w, .int .i64 t.z.f.d, .int .i64 t.z.f.h, .int .i64 t.z.t.m, .int .i64 t.z.t.w, .int .i64 t.z.t.d, .int .i64 t.z.t.h, .int .i64 t.days, .int .i64 t.gap, .int .i64 t.first, .int .i64 t.last, .string t.h0, .string t.h1, .string t.h2, .string t.h3, .int .i64 t.b0.x, .int .i64 t.b0.y, .int .i64 t.b0.z, .int .i64 t.b1.x, .int .i64 t.b1.y, .int .i64 t.b1.z, .int .i64 t.b2.x, .int .i64 t.b2.y, .int .i64 t.b2.z, .int .i64 t.d.x, .int .i64 t.d.y, .int .i64 t.d.z, .int .i64 t.np, .int .i64 t.nn, .int .i64 t.fix, .int .i64 t.min, .int .i64 t.tax] 38)).heap[w.heap.size]? = some (.cells #[.int .i64 t.z.off, .int .i64 t.z.f.m, .int .i64 t.z.f.w, .int .i64 t.z.f.d, .int .i64 t.z.f.h, .int .i64 t.z.t.m, .int .i64 t.z.t.w, .int .i64 t.z.t.d, .int .i64 t.z.t.h, .int .i64 t.days, .int .i64 t.gap, .int .i64 t.first, .int .i64 t.last, .string t.h0, .string t.h1, .string t.h2, .string t.h3, .int .i64 t.b0.x, .int .i64 t.b0.y, .int .i64 t.b0.z, .int .i64 t.b1.x, .int .i64 t.b1.y, .int .i64 t.b1.z, .int .i64 t.b2.x, .int .i64 t.b2.y, .int .i64 t.b2.z, .int .i64 t.d.x, .int .i64 t.d.y, .int .i64 t.d.z, .int .i64 t.np, .int .i64 t.nn, .int .i64 t.fix, .int .i64 t.min, .int .i64 t.tax] 38) := heap_alloc_new _ _
  clear ht hm hx hg s0 s1 s2 s3
  go_enter Tryd.func5, Tryd.ntmps5
  go_wp2_with (first
    | (with_reducible show wpList _ _ _ _ _ (World.alloc w4 _); refine wpList_store_row rfl 38 _ _ rfl w4.heap.size #[.int .i64 t.z.off, .int .i64 t.z.f.m, .int .i64 t.z.f.w, .int .i64 t.z.f.d, .int .i64 t.z.f.h, .int .i64 t.z.t.m, .int .i64 t.z.t.w, .int .i64 t.z.t.d, .int .i64 t.z.t.h, .int .i64 t.days, .int .i64 t.gap, .int .i64 t.first, .int .i64 t.last, .string t.h0, .string t.h1, .string t.h2, .string t.h3, .int .i64 t.b0.x, .int .i64 t.b0.y, .int .i64 t.b0.z, .int .i64 t.b1.x, .int .i64 t.b1.y, .int .i64 t.b1.z, .int .i64 t.b2.x, .int .i64 t.b2.y, .int .i64 t.b2.z, .int .i64 t.d.x, .int .i64 t.d.y, .int .i64 t.d.z, .int .i64 t.np, .int .i64 t.nn, .int .i64 t.fix, .int .i64 t.min, .int .i64 t.tax] rfl rfl 38 _ (heap_alloc_new w4 _) (td_info t) (td_size t) (td_one t) ?_)
    | (go_at_call 18; refine (rs _).mono ?_; rintro e w4 ⟨rfl, hb4⟩; have Z4 : w.heap.size < w4.heap.size := (by have := hb4.size; first | omega | (simp at this; omega)); have MT4 : w4.heap[w.heap.size]? = some (.cells #[.int .i64 t.z.off, .int .i64 t.z.f.m, .int .i64 t.z.f.w, .int .i64 t.z.f.d, .int .i64 t.z.f.h, .int .i64 t.z.t.m, .int .i64 t.z.t.w, .int .i64 t.z.t.d, .int .i64 t.z.t.h, .int .i64 t.days, .int .i64 t.gap, .int .i64 t.first, .int .i64 t.last, .string t.h0, .string t.h1, .string t.h2, .string t.h3, .int .i64 t.b0.x, .int .i64 t.b0.y, .int .i64 t.b0.z, .int .i64 t.b1.x, .int .i64 t.b1.y, .int .i64 t.b1.z, .int .i64 t.b2.x, .int .i64 t.b2.y, .int .i64 t.b2.z, .int .i64 t.d.x, .int .i64 t.d.y, .int .i64 t.d.z, .int .i64 t.np, .int .i64 t.nn, .int .i64 t.fix, .int .i64 t.min, .int .i64 t.tax] 38) := (hb4.block w.heap.size (by first | omega | (simp; done) | (simp; omega))).trans MT3; have B4 := below_then B3 hb4)
    | (with_reducible show wpList _ _ _ _ _ (w.alloc (.cells #[.int .i64 t.z.off, .int .i64 t.z.f.m, .int .i64 t.z.f.w, .int .i64 t.z.f.d, .int .i64 t.z.f.h, .int .i64 t.z.t.m, .int .i64 t.z.t.w, .int .i64 t.z.t.d, .int .i64 t.z.t.h, .int .i64 t.days, .int .i64 t.gap, .int .i64 t.first, .int .i64 t.last, .string t.h0, .string t.h1, .string t.h2, .string t.h3, .int .i64 t.b0.x, .int .i64 t.b0.y, .int .i64 t.b0.z, .int .i64 t.b1.x, .int .i64 t.b1.y, .int .i64 t.b1.z, .int .i64 t.b2.x, .int .i64 t.b2.y, .int .i64 t.b2.z, .int .i64 t.d.x, .int .i64 t.d.y, .int .i64 t.d.z, .int .i64 t.np, .int .i64 t.nn, .int .i64 t.fix, .int .i64 t.min, .int .i64 t.tax] 38)); refine wpList_load_row rfl 38 _ rfl w.heap.size rfl 38 _ (0, 0) _ MT Tryd.underlying38 rfl (by kernel_rfl) ?_)
    | (with_reducible show wpList _ _ _ _ _ w2; refine wpList_load_row rfl 38 _ rfl w.heap.size rfl 38 _ (0, 0) _ MT2 Tryd.underlying38 rfl (by kernel_rfl) ?_)
    | (go_at_call 12; refine (tf _).mono ?_; rintro e w1 ⟨rfl, hb1⟩; have Z1 : w.heap.size < w1.heap.size := (by have := hb1.size; first | omega | (simp at this; omega)); have MT1 : w1.heap[w.heap.size]? = some (.cells #[.int .i64 t.z.off, .int .i64 t.z.f.m, .int .i64 t.z.f.w, .int .i64 t.z.f.d, .int .i64 t.z.f.h, .int .i64 t.z.t.m, .int .i64 t.z.t.w, .int .i64 t.z.t.d, .int .i64 t.z.t.h, .int .i64 t.days, .int .i64 t.gap, .int .i64 t.first, .int .i64 t.last, .string t.h0, .string t.h1, .string t.h2, .string t.h3, .int .i64 t.b0.x, .int .i64 t.b0.y, .int .i64 t.b0.z, .int .i64 t.b1.x, .int .i64 t.b1.y, .int .i64 t.b1.z, .int .i64 t.b2.x, .int .i64 t.b2.y, .int .i64 t.b2.z, .int .i64 t.d.x, .int .i64 t.d.y, .int .i64 t.d.z, .int .i64 t.np, .int .i64 t.nn, .int .i64 t.fix, .int .i64 t.min, .int .i64 t.tax] 38) := (hb1.block w.heap.size (by first | omega | (simp; done) | (simp; omega))).trans MT; have B1 := below_then B0 hb1)
    | (go_at_call 17; refine (gm _).mono ?_; rintro e w2 ⟨rfl, hb2⟩; have Z2 : w.heap.size < w2.heap.size := (by have := hb2.size; first | omega | (simp at this; omega)); have MT2 : w2.heap[w.heap.size]? = some (.cells #[.int .i64 t.z.off, .int .i64 t.z.f.m, .int .i64 t.z.f.w, .int .i64 t.z.f.d, .int .i64 t.z.f.h, .int .i64 t.z.t.m, .int .i64 t.z.t.w, .int .i64 t.z.t.d, .int .i64 t.z.t.h, .int .i64 t.days, .int .i64 t.gap, .int .i64 t.first, .int .i64 t.last, .string t.h0, .string t.h1, .string t.h2, .string t.h3, .int .i64 t.b0.x, .int .i64 t.b0.y, .int .i64 t.b0.z, .int .i64 t.b1.x, .int .i64 t.b1.y, .int .i64 t.b1.z, .int .i64 t.b2.x, .int .i64 t.b2.y, .int .i64 t.b2.z, .int .i64 t.d.x, .int .i64 t.d.y, .int .i64 t.d.z, .int .i64 t.np, .int .i64 t.nn, .int .i64 t.fix, .int .i64 t.min, .int .i64 t.tax] 38) := (hb2.block w.heap.size (by first | omega | (simp; done) | (simp; omega))).trans MT1; have B2 := below_then B1 hb2)
    | (go_at_call 8; refine (pm _ B2).mono ?_; rintro e w3 ⟨rfl, hb3⟩; have Z3 : w.heap.size < w3.heap.size := (by have := hb3.size; first | omega | (simp at this; omega)); have MT3 : w3.heap[w.heap.size]? = some (.cells #[.int .i64 t.z.off, .int .i64 t.z.f.m, .int .i64 t.z.f.w, .int .i64 t.z.f.d, .int .i64 t.z.f.h, .int .i64 t.z.t.m, .int .i64 t.z.t.w, .int .i64 t.z.t.d, .int .i64 t.z.t.h, .int .i64 t.days, .int .i64 t.gap, .int .i64 t.first, .int .i64 t.last, .string t.h0, .string t.h1, .string t.h2, .string t.h3, .int .i64 t.b0.x, .int .i64 t.b0.y, .int .i64 t.b0.z, .int .i64 t.b1.x, .int .i64 t.b1.y, .int .i64 t.b1.z, .int .i64 t.b2.x, .int .i64 t.b2.y, .int .i64 t.b2.z, .int .i64 t.d.x, .int .i64 t.d.y, .int .i64 t.d.z, .int .i64 t.np, .int .i64 t.nn, .int .i64 t.fix, .int .i64 t.min, .int .i64 t.tax] 38) := (hb3.block w.heap.size (by first | omega | (simp; done) | (simp; omega))).trans MT2; have B3 := below_then B2 hb3))
  refine wp_world (fun w5 hw5 => ?_)
  have R5 : w5.heap[w4.heap.size]? = some (.cells #[.int .i64 t.z.off, .int .i64 t.z.f.m, .int .i64 t.z.f.w, .int .i64 t.z.f.d, .int .i64 t.z.f.h, .int .i64 t.z.t.m, .int .i64 t.z.t.w, .int .i64 t.z.t.d, .int .i64 t.z.t.h, .int .i64 t.days, .int .i64 t.gap, .int .i64 t.first, .int .i64 t.last, .string t.h0, .string t.h1, .string t.h2, .string t.h3, .int .i64 t.b0.x, .int .i64 t.b0.y, .int .i64 t.b0.z, .int .i64 t.b1.x, .int .i64 t.b1.y, .int .i64 t.b1.z, .int .i64 t.b2.x, .int .i64 t.b2.y, .int .i64 t.b2.z, .int .i64 t.d.x, .int .i64 t.d.y, .int .i64 t.d.z, .int .i64 t.np, .int .i64 t.nn, .int .i64 t.fix, .int .i64 t.min, .int .i64 t.tax] 38) := by rw [hw5]; exact setRow_heap _ _ _ _ _ _ (heap_alloc_new w4 _)
  have Q5 : w5.heap[w.heap.size]? = some (.cells #[.int .i64 t.z.off, .int .i64 t.z.f.m, .int .i64 t.z.f.w, .int .i64 t.z.f.d, .int .i64 t.z.f.h, .int .i64 t.z.t.m, .int .i64 t.z.t.w, .int .i64 t.z.t.d, .int .i64 t.z.t.h, .int .i64 t.days, .int .i64 t.gap, .int .i64 t.first, .int .i64 t.last, .string t.h0, .string t.h1, .string t.h2, .string t.h3, .int .i64 t.b0.x, .int .i64 t.b0.y, .int .i64 t.b0.z, .int .i64 t.b1.x, .int .i64 t.b1.y, .int .i64 t.b1.z, .int .i64 t.b2.x, .int .i64 t.b2.y, .int .i64 t.b2.z, .int .i64 t.d.x, .int .i64 t.d.y, .int .i64 t.d.z, .int .i64 t.np, .int .i64 t.nn, .int .i64 t.fix, .int .i64 t.min, .int .i64 t.tax] 38) := by rw [hw5]; exact (setRow_other _ _ _ _ (by omega)).trans ((heap_alloc_old _ _ (by omega)).trans MT4)
  have B5 : Below w.heap.size w w5 := by rw [hw5]; exact below_setRow (below_more B4 _) (by omega) _
  have N5 : w4.heap.size < w5.heap.size := (Array.getElem?_eq_some_iff.1 R5).1
  clear hw5 hb1 hb2 hb3 hb4 MT MT1 MT2 MT3 MT4 B0 B1 B2 B3 B4 pm rs gm
  refine wp_region_held_drew (S := fun w' => w'.heap[w4.heap.size]? = some (.cells #[.int .i64 t.z.off, .int .i64 t.z.f.m, .int .i64 t.z.f.w, .int .i64 t.z.f.d, .int .i64 t.z.f.h, .int .i64 t.z.t.m, .int .i64 t.z.t.w, .int .i64 t.z.t.d, .int .i64 t.z.t.h, .int .i64 t.days, .int .i64 t.gap, .int .i64 t.first, .int .i64 t.last, .string t.h0, .string t.h1, .string t.h2, .string t.h3, .int .i64 t.b0.x, .int .i64 t.b0.y, .int .i64 t.b0.z, .int .i64 t.b1.x, .int .i64 t.b1.y, .int .i64 t.b1.z, .int .i64 t.b2.x, .int .i64 t.b2.y, .int .i64 t.b2.z, .int .i64 t.d.x, .int .i64 t.d.y, .int .i64 t.d.z, .int .i64 t.np, .int .i64 t.nn, .int .i64 t.fix, .int .i64 t.min, .int .i64 t.tax] 38 (0, 0)) ∧ w'.heap[w.heap.size]? = some (.cells #[.int .i64 t.z.off, .int .i64 t.z.f.m, .int .i64 t.z.f.w, .int .i64 t.z.f.d, .int .i64 t.z.f.h, .int .i64 t.z.t.m, .int .i64 t.z.t.w, .int .i64 t.z.t.d, .int .i64 t.z.t.h, .int .i64 t.days, .int .i64 t.gap, .int .i64 t.first, .int .i64 t.last, .string t.h0, .string t.h1, .string t.h2, .string t.h3, .int .i64 t.b0.x, .int .i64 t.b0.y, .int .i64 t.b0.z, .int .i64 t.b1.x, .int .i64 t.b1.y, .int .i64 t.b1.z, .int .i64 t.b2.x, .int .i64 t.b2.y, .int .i64 t.b2.z, .int .i64 t.d.x, .int .i64 t.d.y, .int .i64 t.d.z, .int .i64 t.np, .int .i64 t.nn, .int .i64 t.fix, .int .i64 t.min, .int .i64 t.tax] 38 (0, 0))) (by kernel_rfl) ⟨R5, Q5⟩ (fun hH0 => ?_)
  refine wpAnyH_take (i := 0) (oi := { dst := some 29, op := Go.Op.move (Go.Operand.tmp 8), type := 59, pos := "outright.go:93", after := #[], guard := none }) (v := .int .i64 0) rfl (by kernel_rfl) (by kernel_rfl) (by kernel_rfl) (fun _ _ _ h => h) (Or.inl ⟨by rfl, ?_⟩) (by assumption) ?_
  · intro w9 hSw
    go_simp
  try simp only [Act.put, List.setIfInBounds_toArray, List.set_cons_zero, List.set_cons_succ]
  refine wpAnyH_ready (rs := [1]) (by kernel_rfl) (by simp) ?_
  refine AllReadyH.cons (o := { dst := some 30, op := Go.Op.call { callee := Go.Callee.value (Go.Operand.func 15), args := #[Go.Operand.tmp 29], argTypes := #[59] }, type := 3, pos := "outright.go:93", after := #[{ on := 0, ground := Go.Ground.data }], guard := none }) rfl (fun K hK => ?_) AllReadyH.nil
  go_simp
  refine (num_any _ _).mono ?_
  rintro e w6 ⟨rfl, h7⟩
  have h8 := h7.symm
  subst h8
  go_wp2_with fail
  refine hK.out _ _ hH0 (fun hH1 => ?_)
  clear hK K
  try simp only [Act.put, List.setIfInBounds_toArray, List.set_cons_zero, List.set_cons_succ]
  refine wpAnyH_take (i := 2) (oi := { dst := some 31, op := Go.Op.binOp Go.BinOp.neq 3 (Go.Operand.tmp 30) (Go.Operand.const (Go.Value.int Go.IntKind.i64 0)) 3, type := 4, pos := "outright.go:93", after := #[{ on := 1, ground := Go.Ground.data }], guard := none }) (v := .bool false) rfl (by kernel_rfl) (by kernel_rfl) (by kernel_rfl) (fun _ _ _ h => h) (Or.inl ⟨by rfl, ?_⟩) (by assumption) ?_
  · intro w9 hSw
    go_simp
  try simp only [Act.put, List.setIfInBounds_toArray, List.set_cons_zero, List.set_cons_succ]
  refine wpAnyH_take (i := 3) (oi := { dst := some 32, op := Go.Op.move (Go.Operand.tmp 31), type := 4, pos := "outright.go:93", after := #[{ on := 2, ground := Go.Ground.data }, { on := 1, ground := Go.Ground.chain }], guard := none }) (v := .bool false) rfl (by kernel_rfl) (by kernel_rfl) (by kernel_rfl) (fun _ _ _ h => h) (Or.inl ⟨by rfl, ?_⟩) (by assumption) ?_
  · intro w9 hSw
    go_simp
  try simp only [Act.put, List.setIfInBounds_toArray, List.set_cons_zero, List.set_cons_succ]
  refine wpAnyH_take (i := 4) (oi := { dst := some 33, op := Go.Op.load 38 (Go.Operand.tmp 7), type := 38, pos := "outright.go:93", after := #[{ on := 3, ground := Go.Ground.guard }], guard := some (3, false) }) (v := .agg #[.int .i64 t.z.off, .int .i64 t.z.f.m, .int .i64 t.z.f.w, .int .i64 t.z.f.d, .int .i64 t.z.f.h, .int .i64 t.z.t.m, .int .i64 t.z.t.w, .int .i64 t.z.t.d, .int .i64 t.z.t.h, .int .i64 t.days, .int .i64 t.gap, .int .i64 t.first, .int .i64 t.last, .string t.h0, .string t.h1, .string t.h2, .string t.h3, .int .i64 t.b0.x, .int .i64 t.b0.y, .int .i64 t.b0.z, .int .i64 t.b1.x, .int .i64 t.b1.y, .int .i64 t.b1.z, .int .i64 t.b2.x, .int .i64 t.b2.y, .int .i64 t.b2.z, .int .i64 t.d.x, .int .i64 t.d.y, .int .i64 t.d.z, .int .i64 t.np, .int .i64 t.nn, .int .i64 t.fix, .int .i64 t.min, .int .i64 t.tax]) rfl (by kernel_rfl) (by kernel_rfl) (by kernel_rfl) (fun _ _ _ h => h) (yields_row' (by rfl) 38 _ rfl w4.heap.size rfl _ 38 (0, 0) _ (fun w9 hSw => hSw.1) Tryd.underlying38 rfl (by kernel_rfl)) (by assumption) ?_
  try simp only [Act.put, List.setIfInBounds_toArray, List.set_cons_zero, List.set_cons_succ]
  refine wpAnyH_take (i := 6) (oi := { dst := some 35, op := Go.Op.load 38 (Go.Operand.tmp 2), type := 38, pos := "outright.go:93", after := #[{ on := 3, ground := Go.Ground.guard }], guard := some (3, false) }) (v := .agg #[.int .i64 t.z.off, .int .i64 t.z.f.m, .int .i64 t.z.f.w, .int .i64 t.z.f.d, .int .i64 t.z.f.h, .int .i64 t.z.t.m, .int .i64 t.z.t.w, .int .i64 t.z.t.d, .int .i64 t.z.t.h, .int .i64 t.days, .int .i64 t.gap, .int .i64 t.first, .int .i64 t.last, .string t.h0, .string t.h1, .string t.h2, .string t.h3, .int .i64 t.b0.x, .int .i64 t.b0.y, .int .i64 t.b0.z, .int .i64 t.b1.x, .int .i64 t.b1.y, .int .i64 t.b1.z, .int .i64 t.b2.x, .int .i64 t.b2.y, .int .i64 t.b2.z, .int .i64 t.d.x, .int .i64 t.d.y, .int .i64 t.d.z, .int .i64 t.np, .int .i64 t.nn, .int .i64 t.fix, .int .i64 t.min, .int .i64 t.tax]) rfl (by kernel_rfl) (by kernel_rfl) (by kernel_rfl) (fun _ _ _ h => h) (yields_row' (by rfl) 38 _ rfl w.heap.size rfl _ 38 (0, 0) _ (fun w9 hSw => hSw.2) Tryd.underlying38 rfl (by kernel_rfl)) (by assumption) ?_
  try simp only [Act.put, List.setIfInBounds_toArray, List.set_cons_zero, List.set_cons_succ]
  refine wpAnyH_ready (rs := [5]) (by kernel_rfl) (by simp) ?_
  refine AllReadyH.cons (o := { dst := some 34, op := Go.Op.call { callee := Go.Callee.value (Go.Operand.func 12), args := #[Go.Operand.tmp 33], argTypes := #[38] }, type := 55, pos := "outright.go:93", after := #[{ on := 4, ground := Go.Ground.data }, { on := 3, ground := Go.Ground.chain }, { on := 3, ground := Go.Ground.guard }], guard := some (3, false) }) rfl (fun K hK => ?_) AllReadyH.nil
  go_simp
  refine (tf _).mono ?_
  rintro e w7 ⟨rfl, hb7'⟩
  have hb7 : Below w5.heap.size w5 w7 := below_then (Below.drew (Below.refl _ _)) hb7'
  clear hb7'
  have M7 := hb7.size
  go_wp2_with fail
  refine hK.out _ _ ⟨(hb7.block _ (by omega)).trans R5, (hb7.block _ (by omega)).trans Q5⟩ (fun hH2 => ?_)
  clear hK K
  try simp only [Act.put, List.setIfInBounds_toArray, List.set_cons_zero, List.set_cons_succ]
  refine wpAnyH_ready (rs := [7]) (by kernel_rfl) (by simp) ?_
  refine AllReadyH.cons (o := { dst := some 36, op := Go.Op.call { callee := Go.Callee.value (Go.Operand.func 12), args := #[Go.Operand.tmp 35], argTypes := #[38] }, type := 55, pos := "outright.go:93", after := #[{ on := 6, ground := Go.Ground.data }, { on := 5, ground := Go.Ground.chain }, { on := 3, ground := Go.Ground.guard }], guard := some (3, false) }) rfl (fun K hK => ?_) AllReadyH.nil
  go_simp
  refine (tf _).mono ?_
  rintro e w8 ⟨rfl, hb8⟩
  have M8 := hb8.size
  go_wp2_with fail
  refine hK.out _ _ ⟨(hb8.block _ (by omega)).trans hH2.1, (hb8.block _ (by omega)).trans hH2.2⟩ (fun hH3 => ?_)
  clear hK K
  try simp only [Act.put, List.setIfInBounds_toArray, List.set_cons_zero, List.set_cons_succ]
  refine wpAnyH_ready (rs := [8]) (by kernel_rfl) (by simp) ?_
  refine AllReadyH.cons (o := { dst := some 37, op := Go.Op.call { callee := Go.Callee.value (Go.Operand.func 19), args := #[Go.Operand.tmp 34, Go.Operand.tmp 36], argTypes := #[55, 55] }, type := 4, pos := "outright.go:93", after := #[{ on := 5, ground := Go.Ground.data }, { on := 7, ground := Go.Ground.data }, { on := 7, ground := Go.Ground.chain }, { on := 3, ground := Go.Ground.guard }], guard := some (3, false) }) rfl (fun K hK => ?_) AllReadyH.nil
  go_simp
  refine (sm _).mono ?_
  rintro e wk ⟨rfl, hbk⟩
  go_wp2_with fail
  refine hK.out _ _ ⟨(hbk.block _ (by omega)).trans hH3.1, (hbk.block _ (by omega)).trans hH3.2⟩ (fun hH4 => ?_)
  clear hK K
  try simp only [Act.put, List.setIfInBounds_toArray, List.set_cons_zero, List.set_cons_succ]
  refine wpAnyH_take (i := 9) (oi := { dst := some 38, op := Go.Op.unOp Go.UnOp.not 4 (Go.Operand.tmp 37), type := 4, pos := "outright.go:93", after := #[{ on := 8, ground := Go.Ground.data }, { on := 3, ground := Go.Ground.guard }], guard := some (3, false) }) (v := .bool false) rfl (by kernel_rfl) (by kernel_rfl) (by kernel_rfl) (fun _ _ _ h => h) (Or.inl ⟨by rfl, ?_⟩) (by assumption) ?_
  · intro w9 hSw
    go_simp
  try simp only [Act.put, List.setIfInBounds_toArray, List.set_cons_zero, List.set_cons_succ]
  refine wpAnyH_take (i := 10) (oi := { dst := some 39, op := Go.Op.pick (Go.Operand.tmp 32) (Go.Operand.const (Go.Value.bool true)) (Go.Operand.tmp 38), type := 4, pos := "outright.go:93", after := #[{ on := 3, ground := Go.Ground.data }, { on := 9, ground := Go.Ground.data }], guard := none }) (v := .bool false) rfl (by kernel_rfl) (by kernel_rfl) (by kernel_rfl) (fun _ _ _ h => h) (Or.inl ⟨by rfl, ?_⟩) (by assumption) ?_
  · intro w9 hSw
    go_simp
  try simp only [Act.put, List.setIfInBounds_toArray, List.set_cons_zero, List.set_cons_succ]
  refine wpAnyH_done (by kernel_rfl) ?_ _
  have B9 := below_then (below_then (below_then B5 hb7) hb8) hbk
  clear hH0 hH1 hH2 hH3 hH4 R5 Q5
  go_wp2_with (first
    | (go_at_call 18; refine (rx _).mono ?_; rintro e wx ⟨rfl, hbx⟩; have BX := below_then B9 hbx)
    | (with_reducible show wpList _ _ _ _ _ (World.alloc wx _); refine wpList_store_row rfl 38 _ _ rfl wx.heap.size #[.int .i64 y.z.off, .int .i64 y.z.f.m, .int .i64 y.z.f.w, .int .i64 y.z.f.d, .int .i64 y.z.f.h, .int .i64 y.z.t.m, .int .i64 y.z.t.w, .int .i64 y.z.t.d, .int .i64 y.z.t.h, .int .i64 y.days, .int .i64 y.gap, .int .i64 y.first, .int .i64 y.last, .string y.h0, .string y.h1, .string y.h2, .string y.h3, .int .i64 y.b0.x, .int .i64 y.b0.y, .int .i64 y.b0.z, .int .i64 y.b1.x, .int .i64 y.b1.y, .int .i64 y.b1.z, .int .i64 y.b2.x, .int .i64 y.b2.y, .int .i64 y.b2.z, .int .i64 y.d.x, .int .i64 y.d.y, .int .i64 y.d.z, .int .i64 y.np, .int .i64 y.nn, .int .i64 y.fix, .int .i64 y.min, .int .i64 y.tax] rfl rfl 38 _ (heap_alloc_new wx _) (td_info y) (td_size y) (td_one y) ?_)
    | (go_at_call 15; refine (num_any _ _).mono ?_; rintro e wn ⟨rfl, h7⟩; have h8 := h7.symm; subst h8))
  go_ret
  exact ⟨rfl, below_setRow (below_more BX _) BX.size _⟩
theorem walk (t : Trf) (x : ByteArray) (w : World) (ht : TB w) (s0 : t.h0.size ≤ maxLen) (s1 : t.h1.size ≤ maxLen) (s2 : t.h2.size ≤ maxLen) (s3 : t.h3.size ≤ maxLen) (hx : x.size ≤ maxLen) :
    Calls Tryd.prog 5 #[.agg #[.int .i64 t.z.off, .int .i64 t.z.f.m, .int .i64 t.z.f.w, .int .i64 t.z.f.d, .int .i64 t.z.f.h, .int .i64 t.z.t.m, .int .i64 t.z.t.w, .int .i64 t.z.t.d, .int .i64 t.z.t.h, .int .i64 t.days, .int .i64 t.gap, .int .i64 t.first, .int .i64 t.last, .string t.h0, .string t.h1, .string t.h2, .string t.h3, .int .i64 t.b0.x, .int .i64 t.b0.y, .int .i64 t.b0.z, .int .i64 t.b1.x, .int .i64 t.b1.y, .int .i64 t.b1.z, .int .i64 t.b2.x, .int .i64 t.b2.y, .int .i64 t.b2.z, .int .i64 t.d.x, .int .i64 t.d.y, .int .i64 t.d.z, .int .i64 t.np, .int .i64 t.nn, .int .i64 t.fix, .int .i64 t.min, .int .i64 t.tax], .string x] w fun e w' => e = .returned (.bool true) ∧ Below w.heap.size w w' := by
  by_cases hm : badN t < 13
  · by_cases hz : rtE x (rdT x (hrP x)) = 0
    · exact walk_io t x w ht s0 s1 s2 s3 hx hm hz
    · exact walk_in t x w ht s0 s1 s2 s3 hx hm hz
  · have hm' : badN t = 13 := by have := badN_le t; omega
    by_cases hz : rtE x (rdT x (hrP x)) = 0
    · exact walk_vo t x w ht s0 s1 s2 s3 hx hm' hz
    · exact walk_vn t x w ht s0 s1 s2 s3 hx hm' hz
end tariffBack
end Go.Proofs.YtjaffmmocbplaaaDoor
