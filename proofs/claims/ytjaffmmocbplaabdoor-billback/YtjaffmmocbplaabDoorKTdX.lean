/-
  The program's ReadTariff (made by tools/gentdx.py).
-/
import Derived.Test.YtjaffmmocbplaabDoorKTdW
import Derived.Laws.CopyOwn
namespace Go.Proofs.YtjaffmmocbplaabDoor
open Go.RowKit
set_option linter.unusedVariables false
attribute [local go_sem ↓] Go.wp_at_zero Go.wp_at_succ

theorem results_row3 {P : Program} {fn : Func} {p q r : Tmp} {ty : TypeId} (h : fn.results = #[.cell p ty, .tmp q, .tmp r]) (tmps : Array Value) (w : World) (g : Nat) (t : TypeId) (cs : Array Value) (fr : Nat × Nat) (d : TypeDesc)
    (hp : tmps.getD p undef = .pointer (some ⟨g, 0, none⟩)) (hg : w.heap[g]? = some (.cells cs t fr))
    (hu : P.underlying ty = some d) (hd : (match d with | .struct _ | .array _ _ => true | _ => false) = true) (hi : (P.info? ty).map (·.size) = some cs.size) :
    (results fn tmps).run P w = .ok (.tuple #[.agg cs, tmps.getD q undef, tmps.getD r undef]) w := by
  have hp' : tmps[p]?.getD undef = .pointer (some ⟨g, 0, none⟩) := by simpa using hp
  simp [results, h, hp', asAddr, run_loadVar_row w g t ty cs fr d hg hu hd hi]
theorem tz_one : (#[.int .i64 0, .int .i64 0, .int .i64 0, .int .i64 0, .int .i64 0, .int .i64 0, .int .i64 0, .int .i64 0, .int .i64 0, .int .i64 0, .int .i64 0, .int .i64 0, .int .i64 0, .string ByteArray.empty, .string ByteArray.empty, .string ByteArray.empty, .string ByteArray.empty, .int .i64 0, .int .i64 0, .int .i64 0, .int .i64 0, .int .i64 0, .int .i64 0, .int .i64 0, .int .i64 0, .int .i64 0, .int .i64 0, .int .i64 0, .int .i64 0, .int .i64 0, .int .i64 0, .int .i64 0, .int .i64 0, .int .i64 0] : Array Value).all (fun v => v.oneCell') = true := by kernel_rfl
theorem tz_info : (Tryd.prog.info? 54).map (fun i => i.size) = some (#[.int .i64 0, .int .i64 0, .int .i64 0, .int .i64 0, .int .i64 0, .int .i64 0, .int .i64 0, .int .i64 0, .int .i64 0, .int .i64 0, .int .i64 0, .int .i64 0, .int .i64 0, .string ByteArray.empty, .string ByteArray.empty, .string ByteArray.empty, .string ByteArray.empty, .int .i64 0, .int .i64 0, .int .i64 0, .int .i64 0, .int .i64 0, .int .i64 0, .int .i64 0, .int .i64 0, .int .i64 0, .int .i64 0, .int .i64 0, .int .i64 0, .int .i64 0, .int .i64 0, .int .i64 0, .int .i64 0, .int .i64 0] : Array Value).size := by kernel_rfl
/-- what ReadTariff answers -/
def rtE (t : ByteArray) (x : Trf) : Int := if 8000 < t.size then 1 else if (Txt.fin t (sT t 13)).bad then 2 else if badN x < 13 then 5 else 0
def rtA (t : ByteArray) (x : Trf) : Int := if 8000 < t.size then 0 else if (Txt.fin t (sT t 13)).bad then (Txt.fin t (sT t 13)).pos else if badN x < 13 then (lineAt t 0 (badN x) : Int) else 0
def rtV (t : ByteArray) (x : Trf) : Trf := if rtE t x = 0 then x else trf0

set_option maxRecDepth 1000000 in
set_option maxHeartbeats 2000000 in
theorem ReadTariff_long (t : ByteArray) (w : World) (ht : 8000 < t.size) (hm : t.size ≤ maxLen) :
    Calls Tryd.prog 34 #[.string t] w fun e w' => e = .returned (.tuple #[.agg #[.int .i64 0, .int .i64 0, .int .i64 0, .int .i64 0, .int .i64 0, .int .i64 0, .int .i64 0, .int .i64 0, .int .i64 0, .int .i64 0, .int .i64 0, .int .i64 0, .int .i64 0, .string ByteArray.empty, .string ByteArray.empty, .string ByteArray.empty, .string ByteArray.empty, .int .i64 0, .int .i64 0, .int .i64 0, .int .i64 0, .int .i64 0, .int .i64 0, .int .i64 0, .int .i64 0, .int .i64 0, .int .i64 0, .int .i64 0, .int .i64 0, .int .i64 0, .int .i64 0, .int .i64 0, .int .i64 0, .int .i64 0], .int .i64 1, .int .i64 0]) ∧ Below w.heap.size w w' := by
  have h1 : (8000 : Int) < (t.size : Int) := by omega
  have Z0 : (w.alloc (.cells #[.int .i64 0, .int .i64 0, .int .i64 0, .int .i64 0, .int .i64 0, .int .i64 0, .int .i64 0, .int .i64 0, .int .i64 0, .int .i64 0, .int .i64 0, .int .i64 0, .int .i64 0, .string ByteArray.empty, .string ByteArray.empty, .string ByteArray.empty, .string ByteArray.empty, .int .i64 0, .int .i64 0, .int .i64 0, .int .i64 0, .int .i64 0, .int .i64 0, .int .i64 0, .int .i64 0, .int .i64 0, .int .i64 0, .int .i64 0, .int .i64 0, .int .i64 0, .int .i64 0, .int .i64 0, .int .i64 0, .int .i64 0] 54)).heap[w.heap.size]? = some (.cells #[.int .i64 0, .int .i64 0, .int .i64 0, .int .i64 0, .int .i64 0, .int .i64 0, .int .i64 0, .int .i64 0, .int .i64 0, .int .i64 0, .int .i64 0, .int .i64 0, .int .i64 0, .string ByteArray.empty, .string ByteArray.empty, .string ByteArray.empty, .string ByteArray.empty, .int .i64 0, .int .i64 0, .int .i64 0, .int .i64 0, .int .i64 0, .int .i64 0, .int .i64 0, .int .i64 0, .int .i64 0, .int .i64 0, .int .i64 0, .int .i64 0, .int .i64 0, .int .i64 0, .int .i64 0, .int .i64 0, .int .i64 0] 54) := heap_alloc_new _ _
  go_enter Tryd.func34, Tryd.ntmps34
  go_wp2_with (refine wpList_store_row rfl 54 _ _ rfl w.heap.size #[.int .i64 0, .int .i64 0, .int .i64 0, .int .i64 0, .int .i64 0, .int .i64 0, .int .i64 0, .int .i64 0, .int .i64 0, .int .i64 0, .int .i64 0, .int .i64 0, .int .i64 0, .string ByteArray.empty, .string ByteArray.empty, .string ByteArray.empty, .string ByteArray.empty, .int .i64 0, .int .i64 0, .int .i64 0, .int .i64 0, .int .i64 0, .int .i64 0, .int .i64 0, .int .i64 0, .int .i64 0, .int .i64 0, .int .i64 0, .int .i64 0, .int .i64 0, .int .i64 0, .int .i64 0, .int .i64 0, .int .i64 0] rfl rfl 54 _ Z0 tz_info rfl tz_one ?_)
  exact bodyPost_ret (results_row3 rfl _ _ w.heap.size 54 _ (0, 0) _ rfl (setRow_heap _ _ _ _ _ _ Z0) Tryd.underlying54 rfl tz_info) rfl ⟨rfl, below_setRow (below_more (Below.refl _ _) _) (Nat.le_refl _) _⟩

set_option maxRecDepth 1000000 in
set_option maxHeartbeats 2000000 in
theorem ReadTariff_bad (t : ByteArray) (x : Trf) (hx : x = rdT t (hrP t)) (w : World) (ht : t.size ≤ 8000) (hbad : (Txt.fin t (sT t 13)).bad = true) :
    Calls Tryd.prog 34 #[.string t] w fun e w' => e = .returned (.tuple #[.agg #[.int .i64 0, .int .i64 0, .int .i64 0, .int .i64 0, .int .i64 0, .int .i64 0, .int .i64 0, .int .i64 0, .int .i64 0, .int .i64 0, .int .i64 0, .int .i64 0, .int .i64 0, .string ByteArray.empty, .string ByteArray.empty, .string ByteArray.empty, .string ByteArray.empty, .int .i64 0, .int .i64 0, .int .i64 0, .int .i64 0, .int .i64 0, .int .i64 0, .int .i64 0, .int .i64 0, .int .i64 0, .int .i64 0, .int .i64 0, .int .i64 0, .int .i64 0, .int .i64 0, .int .i64 0, .int .i64 0, .int .i64 0], .int .i64 2, .int .i64 (Txt.fin t (sT t 13)).pos]) ∧ Below w.heap.size w w' := by
  have h1 : ¬ (8000 : Int) < (t.size : Int) := by omega
  have cT := fun W (h : ScanAt W (w.heap.size + 1) t (sT t 0)) => scan_tariff_any t x hx (w.heap.size + 1) W h (by omega)
  have cE := fun W (h : ScanAt W (w.heap.size + 1) t (sT t 13)) => end_any t (sT t 13) (w.heap.size + 1) W h (sT_le t 13) (by omega)
  have sz0 : x.h0.size ≤ maxLen := by rw [hx]; show (hrP t 3).size ≤ _; rw [hrP_size]; unfold maxLen; omega
  have sz1 : x.h1.size ≤ maxLen := by rw [hx]; show (hrP t 4).size ≤ _; rw [hrP_size]; unfold maxLen; omega
  have sz2 : x.h2.size ≤ maxLen := by rw [hx]; show (hrP t 5).size ≤ _; rw [hrP_size]; unfold maxLen; omega
  have sz3 : x.h3.size ≤ maxLen := by rw [hx]; show (hrP t 6).size ≤ _; rw [hrP_size]; unfold maxLen; omega
  have bl := fun W => badLine_any x W sz0 sz1 sz2 sz3
  obtain ⟨Q, hQ⟩ : ∃ Q, Q = Txt.fin t (sT t 13) := ⟨_, rfl⟩
  rw [← hQ] at cE hbad
  rw [← hQ]
  clear hQ hx sz0 sz1 sz2 sz3
  have SA : ScanAt ((w.alloc (.cells #[.int .i64 0, .int .i64 0, .int .i64 0, .int .i64 0, .int .i64 0, .int .i64 0, .int .i64 0, .int .i64 0, .int .i64 0, .int .i64 0, .int .i64 0, .int .i64 0, .int .i64 0, .string ByteArray.empty, .string ByteArray.empty, .string ByteArray.empty, .string ByteArray.empty, .int .i64 0, .int .i64 0, .int .i64 0, .int .i64 0, .int .i64 0, .int .i64 0, .int .i64 0, .int .i64 0, .int .i64 0, .int .i64 0, .int .i64 0, .int .i64 0, .int .i64 0, .int .i64 0, .int .i64 0, .int .i64 0, .int .i64 0] 54)).alloc (.cells #[.string t, .int .i64 0, .bool false] 70)) (w.heap.size + 1) t (sT t 0) := ⟨by simp, by simp [go_sem], by simp [go_sem, sT], by simp [go_sem, sT], by simp [go_sem], by simp [go_sem]⟩
  have ZA : ((w.alloc (.cells #[.int .i64 0, .int .i64 0, .int .i64 0, .int .i64 0, .int .i64 0, .int .i64 0, .int .i64 0, .int .i64 0, .int .i64 0, .int .i64 0, .int .i64 0, .int .i64 0, .int .i64 0, .string ByteArray.empty, .string ByteArray.empty, .string ByteArray.empty, .string ByteArray.empty, .int .i64 0, .int .i64 0, .int .i64 0, .int .i64 0, .int .i64 0, .int .i64 0, .int .i64 0, .int .i64 0, .int .i64 0, .int .i64 0, .int .i64 0, .int .i64 0, .int .i64 0, .int .i64 0, .int .i64 0, .int .i64 0, .int .i64 0] 54)).alloc (.cells #[.string t, .int .i64 0, .bool false] 70)).heap[w.heap.size]? = some (.cells #[.int .i64 0, .int .i64 0, .int .i64 0, .int .i64 0, .int .i64 0, .int .i64 0, .int .i64 0, .int .i64 0, .int .i64 0, .int .i64 0, .int .i64 0, .int .i64 0, .int .i64 0, .string ByteArray.empty, .string ByteArray.empty, .string ByteArray.empty, .string ByteArray.empty, .int .i64 0, .int .i64 0, .int .i64 0, .int .i64 0, .int .i64 0, .int .i64 0, .int .i64 0, .int .i64 0, .int .i64 0, .int .i64 0, .int .i64 0, .int .i64 0, .int .i64 0, .int .i64 0, .int .i64 0, .int .i64 0, .int .i64 0] 54) := (heap_alloc_old _ _ (by simp)).trans (heap_alloc_new _ _)
  have BA : Below w.heap.size w ((w.alloc (.cells #[.int .i64 0, .int .i64 0, .int .i64 0, .int .i64 0, .int .i64 0, .int .i64 0, .int .i64 0, .int .i64 0, .int .i64 0, .int .i64 0, .int .i64 0, .int .i64 0, .int .i64 0, .string ByteArray.empty, .string ByteArray.empty, .string ByteArray.empty, .string ByteArray.empty, .int .i64 0, .int .i64 0, .int .i64 0, .int .i64 0, .int .i64 0, .int .i64 0, .int .i64 0, .int .i64 0, .int .i64 0, .int .i64 0, .int .i64 0, .int .i64 0, .int .i64 0, .int .i64 0, .int .i64 0, .int .i64 0, .int .i64 0] 54)).alloc (.cells #[.string t, .int .i64 0, .bool false] 70)) := below_more (below_more (Below.refl _ _) _) _
  have NA : ((w.alloc (.cells #[.int .i64 0, .int .i64 0, .int .i64 0, .int .i64 0, .int .i64 0, .int .i64 0, .int .i64 0, .int .i64 0, .int .i64 0, .int .i64 0, .int .i64 0, .int .i64 0, .int .i64 0, .string ByteArray.empty, .string ByteArray.empty, .string ByteArray.empty, .string ByteArray.empty, .int .i64 0, .int .i64 0, .int .i64 0, .int .i64 0, .int .i64 0, .int .i64 0, .int .i64 0, .int .i64 0, .int .i64 0, .int .i64 0, .int .i64 0, .int .i64 0, .int .i64 0, .int .i64 0, .int .i64 0, .int .i64 0, .int .i64 0] 54)).alloc (.cells #[.string t, .int .i64 0, .bool false] 70)).heap.size = w.heap.size + 2 := by simp
  go_enter Tryd.func34, Tryd.ntmps34
  go_upto_region 4 with fail
  refine wp_world (fun wA hwA => ?_)
  replace SA : ScanAt wA (w.heap.size + 1) t (sT t 0) := by rw [hwA]; exact SA
  replace ZA : wA.heap[w.heap.size]? = some (.cells #[.int .i64 0, .int .i64 0, .int .i64 0, .int .i64 0, .int .i64 0, .int .i64 0, .int .i64 0, .int .i64 0, .int .i64 0, .int .i64 0, .int .i64 0, .int .i64 0, .int .i64 0, .string ByteArray.empty, .string ByteArray.empty, .string ByteArray.empty, .string ByteArray.empty, .int .i64 0, .int .i64 0, .int .i64 0, .int .i64 0, .int .i64 0, .int .i64 0, .int .i64 0, .int .i64 0, .int .i64 0, .int .i64 0, .int .i64 0, .int .i64 0, .int .i64 0, .int .i64 0, .int .i64 0, .int .i64 0, .int .i64 0] 54) := by rw [hwA]; exact ZA
  replace BA : Below w.heap.size w wA := by rw [hwA]; exact BA
  replace NA : wA.heap.size = w.heap.size + 2 := by rw [hwA]; exact NA
  clear hwA
  go_upto_region 5 with (first
    | (go_at_call 60; refine (cT _ SA).mono ?_; rintro e w1 ⟨rfl, g1, s1⟩; have Z1 := (g1.block w.heap.size (by omega) (fun e => by injection e with e; omega)).trans ZA; have N1 := g1.size; have B1 := Below.grown BA g1 (by omega) (fun j hj => by injection hj with hj; omega))
    | (with_reducible show wpList _ _ _ _ _ (World.alloc _ _); refine wpList_store_row rfl 54 _ _ rfl w1.heap.size #[.int .i64 x.z.off, .int .i64 x.z.f.m, .int .i64 x.z.f.w, .int .i64 x.z.f.d, .int .i64 x.z.f.h, .int .i64 x.z.t.m, .int .i64 x.z.t.w, .int .i64 x.z.t.d, .int .i64 x.z.t.h, .int .i64 x.days, .int .i64 x.gap, .int .i64 x.first, .int .i64 x.last, .string x.h0, .string x.h1, .string x.h2, .string x.h3, .int .i64 x.b0.x, .int .i64 x.b0.y, .int .i64 x.b0.z, .int .i64 x.b1.x, .int .i64 x.b1.y, .int .i64 x.b1.z, .int .i64 x.b2.x, .int .i64 x.b2.y, .int .i64 x.b2.z, .int .i64 x.d.x, .int .i64 x.d.y, .int .i64 x.d.z, .int .i64 x.np, .int .i64 x.nn, .int .i64 x.fix, .int .i64 x.min, .int .i64 x.tax] rfl rfl 54 _ (heap_alloc_new w1 _) (td_info x) (td_size x) (td_one x) ?_))
  refine wp_world (fun w2 hw2 => ?_)
  have s2 : ScanAt w2 (w.heap.size + 1) t (sT t 13) := by rw [hw2]; exact scan_row (s1.alloc _) (by omega) _
  have Z2 : w2.heap[w.heap.size]? = some (.cells #[.int .i64 0, .int .i64 0, .int .i64 0, .int .i64 0, .int .i64 0, .int .i64 0, .int .i64 0, .int .i64 0, .int .i64 0, .int .i64 0, .int .i64 0, .int .i64 0, .int .i64 0, .string ByteArray.empty, .string ByteArray.empty, .string ByteArray.empty, .string ByteArray.empty, .int .i64 0, .int .i64 0, .int .i64 0, .int .i64 0, .int .i64 0, .int .i64 0, .int .i64 0, .int .i64 0, .int .i64 0, .int .i64 0, .int .i64 0, .int .i64 0, .int .i64 0, .int .i64 0, .int .i64 0, .int .i64 0, .int .i64 0] 54) := by rw [hw2]; exact (setRow_other _ _ _ _ (by omega)).trans ((heap_alloc_old _ _ (by omega)).trans Z1)
  have R2 : w2.heap[w1.heap.size]? = some (.cells #[.int .i64 x.z.off, .int .i64 x.z.f.m, .int .i64 x.z.f.w, .int .i64 x.z.f.d, .int .i64 x.z.f.h, .int .i64 x.z.t.m, .int .i64 x.z.t.w, .int .i64 x.z.t.d, .int .i64 x.z.t.h, .int .i64 x.days, .int .i64 x.gap, .int .i64 x.first, .int .i64 x.last, .string x.h0, .string x.h1, .string x.h2, .string x.h3, .int .i64 x.b0.x, .int .i64 x.b0.y, .int .i64 x.b0.z, .int .i64 x.b1.x, .int .i64 x.b1.y, .int .i64 x.b1.z, .int .i64 x.b2.x, .int .i64 x.b2.y, .int .i64 x.b2.z, .int .i64 x.d.x, .int .i64 x.d.y, .int .i64 x.d.z, .int .i64 x.np, .int .i64 x.nn, .int .i64 x.fix, .int .i64 x.min, .int .i64 x.tax] 54) := by rw [hw2]; exact setRow_heap _ _ _ _ _ _ (heap_alloc_new w1 _)
  have B2 : Below w.heap.size w w2 := by rw [hw2]; exact below_setRow (below_more B1 _) (by omega) _
  have N2 : w1.heap.size < w2.heap.size := (Array.getElem?_eq_some_iff.1 R2).1
  clear hw2 s1 Z1 B1 g1 cT SA ZA BA
  go_upto_region 6 with (go_at_call 23; refine (cE _ s2).mono ?_; rintro e w3 ⟨rfl, g3, s3⟩)
  have Z3 := (g3.block w.heap.size (by omega) (fun e => by injection e with e; omega)).trans Z2
  have R3 := (g3.block w1.heap.size (by omega) (fun e => by injection e with e; omega)).trans R2
  have B3 := Below.grown B2 g3 (by omega) (fun j hj => by injection hj with hj; omega)
  have N3 := g3.size
  have c1 := s3.c1
  have c2 := s3.c2
  rw [hbad] at c2
  clear g3 s2 Z2 R2 B2 cE s3
  go_wp2_with fail
  refine wp_region_held_drew (S := fun w' => w'.cell? ⟨w.heap.size + 1, 1, none⟩ = some (.int .i64 Q.pos)) (by kernel_rfl) c1 (fun hH0 => ?_)
  refine wpAnyH_take (i := 0) (oi := { dst := some 18, op := Go.Op.build 54 #[], type := 54, pos := "tariff.go:36", after := #[], guard := none }) (v := .agg #[.int .i64 0, .int .i64 0, .int .i64 0, .int .i64 0, .int .i64 0, .int .i64 0, .int .i64 0, .int .i64 0, .int .i64 0, .int .i64 0, .int .i64 0, .int .i64 0, .int .i64 0, .string ByteArray.empty, .string ByteArray.empty, .string ByteArray.empty, .string ByteArray.empty, .int .i64 0, .int .i64 0, .int .i64 0, .int .i64 0, .int .i64 0, .int .i64 0, .int .i64 0, .int .i64 0, .int .i64 0, .int .i64 0, .int .i64 0, .int .i64 0, .int .i64 0, .int .i64 0, .int .i64 0, .int .i64 0, .int .i64 0]) rfl (by kernel_rfl) (by kernel_rfl) (by kernel_rfl) (fun _ _ _ h => h) (Or.inl ⟨by rfl, ?_⟩) (by assumption) ?_
  · intro w9 hSw
    go_simp; rfl
  try simp only [Act.put, List.setIfInBounds_toArray, List.set_cons_zero, List.set_cons_succ]
  refine wpAnyH_take (i := 1) (oi := { dst := some 19, op := Go.Op.fieldAddr 70 (Go.Operand.tmp 5) 1, type := 0, pos := "tariff.go:36", after := #[{ on := 4, ground := Go.Ground.gcOnly Go.Departure.lateStores }], guard := none }) (v := .pointer (some ⟨w.heap.size + 1, 1, none⟩)) rfl (by kernel_rfl) (by kernel_rfl) (by kernel_rfl) (fun _ _ _ h => h) (Or.inl ⟨by rfl, ?_⟩) (by assumption) ?_
  · intro w9 hSw
    go_simp
  try simp only [Act.put, List.setIfInBounds_toArray, List.set_cons_zero, List.set_cons_succ]
  refine wpAnyH_take (i := 2) (oi := { dst := some 20, op := Go.Op.load 3 (Go.Operand.tmp 19), type := 3, pos := "tariff.go:36", after := #[{ on := 1, ground := Go.Ground.data }, { on := 4, ground := Go.Ground.gcOnly Go.Departure.lateStores }], guard := none }) (v := .int .i64 (Q.pos : Int)) rfl (by kernel_rfl) (by kernel_rfl) (by kernel_rfl) (fun _ _ _ h => h) (Or.inl ⟨by rfl, ?_⟩) (by assumption) ?_
  · intro w9 hSw
    go_simp
  try simp only [Act.put, List.setIfInBounds_toArray, List.set_cons_zero, List.set_cons_succ]
  refine wpAnyH_ready (rs := [3]) (by kernel_rfl) (by simp) ?_
  refine AllReadyH.cons (o := { dst := none, op := Go.Op.store 54 (Go.Operand.tmp 2) (Go.Operand.tmp 18), type := 0, pos := "tariff.go:36", after := #[{ on := 0, ground := Go.Ground.data }, { on := 0, ground := Go.Ground.phase }, { on := 1, ground := Go.Ground.textOnly Go.Departure.lateStores }, { on := 2, ground := Go.Ground.textOnly Go.Departure.lateStores }], guard := none }) rfl (fun K hK => ?_) AllReadyH.nil
  rw [if_pos (by rfl)]
  refine wp_store_row 54 _ _ rfl w.heap.size #[.int .i64 0, .int .i64 0, .int .i64 0, .int .i64 0, .int .i64 0, .int .i64 0, .int .i64 0, .int .i64 0, .int .i64 0, .int .i64 0, .int .i64 0, .int .i64 0, .int .i64 0, .string ByteArray.empty, .string ByteArray.empty, .string ByteArray.empty, .string ByteArray.empty, .int .i64 0, .int .i64 0, .int .i64 0, .int .i64 0, .int .i64 0, .int .i64 0, .int .i64 0, .int .i64 0, .int .i64 0, .int .i64 0, .int .i64 0, .int .i64 0, .int .i64 0, .int .i64 0, .int .i64 0, .int .i64 0, .int .i64 0] rfl rfl 54 _ Z3 tz_info rfl tz_one ?_
  refine hK.out _ _ ((cell_setRow_other _ _ _ _ (by show w.heap.size + 1 ≠ w.heap.size; omega)).trans hH0) (fun hH1 => ?_)
  clear hK K
  try simp only [Act.put]
  refine wpAnyH_take (i := 4) (oi := { dst := some 3, op := Go.Op.assign (Go.Operand.const (Go.Value.int Go.IntKind.i64 2)), type := 27, pos := "tariff.go:36", after := #[{ on := 3, ground := Go.Ground.chain }, { on := 0, ground := Go.Ground.phase }, { on := 1, ground := Go.Ground.textOnly Go.Departure.lateStores }, { on := 2, ground := Go.Ground.textOnly Go.Departure.lateStores }, { on := 3, ground := Go.Ground.phase }], guard := none }) (v := .int .i64 2) rfl (by kernel_rfl) (by kernel_rfl) (by kernel_rfl) (fun _ _ _ h => h) (Or.inl ⟨by rfl, ?_⟩) (by assumption) ?_
  · intro w9 hSw
    go_simp
  try simp only [Act.put, List.setIfInBounds_toArray, List.set_cons_zero, List.set_cons_succ]
  refine wpAnyH_take (i := 5) (oi := { dst := some 4, op := Go.Op.assign (Go.Operand.tmp 20), type := 3, pos := "tariff.go:36", after := #[{ on := 2, ground := Go.Ground.data }, { on := 4, ground := Go.Ground.chain }, { on := 0, ground := Go.Ground.phase }, { on := 1, ground := Go.Ground.phase }, { on := 2, ground := Go.Ground.phase }, { on := 3, ground := Go.Ground.phase }, { on := 4, ground := Go.Ground.phase }], guard := none }) (v := .int .i64 (Q.pos : Int)) rfl (by kernel_rfl) (by kernel_rfl) (by kernel_rfl) (fun _ _ _ h => h) (Or.inl ⟨by rfl, ?_⟩) (by assumption) ?_
  · intro w9 hSw
    go_simp
  try simp only [Act.put, List.setIfInBounds_toArray, List.set_cons_zero, List.set_cons_succ]
  refine wpAnyH_done (by kernel_rfl) ?_ _
  go_wp2_with fail
  exact bodyPost_ret (results_row3 rfl _ _ w.heap.size 54 _ (0, 0) _ rfl (setRow_heap _ _ _ _ _ _ Z3) Tryd.underlying54 rfl tz_info) rfl ⟨rfl, below_setRow (Below.drew B3) (Nat.le_refl _) _⟩

set_option maxRecDepth 1000000 in
set_option maxHeartbeats 2000000 in
theorem ReadTariff_term (t : ByteArray) (x : Trf) (hx : x = rdT t (hrP t)) (w : World) (ht : t.size ≤ 8000) (hbad : (Txt.fin t (sT t 13)).bad = false) (hn : badN x < 13) :
    Calls Tryd.prog 34 #[.string t] w fun e w' => e = .returned (.tuple #[.agg #[.int .i64 0, .int .i64 0, .int .i64 0, .int .i64 0, .int .i64 0, .int .i64 0, .int .i64 0, .int .i64 0, .int .i64 0, .int .i64 0, .int .i64 0, .int .i64 0, .int .i64 0, .string ByteArray.empty, .string ByteArray.empty, .string ByteArray.empty, .string ByteArray.empty, .int .i64 0, .int .i64 0, .int .i64 0, .int .i64 0, .int .i64 0, .int .i64 0, .int .i64 0, .int .i64 0, .int .i64 0, .int .i64 0, .int .i64 0, .int .i64 0, .int .i64 0, .int .i64 0, .int .i64 0, .int .i64 0, .int .i64 0], .int .i64 5, .int .i64 (lineAt t 0 (badN x))]) ∧ Below w.heap.size w w' := by
  have h1 : ¬ (8000 : Int) < (t.size : Int) := by omega
  have cT := fun W (h : ScanAt W (w.heap.size + 1) t (sT t 0)) => scan_tariff_any t x hx (w.heap.size + 1) W h (by omega)
  have cE := fun W (h : ScanAt W (w.heap.size + 1) t (sT t 13)) => end_any t (sT t 13) (w.heap.size + 1) W h (sT_le t 13) (by omega)
  have sz0 : x.h0.size ≤ maxLen := by rw [hx]; show (hrP t 3).size ≤ _; rw [hrP_size]; unfold maxLen; omega
  have sz1 : x.h1.size ≤ maxLen := by rw [hx]; show (hrP t 4).size ≤ _; rw [hrP_size]; unfold maxLen; omega
  have sz2 : x.h2.size ≤ maxLen := by rw [hx]; show (hrP t 5).size ≤ _; rw [hrP_size]; unfold maxLen; omega
  have sz3 : x.h3.size ≤ maxLen := by rw [hx]; show (hrP t 6).size ≤ _; rw [hrP_size]; unfold maxLen; omega
  have bl := fun W => badLine_any x W sz0 sz1 sz2 sz3
  obtain ⟨Q, hQ⟩ : ∃ Q, Q = Txt.fin t (sT t 13) := ⟨_, rfl⟩
  rw [← hQ] at cE hbad
  have ls := fun W => lineStart_any t (badN x) W (by omega) (by omega)
  obtain ⟨N, hN⟩ : ∃ N, N = badN x := ⟨_, rfl⟩
  rw [← hN] at bl ls hn
  rw [← hN]
  have hn' : (N : Int) < 13 := by omega
  clear hN
  clear hQ hx sz0 sz1 sz2 sz3
  have SA : ScanAt ((w.alloc (.cells #[.int .i64 0, .int .i64 0, .int .i64 0, .int .i64 0, .int .i64 0, .int .i64 0, .int .i64 0, .int .i64 0, .int .i64 0, .int .i64 0, .int .i64 0, .int .i64 0, .int .i64 0, .string ByteArray.empty, .string ByteArray.empty, .string ByteArray.empty, .string ByteArray.empty, .int .i64 0, .int .i64 0, .int .i64 0, .int .i64 0, .int .i64 0, .int .i64 0, .int .i64 0, .int .i64 0, .int .i64 0, .int .i64 0, .int .i64 0, .int .i64 0, .int .i64 0, .int .i64 0, .int .i64 0, .int .i64 0, .int .i64 0] 54)).alloc (.cells #[.string t, .int .i64 0, .bool false] 70)) (w.heap.size + 1) t (sT t 0) := ⟨by simp, by simp [go_sem], by simp [go_sem, sT], by simp [go_sem, sT], by simp [go_sem], by simp [go_sem]⟩
  have ZA : ((w.alloc (.cells #[.int .i64 0, .int .i64 0, .int .i64 0, .int .i64 0, .int .i64 0, .int .i64 0, .int .i64 0, .int .i64 0, .int .i64 0, .int .i64 0, .int .i64 0, .int .i64 0, .int .i64 0, .string ByteArray.empty, .string ByteArray.empty, .string ByteArray.empty, .string ByteArray.empty, .int .i64 0, .int .i64 0, .int .i64 0, .int .i64 0, .int .i64 0, .int .i64 0, .int .i64 0, .int .i64 0, .int .i64 0, .int .i64 0, .int .i64 0, .int .i64 0, .int .i64 0, .int .i64 0, .int .i64 0, .int .i64 0, .int .i64 0] 54)).alloc (.cells #[.string t, .int .i64 0, .bool false] 70)).heap[w.heap.size]? = some (.cells #[.int .i64 0, .int .i64 0, .int .i64 0, .int .i64 0, .int .i64 0, .int .i64 0, .int .i64 0, .int .i64 0, .int .i64 0, .int .i64 0, .int .i64 0, .int .i64 0, .int .i64 0, .string ByteArray.empty, .string ByteArray.empty, .string ByteArray.empty, .string ByteArray.empty, .int .i64 0, .int .i64 0, .int .i64 0, .int .i64 0, .int .i64 0, .int .i64 0, .int .i64 0, .int .i64 0, .int .i64 0, .int .i64 0, .int .i64 0, .int .i64 0, .int .i64 0, .int .i64 0, .int .i64 0, .int .i64 0, .int .i64 0] 54) := (heap_alloc_old _ _ (by simp)).trans (heap_alloc_new _ _)
  have BA : Below w.heap.size w ((w.alloc (.cells #[.int .i64 0, .int .i64 0, .int .i64 0, .int .i64 0, .int .i64 0, .int .i64 0, .int .i64 0, .int .i64 0, .int .i64 0, .int .i64 0, .int .i64 0, .int .i64 0, .int .i64 0, .string ByteArray.empty, .string ByteArray.empty, .string ByteArray.empty, .string ByteArray.empty, .int .i64 0, .int .i64 0, .int .i64 0, .int .i64 0, .int .i64 0, .int .i64 0, .int .i64 0, .int .i64 0, .int .i64 0, .int .i64 0, .int .i64 0, .int .i64 0, .int .i64 0, .int .i64 0, .int .i64 0, .int .i64 0, .int .i64 0] 54)).alloc (.cells #[.string t, .int .i64 0, .bool false] 70)) := below_more (below_more (Below.refl _ _) _) _
  have NA : ((w.alloc (.cells #[.int .i64 0, .int .i64 0, .int .i64 0, .int .i64 0, .int .i64 0, .int .i64 0, .int .i64 0, .int .i64 0, .int .i64 0, .int .i64 0, .int .i64 0, .int .i64 0, .int .i64 0, .string ByteArray.empty, .string ByteArray.empty, .string ByteArray.empty, .string ByteArray.empty, .int .i64 0, .int .i64 0, .int .i64 0, .int .i64 0, .int .i64 0, .int .i64 0, .int .i64 0, .int .i64 0, .int .i64 0, .int .i64 0, .int .i64 0, .int .i64 0, .int .i64 0, .int .i64 0, .int .i64 0, .int .i64 0, .int .i64 0] 54)).alloc (.cells #[.string t, .int .i64 0, .bool false] 70)).heap.size = w.heap.size + 2 := by simp
  go_enter Tryd.func34, Tryd.ntmps34
  go_upto_region 4 with fail
  refine wp_world (fun wA hwA => ?_)
  replace SA : ScanAt wA (w.heap.size + 1) t (sT t 0) := by rw [hwA]; exact SA
  replace ZA : wA.heap[w.heap.size]? = some (.cells #[.int .i64 0, .int .i64 0, .int .i64 0, .int .i64 0, .int .i64 0, .int .i64 0, .int .i64 0, .int .i64 0, .int .i64 0, .int .i64 0, .int .i64 0, .int .i64 0, .int .i64 0, .string ByteArray.empty, .string ByteArray.empty, .string ByteArray.empty, .string ByteArray.empty, .int .i64 0, .int .i64 0, .int .i64 0, .int .i64 0, .int .i64 0, .int .i64 0, .int .i64 0, .int .i64 0, .int .i64 0, .int .i64 0, .int .i64 0, .int .i64 0, .int .i64 0, .int .i64 0, .int .i64 0, .int .i64 0, .int .i64 0] 54) := by rw [hwA]; exact ZA
  replace BA : Below w.heap.size w wA := by rw [hwA]; exact BA
  replace NA : wA.heap.size = w.heap.size + 2 := by rw [hwA]; exact NA
  clear hwA
  go_upto_region 5 with (first
    | (go_at_call 60; refine (cT _ SA).mono ?_; rintro e w1 ⟨rfl, g1, s1⟩; have Z1 := (g1.block w.heap.size (by omega) (fun e => by injection e with e; omega)).trans ZA; have N1 := g1.size; have B1 := Below.grown BA g1 (by omega) (fun j hj => by injection hj with hj; omega))
    | (with_reducible show wpList _ _ _ _ _ (World.alloc _ _); refine wpList_store_row rfl 54 _ _ rfl w1.heap.size #[.int .i64 x.z.off, .int .i64 x.z.f.m, .int .i64 x.z.f.w, .int .i64 x.z.f.d, .int .i64 x.z.f.h, .int .i64 x.z.t.m, .int .i64 x.z.t.w, .int .i64 x.z.t.d, .int .i64 x.z.t.h, .int .i64 x.days, .int .i64 x.gap, .int .i64 x.first, .int .i64 x.last, .string x.h0, .string x.h1, .string x.h2, .string x.h3, .int .i64 x.b0.x, .int .i64 x.b0.y, .int .i64 x.b0.z, .int .i64 x.b1.x, .int .i64 x.b1.y, .int .i64 x.b1.z, .int .i64 x.b2.x, .int .i64 x.b2.y, .int .i64 x.b2.z, .int .i64 x.d.x, .int .i64 x.d.y, .int .i64 x.d.z, .int .i64 x.np, .int .i64 x.nn, .int .i64 x.fix, .int .i64 x.min, .int .i64 x.tax] rfl rfl 54 _ (heap_alloc_new w1 _) (td_info x) (td_size x) (td_one x) ?_))
  refine wp_world (fun w2 hw2 => ?_)
  have s2 : ScanAt w2 (w.heap.size + 1) t (sT t 13) := by rw [hw2]; exact scan_row (s1.alloc _) (by omega) _
  have Z2 : w2.heap[w.heap.size]? = some (.cells #[.int .i64 0, .int .i64 0, .int .i64 0, .int .i64 0, .int .i64 0, .int .i64 0, .int .i64 0, .int .i64 0, .int .i64 0, .int .i64 0, .int .i64 0, .int .i64 0, .int .i64 0, .string ByteArray.empty, .string ByteArray.empty, .string ByteArray.empty, .string ByteArray.empty, .int .i64 0, .int .i64 0, .int .i64 0, .int .i64 0, .int .i64 0, .int .i64 0, .int .i64 0, .int .i64 0, .int .i64 0, .int .i64 0, .int .i64 0, .int .i64 0, .int .i64 0, .int .i64 0, .int .i64 0, .int .i64 0, .int .i64 0] 54) := by rw [hw2]; exact (setRow_other _ _ _ _ (by omega)).trans ((heap_alloc_old _ _ (by omega)).trans Z1)
  have R2 : w2.heap[w1.heap.size]? = some (.cells #[.int .i64 x.z.off, .int .i64 x.z.f.m, .int .i64 x.z.f.w, .int .i64 x.z.f.d, .int .i64 x.z.f.h, .int .i64 x.z.t.m, .int .i64 x.z.t.w, .int .i64 x.z.t.d, .int .i64 x.z.t.h, .int .i64 x.days, .int .i64 x.gap, .int .i64 x.first, .int .i64 x.last, .string x.h0, .string x.h1, .string x.h2, .string x.h3, .int .i64 x.b0.x, .int .i64 x.b0.y, .int .i64 x.b0.z, .int .i64 x.b1.x, .int .i64 x.b1.y, .int .i64 x.b1.z, .int .i64 x.b2.x, .int .i64 x.b2.y, .int .i64 x.b2.z, .int .i64 x.d.x, .int .i64 x.d.y, .int .i64 x.d.z, .int .i64 x.np, .int .i64 x.nn, .int .i64 x.fix, .int .i64 x.min, .int .i64 x.tax] 54) := by rw [hw2]; exact setRow_heap _ _ _ _ _ _ (heap_alloc_new w1 _)
  have B2 : Below w.heap.size w w2 := by rw [hw2]; exact below_setRow (below_more B1 _) (by omega) _
  have N2 : w1.heap.size < w2.heap.size := (Array.getElem?_eq_some_iff.1 R2).1
  clear hw2 s1 Z1 B1 g1 cT SA ZA BA
  go_upto_region 6 with (go_at_call 23; refine (cE _ s2).mono ?_; rintro e w3 ⟨rfl, g3, s3⟩)
  have Z3 := (g3.block w.heap.size (by omega) (fun e => by injection e with e; omega)).trans Z2
  have R3 := (g3.block w1.heap.size (by omega) (fun e => by injection e with e; omega)).trans R2
  have B3 := Below.grown B2 g3 (by omega) (fun j hj => by injection hj with hj; omega)
  have N3 := g3.size
  have c1 := s3.c1
  have c2 := s3.c2
  rw [hbad] at c2
  clear g3 s2 Z2 R2 B2 cE s3
  go_wp2_with (first
    | (with_reducible show wpList _ _ _ _ _ w3; refine wpList_load_row rfl 54 _ rfl w1.heap.size rfl 54 _ (0, 0) _ R3 Tryd.underlying54 rfl (by kernel_rfl) ?_)
    | (go_at_call 30; refine (bl _).mono ?_; rintro e w4 ⟨rfl, hb4⟩; have Z4 := (hb4.block w.heap.size (by omega)).trans Z3; have R4 := (hb4.block w1.heap.size (by omega)).trans R3; have B4 := below_then B3 hb4)
    | (go_at_call 61; refine (ls _).mono ?_; rintro e w7 ⟨rfl, h7⟩; have h8 := h7.symm; subst h8)
    | (with_reducible show wpList _ _ _ _ _ w4; refine wpList_store_row rfl 54 _ _ rfl w.heap.size #[.int .i64 0, .int .i64 0, .int .i64 0, .int .i64 0, .int .i64 0, .int .i64 0, .int .i64 0, .int .i64 0, .int .i64 0, .int .i64 0, .int .i64 0, .int .i64 0, .int .i64 0, .string ByteArray.empty, .string ByteArray.empty, .string ByteArray.empty, .string ByteArray.empty, .int .i64 0, .int .i64 0, .int .i64 0, .int .i64 0, .int .i64 0, .int .i64 0, .int .i64 0, .int .i64 0, .int .i64 0, .int .i64 0, .int .i64 0, .int .i64 0, .int .i64 0, .int .i64 0, .int .i64 0, .int .i64 0, .int .i64 0] rfl rfl 54 _ Z4 tz_info rfl tz_one ?_))
  exact bodyPost_ret (results_row3 rfl _ _ w.heap.size 54 _ (0, 0) _ rfl (setRow_heap _ _ _ _ _ _ Z4) Tryd.underlying54 rfl tz_info) rfl ⟨rfl, below_setRow B4 (Nat.le_refl _) _⟩

set_option maxRecDepth 1000000 in
set_option maxHeartbeats 2000000 in
theorem ReadTariff_ok (t : ByteArray) (x : Trf) (hx : x = rdT t (hrP t)) (w : World) (ht : t.size ≤ 8000) (hbad : (Txt.fin t (sT t 13)).bad = false) (hn : ¬ badN x < 13) :
    Calls Tryd.prog 34 #[.string t] w fun e w' => e = .returned (.tuple #[.agg #[.int .i64 x.z.off, .int .i64 x.z.f.m, .int .i64 x.z.f.w, .int .i64 x.z.f.d, .int .i64 x.z.f.h, .int .i64 x.z.t.m, .int .i64 x.z.t.w, .int .i64 x.z.t.d, .int .i64 x.z.t.h, .int .i64 x.days, .int .i64 x.gap, .int .i64 x.first, .int .i64 x.last, .string x.h0, .string x.h1, .string x.h2, .string x.h3, .int .i64 x.b0.x, .int .i64 x.b0.y, .int .i64 x.b0.z, .int .i64 x.b1.x, .int .i64 x.b1.y, .int .i64 x.b1.z, .int .i64 x.b2.x, .int .i64 x.b2.y, .int .i64 x.b2.z, .int .i64 x.d.x, .int .i64 x.d.y, .int .i64 x.d.z, .int .i64 x.np, .int .i64 x.nn, .int .i64 x.fix, .int .i64 x.min, .int .i64 x.tax], .int .i64 0, .int .i64 0]) ∧ Below w.heap.size w w' := by
  have h1 : ¬ (8000 : Int) < (t.size : Int) := by omega
  have cT := fun W (h : ScanAt W (w.heap.size + 1) t (sT t 0)) => scan_tariff_any t x hx (w.heap.size + 1) W h (by omega)
  have cE := fun W (h : ScanAt W (w.heap.size + 1) t (sT t 13)) => end_any t (sT t 13) (w.heap.size + 1) W h (sT_le t 13) (by omega)
  have sz0 : x.h0.size ≤ maxLen := by rw [hx]; show (hrP t 3).size ≤ _; rw [hrP_size]; unfold maxLen; omega
  have sz1 : x.h1.size ≤ maxLen := by rw [hx]; show (hrP t 4).size ≤ _; rw [hrP_size]; unfold maxLen; omega
  have sz2 : x.h2.size ≤ maxLen := by rw [hx]; show (hrP t 5).size ≤ _; rw [hrP_size]; unfold maxLen; omega
  have sz3 : x.h3.size ≤ maxLen := by rw [hx]; show (hrP t 6).size ≤ _; rw [hrP_size]; unfold maxLen; omega
  have bl := fun W => badLine_any x W sz0 sz1 sz2 sz3
  obtain ⟨Q, hQ⟩ : ∃ Q, Q = Txt.fin t (sT t 13) := ⟨_, rfl⟩
  rw [← hQ] at cE hbad
  obtain ⟨N, hN⟩ : ∃ N, N = badN x := ⟨_, rfl⟩
  rw [← hN] at bl hn
  have hn' : ¬ (N : Int) < 13 := by omega
  clear hN
  clear hQ hx sz0 sz1 sz2 sz3
  have SA : ScanAt ((w.alloc (.cells #[.int .i64 0, .int .i64 0, .int .i64 0, .int .i64 0, .int .i64 0, .int .i64 0, .int .i64 0, .int .i64 0, .int .i64 0, .int .i64 0, .int .i64 0, .int .i64 0, .int .i64 0, .string ByteArray.empty, .string ByteArray.empty, .string ByteArray.empty, .string ByteArray.empty, .int .i64 0, .int .i64 0, .int .i64 0, .int .i64 0, .int .i64 0, .int .i64 0, .int .i64 0, .int .i64 0, .int .i64 0, .int .i64 0, .int .i64 0, .int .i64 0, .int .i64 0, .int .i64 0, .int .i64 0, .int .i64 0, .int .i64 0] 54)).alloc (.cells #[.string t, .int .i64 0, .bool false] 70)) (w.heap.size + 1) t (sT t 0) := ⟨by simp, by simp [go_sem], by simp [go_sem, sT], by simp [go_sem, sT], by simp [go_sem], by simp [go_sem]⟩
  have ZA : ((w.alloc (.cells #[.int .i64 0, .int .i64 0, .int .i64 0, .int .i64 0, .int .i64 0, .int .i64 0, .int .i64 0, .int .i64 0, .int .i64 0, .int .i64 0, .int .i64 0, .int .i64 0, .int .i64 0, .string ByteArray.empty, .string ByteArray.empty, .string ByteArray.empty, .string ByteArray.empty, .int .i64 0, .int .i64 0, .int .i64 0, .int .i64 0, .int .i64 0, .int .i64 0, .int .i64 0, .int .i64 0, .int .i64 0, .int .i64 0, .int .i64 0, .int .i64 0, .int .i64 0, .int .i64 0, .int .i64 0, .int .i64 0, .int .i64 0] 54)).alloc (.cells #[.string t, .int .i64 0, .bool false] 70)).heap[w.heap.size]? = some (.cells #[.int .i64 0, .int .i64 0, .int .i64 0, .int .i64 0, .int .i64 0, .int .i64 0, .int .i64 0, .int .i64 0, .int .i64 0, .int .i64 0, .int .i64 0, .int .i64 0, .int .i64 0, .string ByteArray.empty, .string ByteArray.empty, .string ByteArray.empty, .string ByteArray.empty, .int .i64 0, .int .i64 0, .int .i64 0, .int .i64 0, .int .i64 0, .int .i64 0, .int .i64 0, .int .i64 0, .int .i64 0, .int .i64 0, .int .i64 0, .int .i64 0, .int .i64 0, .int .i64 0, .int .i64 0, .int .i64 0, .int .i64 0] 54) := (heap_alloc_old _ _ (by simp)).trans (heap_alloc_new _ _)
  have BA : Below w.heap.size w ((w.alloc (.cells #[.int .i64 0, .int .i64 0, .int .i64 0, .int .i64 0, .int .i64 0, .int .i64 0, .int .i64 0, .int .i64 0, .int .i64 0, .int .i64 0, .int .i64 0, .int .i64 0, .int .i64 0, .string ByteArray.empty, .string ByteArray.empty, .string ByteArray.empty, .string ByteArray.empty, .int .i64 0, .int .i64 0, .int .i64 0, .int .i64 0, .int .i64 0, .int .i64 0, .int .i64 0, .int .i64 0, .int .i64 0, .int .i64 0, .int .i64 0, .int .i64 0, .int .i64 0, .int .i64 0, .int .i64 0, .int .i64 0, .int .i64 0] 54)).alloc (.cells #[.string t, .int .i64 0, .bool false] 70)) := below_more (below_more (Below.refl _ _) _) _
  have NA : ((w.alloc (.cells #[.int .i64 0, .int .i64 0, .int .i64 0, .int .i64 0, .int .i64 0, .int .i64 0, .int .i64 0, .int .i64 0, .int .i64 0, .int .i64 0, .int .i64 0, .int .i64 0, .int .i64 0, .string ByteArray.empty, .string ByteArray.empty, .string ByteArray.empty, .string ByteArray.empty, .int .i64 0, .int .i64 0, .int .i64 0, .int .i64 0, .int .i64 0, .int .i64 0, .int .i64 0, .int .i64 0, .int .i64 0, .int .i64 0, .int .i64 0, .int .i64 0, .int .i64 0, .int .i64 0, .int .i64 0, .int .i64 0, .int .i64 0] 54)).alloc (.cells #[.string t, .int .i64 0, .bool false] 70)).heap.size = w.heap.size + 2 := by simp
  go_enter Tryd.func34, Tryd.ntmps34
  go_upto_region 4 with fail
  refine wp_world (fun wA hwA => ?_)
  replace SA : ScanAt wA (w.heap.size + 1) t (sT t 0) := by rw [hwA]; exact SA
  replace ZA : wA.heap[w.heap.size]? = some (.cells #[.int .i64 0, .int .i64 0, .int .i64 0, .int .i64 0, .int .i64 0, .int .i64 0, .int .i64 0, .int .i64 0, .int .i64 0, .int .i64 0, .int .i64 0, .int .i64 0, .int .i64 0, .string ByteArray.empty, .string ByteArray.empty, .string ByteArray.empty, .string ByteArray.empty, .int .i64 0, .int .i64 0, .int .i64 0, .int .i64 0, .int .i64 0, .int .i64 0, .int .i64 0, .int .i64 0, .int .i64 0, .int .i64 0, .int .i64 0, .int .i64 0, .int .i64 0, .int .i64 0, .int .i64 0, .int .i64 0, .int .i64 0] 54) := by rw [hwA]; exact ZA
  replace BA : Below w.heap.size w wA := by rw [hwA]; exact BA
  replace NA : wA.heap.size = w.heap.size + 2 := by rw [hwA]; exact NA
  clear hwA
  go_upto_region 5 with (first
    | (go_at_call 60; refine (cT _ SA).mono ?_; rintro e w1 ⟨rfl, g1, s1⟩; have Z1 := (g1.block w.heap.size (by omega) (fun e => by injection e with e; omega)).trans ZA; have N1 := g1.size; have B1 := Below.grown BA g1 (by omega) (fun j hj => by injection hj with hj; omega))
    | (with_reducible show wpList _ _ _ _ _ (World.alloc _ _); refine wpList_store_row rfl 54 _ _ rfl w1.heap.size #[.int .i64 x.z.off, .int .i64 x.z.f.m, .int .i64 x.z.f.w, .int .i64 x.z.f.d, .int .i64 x.z.f.h, .int .i64 x.z.t.m, .int .i64 x.z.t.w, .int .i64 x.z.t.d, .int .i64 x.z.t.h, .int .i64 x.days, .int .i64 x.gap, .int .i64 x.first, .int .i64 x.last, .string x.h0, .string x.h1, .string x.h2, .string x.h3, .int .i64 x.b0.x, .int .i64 x.b0.y, .int .i64 x.b0.z, .int .i64 x.b1.x, .int .i64 x.b1.y, .int .i64 x.b1.z, .int .i64 x.b2.x, .int .i64 x.b2.y, .int .i64 x.b2.z, .int .i64 x.d.x, .int .i64 x.d.y, .int .i64 x.d.z, .int .i64 x.np, .int .i64 x.nn, .int .i64 x.fix, .int .i64 x.min, .int .i64 x.tax] rfl rfl 54 _ (heap_alloc_new w1 _) (td_info x) (td_size x) (td_one x) ?_))
  refine wp_world (fun w2 hw2 => ?_)
  have s2 : ScanAt w2 (w.heap.size + 1) t (sT t 13) := by rw [hw2]; exact scan_row (s1.alloc _) (by omega) _
  have Z2 : w2.heap[w.heap.size]? = some (.cells #[.int .i64 0, .int .i64 0, .int .i64 0, .int .i64 0, .int .i64 0, .int .i64 0, .int .i64 0, .int .i64 0, .int .i64 0, .int .i64 0, .int .i64 0, .int .i64 0, .int .i64 0, .string ByteArray.empty, .string ByteArray.empty, .string ByteArray.empty, .string ByteArray.empty, .int .i64 0, .int .i64 0, .int .i64 0, .int .i64 0, .int .i64 0, .int .i64 0, .int .i64 0, .int .i64 0, .int .i64 0, .int .i64 0, .int .i64 0, .int .i64 0, .int .i64 0, .int .i64 0, .int .i64 0, .int .i64 0, .int .i64 0] 54) := by rw [hw2]; exact (setRow_other _ _ _ _ (by omega)).trans ((heap_alloc_old _ _ (by omega)).trans Z1)
  have R2 : w2.heap[w1.heap.size]? = some (.cells #[.int .i64 x.z.off, .int .i64 x.z.f.m, .int .i64 x.z.f.w, .int .i64 x.z.f.d, .int .i64 x.z.f.h, .int .i64 x.z.t.m, .int .i64 x.z.t.w, .int .i64 x.z.t.d, .int .i64 x.z.t.h, .int .i64 x.days, .int .i64 x.gap, .int .i64 x.first, .int .i64 x.last, .string x.h0, .string x.h1, .string x.h2, .string x.h3, .int .i64 x.b0.x, .int .i64 x.b0.y, .int .i64 x.b0.z, .int .i64 x.b1.x, .int .i64 x.b1.y, .int .i64 x.b1.z, .int .i64 x.b2.x, .int .i64 x.b2.y, .int .i64 x.b2.z, .int .i64 x.d.x, .int .i64 x.d.y, .int .i64 x.d.z, .int .i64 x.np, .int .i64 x.nn, .int .i64 x.fix, .int .i64 x.min, .int .i64 x.tax] 54) := by rw [hw2]; exact setRow_heap _ _ _ _ _ _ (heap_alloc_new w1 _)
  have B2 : Below w.heap.size w w2 := by rw [hw2]; exact below_setRow (below_more B1 _) (by omega) _
  have N2 : w1.heap.size < w2.heap.size := (Array.getElem?_eq_some_iff.1 R2).1
  clear hw2 s1 Z1 B1 g1 cT SA ZA BA
  go_upto_region 6 with (go_at_call 23; refine (cE _ s2).mono ?_; rintro e w3 ⟨rfl, g3, s3⟩)
  have Z3 := (g3.block w.heap.size (by omega) (fun e => by injection e with e; omega)).trans Z2
  have R3 := (g3.block w1.heap.size (by omega) (fun e => by injection e with e; omega)).trans R2
  have B3 := Below.grown B2 g3 (by omega) (fun j hj => by injection hj with hj; omega)
  have N3 := g3.size
  have c1 := s3.c1
  have c2 := s3.c2
  rw [hbad] at c2
  clear g3 s2 Z2 R2 B2 cE s3
  go_wp2_with (first
    | (with_reducible show wpList _ _ _ _ _ w3; refine wpList_load_row rfl 54 _ rfl w1.heap.size rfl 54 _ (0, 0) _ R3 Tryd.underlying54 rfl (by kernel_rfl) ?_)
    | (go_at_call 30; refine (bl _).mono ?_; rintro e w4 ⟨rfl, hb4⟩; have Z4 := (hb4.block w.heap.size (by omega)).trans Z3; have R4 := (hb4.block w1.heap.size (by omega)).trans R3; have B4 := below_then B3 hb4)
    | (with_reducible show wpList _ _ _ _ _ w4; refine wpList_load_row rfl 54 _ rfl w1.heap.size rfl 54 _ (0, 0) _ R4 Tryd.underlying54 rfl (by kernel_rfl) ?_)
    | (with_reducible show wpList _ _ _ _ _ w4; refine wpList_store_row rfl 54 _ _ rfl w.heap.size #[.int .i64 x.z.off, .int .i64 x.z.f.m, .int .i64 x.z.f.w, .int .i64 x.z.f.d, .int .i64 x.z.f.h, .int .i64 x.z.t.m, .int .i64 x.z.t.w, .int .i64 x.z.t.d, .int .i64 x.z.t.h, .int .i64 x.days, .int .i64 x.gap, .int .i64 x.first, .int .i64 x.last, .string x.h0, .string x.h1, .string x.h2, .string x.h3, .int .i64 x.b0.x, .int .i64 x.b0.y, .int .i64 x.b0.z, .int .i64 x.b1.x, .int .i64 x.b1.y, .int .i64 x.b1.z, .int .i64 x.b2.x, .int .i64 x.b2.y, .int .i64 x.b2.z, .int .i64 x.d.x, .int .i64 x.d.y, .int .i64 x.d.z, .int .i64 x.np, .int .i64 x.nn, .int .i64 x.fix, .int .i64 x.min, .int .i64 x.tax] rfl rfl 54 _ Z4 (td_info x) (td_size x) (td_one x) ?_))
  exact bodyPost_ret (results_row3 rfl _ _ w.heap.size 54 _ (0, 0) _ rfl (setRow_heap _ _ _ _ _ _ Z4) Tryd.underlying54 rfl (td_info x)) rfl ⟨rfl, below_setRow B4 (Nat.le_refl _) _⟩

theorem ReadTariff_any (t : ByteArray) (x : Trf) (hx : x = rdT t (hrP t)) (y : Trf) (hy : y = rtV t x) (w : World) (hm : t.size ≤ maxLen) :
    Calls Tryd.prog 34 #[.string t] w fun e w' => e = .returned (.tuple #[.agg #[.int .i64 y.z.off, .int .i64 y.z.f.m, .int .i64 y.z.f.w, .int .i64 y.z.f.d, .int .i64 y.z.f.h, .int .i64 y.z.t.m, .int .i64 y.z.t.w, .int .i64 y.z.t.d, .int .i64 y.z.t.h, .int .i64 y.days, .int .i64 y.gap, .int .i64 y.first, .int .i64 y.last, .string y.h0, .string y.h1, .string y.h2, .string y.h3, .int .i64 y.b0.x, .int .i64 y.b0.y, .int .i64 y.b0.z, .int .i64 y.b1.x, .int .i64 y.b1.y, .int .i64 y.b1.z, .int .i64 y.b2.x, .int .i64 y.b2.y, .int .i64 y.b2.z, .int .i64 y.d.x, .int .i64 y.d.y, .int .i64 y.d.z, .int .i64 y.np, .int .i64 y.nn, .int .i64 y.fix, .int .i64 y.min, .int .i64 y.tax], .int .i64 (rtE t x), .int .i64 (rtA t x)]) ∧ Below w.heap.size w w' := by
  by_cases h8 : 8000 < t.size
  · have e1 : rtE t x = 1 := by unfold rtE; rw [if_pos h8]
    have e2 : rtA t x = 0 := by unfold rtA; rw [if_pos h8]
    have e3 : y = trf0 := by rw [hy]; unfold rtV; rw [e1, if_neg (by omega)]
    rw [e1, e2, e3]
    exact ReadTariff_long t w h8 hm
  · cases hb : (Txt.fin t (sT t 13)).bad
    · by_cases hn : badN x < 13
      · have e1 : rtE t x = 5 := by unfold rtE; rw [if_neg h8, hb, if_neg (by simp), if_pos hn]
        have e2 : rtA t x = (lineAt t 0 (badN x) : Int) := by unfold rtA; rw [if_neg h8, hb, if_neg (by simp), if_pos hn]
        have e3 : y = trf0 := by rw [hy]; unfold rtV; rw [e1, if_neg (by omega)]
        rw [e1, e2, e3]
        exact ReadTariff_term t x hx w (by omega) hb hn
      · have e1 : rtE t x = 0 := by unfold rtE; rw [if_neg h8, hb, if_neg (by simp), if_neg hn]
        have e2 : rtA t x = 0 := by unfold rtA; rw [if_neg h8, hb, if_neg (by simp), if_neg hn]
        have e3 : y = x := by rw [hy]; unfold rtV; rw [if_pos e1]
        rw [e1, e2, e3]
        exact ReadTariff_ok t x hx w (by omega) hb hn
    · have e1 : rtE t x = 2 := by unfold rtE; rw [if_neg h8, hb, if_pos rfl]
      have e2 : rtA t x = ((Txt.fin t (sT t 13)).pos : Int) := by unfold rtA; rw [if_neg h8, hb, if_pos rfl]
      have e3 : y = trf0 := by rw [hy]; unfold rtV; rw [e1, if_neg (by omega)]
      rw [e1, e2, e3]
      exact ReadTariff_bad t x hx w (by omega) hb
end Go.Proofs.YtjaffmmocbplaabDoor
