/-
  The program's text of a line of a bill.
-/
import Derived.Test.YtjaffmmocbplaabGreatDoorJPrtX
import Derived.Test.YtjaffmmocbplaabGreatDoorJ15
import Derived.Laws.CopyOwn
namespace Go.Proofs.YtjaffmmocbplaabGreatDoor
open Go.RowKit Go.Shelf Bil
set_option linter.unusedVariables false
attribute [local go_sem ↓] Go.wp_at_zero Go.wp_at_succ

/-- number j of a line -/
def lq (x : Ln) (j : Nat) : Int := [x.i0, x.i1, x.i2, x.o, x.pk, x.bl, x.en, x.pw, x.ap, x.ex, x.pd, x.bk, x.su, x.tx, x.to].getD j 0
theorem lq_at (x : Ln) (j : Nat) (hj : j < 15) : (#[.int .i64 x.i0, .int .i64 x.i1, .int .i64 x.i2, .int .i64 x.o, .int .i64 x.pk, .int .i64 x.bl, .int .i64 x.en, .int .i64 x.pw, .int .i64 x.ap, .int .i64 x.ex, .int .i64 x.pd, .int .i64 x.bk, .int .i64 x.su, .int .i64 x.tx, .int .i64 x.to] : Array Value)[j]? = some (.int .i64 (lq x j)) := by
  match j, hj with
  | 0, _ => rfl
  | 1, _ => rfl
  | 2, _ => rfl
  | 3, _ => rfl
  | 4, _ => rfl
  | 5, _ => rfl
  | 6, _ => rfl
  | 7, _ => rfl
  | 8, _ => rfl
  | 9, _ => rfl
  | 10, _ => rfl
  | 11, _ => rfl
  | 12, _ => rfl
  | 13, _ => rfl
  | 14, _ => rfl
  | k + 15, h => omega
theorem cell_in_row {w : World} {g j : Nat} {cs : Array Value} {t : TypeId} {q : Nat × Nat} {v : Value} (h : w.heap[g]? = some (.cells cs t q)) (hv : cs[j]? = some v) : w.cell? ⟨g, j, none⟩ = some v := by
  unfold World.cell?; simp [h, hv]
theorem wp_named {P : Program} {c : Code} {Q : Exit → Act → World → Prop} {a : Act} {w0 : World} (h : ∀ w', w' = w0 → Code.wp P c Q a w') : Code.wp P c Q a w0 := h w0 rfl
theorem results_row1 {P : Program} {fn : Func} {p : Tmp} {ty : TypeId} (h : fn.results = #[.cell p ty]) (tmps : Array Value) (w : World) (g : Nat) (t : TypeId) (cs : Array Value) (fr : Nat × Nat) (d : TypeDesc)
    (hp : tmps.getD p undef = .pointer (some ⟨g, 0, none⟩)) (hg : w.heap[g]? = some (.cells cs t fr))
    (hu : P.underlying ty = some d) (hd : (match d with | .struct _ | .array _ _ => true | _ => false) = true) (hi : (P.info? ty).map (·.size) = some cs.size) :
    (results fn tmps).run P w = .ok (.agg cs) w := by
  have hp' : tmps[p]?.getD undef = .pointer (some ⟨g, 0, none⟩) := by simpa using hp
  simp [results, h, hp', asAddr, run_loadVar_row w g t ty cs fr d hg hu hd hi]
theorem l_one (x : Ln) : (#[.int .i64 x.i0, .int .i64 x.i1, .int .i64 x.i2, .int .i64 x.o, .int .i64 x.pk, .int .i64 x.bl, .int .i64 x.en, .int .i64 x.pw, .int .i64 x.ap, .int .i64 x.ex, .int .i64 x.pd, .int .i64 x.bk, .int .i64 x.su, .int .i64 x.tx, .int .i64 x.to] : Array Value).all (fun v => v.oneCell') = true := by kernel_rfl
theorem l_info (x : Ln) : (Tryz.prog.info? 141).map (fun i => i.size) = some (#[.int .i64 x.i0, .int .i64 x.i1, .int .i64 x.i2, .int .i64 x.o, .int .i64 x.pk, .int .i64 x.bl, .int .i64 x.en, .int .i64 x.pw, .int .i64 x.ap, .int .i64 x.ex, .int .i64 x.pd, .int .i64 x.bk, .int .i64 x.su, .int .i64 x.tx, .int .i64 x.to] : Array Value).size := by
  show _ = some 15
  kernel_rfl

set_option maxRecDepth 1000000 in
set_option maxHeartbeats 2000000 in
theorem numbers_any (x : Ln) (w : World) :
    Calls Tryz.prog 68 #[.agg #[.int .i64 x.i0, .int .i64 x.i1, .int .i64 x.i2, .int .i64 x.o, .int .i64 x.pk, .int .i64 x.bl, .int .i64 x.en, .int .i64 x.pw, .int .i64 x.ap, .int .i64 x.ex, .int .i64 x.pd, .int .i64 x.bk, .int .i64 x.su, .int .i64 x.tx, .int .i64 x.to]] w fun e w' => e = .returned (.agg #[.int .i64 x.i0, .int .i64 x.i1, .int .i64 x.i2, .int .i64 x.o, .int .i64 x.pk, .int .i64 x.bl, .int .i64 x.en, .int .i64 x.pw, .int .i64 x.ap, .int .i64 x.ex, .int .i64 x.pd, .int .i64 x.bk, .int .i64 x.su, .int .i64 x.tx, .int .i64 x.to]) ∧ Below w.heap.size w w' := by
  have Z0 : ((w.alloc (.cells #[.int .i64 x.i0, .int .i64 x.i1, .int .i64 x.i2, .int .i64 x.o, .int .i64 x.pk, .int .i64 x.bl, .int .i64 x.en, .int .i64 x.pw, .int .i64 x.ap, .int .i64 x.ex, .int .i64 x.pd, .int .i64 x.bk, .int .i64 x.su, .int .i64 x.tx, .int .i64 x.to] 94)).alloc (.cells #[.int .i64 0, .int .i64 0, .int .i64 0, .int .i64 0, .int .i64 0, .int .i64 0, .int .i64 0, .int .i64 0, .int .i64 0, .int .i64 0, .int .i64 0, .int .i64 0, .int .i64 0, .int .i64 0, .int .i64 0] 141)).heap[w.heap.size + 1]? = some (.cells #[.int .i64 0, .int .i64 0, .int .i64 0, .int .i64 0, .int .i64 0, .int .i64 0, .int .i64 0, .int .i64 0, .int .i64 0, .int .i64 0, .int .i64 0, .int .i64 0, .int .i64 0, .int .i64 0, .int .i64 0] 141) := heap_alloc2_new _ _ _
  go_enter Tryz.func68, Tryz.ntmps68
  go_wp2_with (refine wpList_store_row rfl 141 _ _ rfl (w.heap.size + 1) #[.int .i64 x.i0, .int .i64 x.i1, .int .i64 x.i2, .int .i64 x.o, .int .i64 x.pk, .int .i64 x.bl, .int .i64 x.en, .int .i64 x.pw, .int .i64 x.ap, .int .i64 x.ex, .int .i64 x.pd, .int .i64 x.bk, .int .i64 x.su, .int .i64 x.tx, .int .i64 x.to] rfl rfl 141 _ Z0 (l_info x) rfl (l_one x) ?_)
  exact bodyPost_ret (results_row1 rfl _ _ (w.heap.size + 1) 141 _ (0, 0) _ rfl (setRow_heap _ _ _ _ _ _ Z0) Tryz.underlying141 rfl (l_info x)) rfl ⟨rfl, below_setRow (below_more (below_more (Below.refl _ _) _) _) (Nat.le_succ _) _⟩

/-- can the line be printed? -/
def lvB (x : Ln) : Bool := (List.range 15).all fun j => inB (lq x j) 0 999999999999999
theorem lvB_no {x : Ln} {j : Nat} (hj : j < 15) (h : inB (lq x j) 0 999999999999999 = false) : lvB x = false := by
  cases q : lvB x
  · rfl
  · have := List.all_eq_true.mp q j (List.mem_range.mpr hj)
    rw [this] at h; cases h
theorem lvB_yes {x : Ln} (h : ∀ j, j < 15 → inB (lq x j) 0 999999999999999 = true) : lvB x = true :=
  List.all_eq_true.mpr fun j hj => h j (List.mem_range.mp hj)
theorem lvB_bd {x : Ln} (h : lvB x = true) (j : Nat) (hj : j < 15) : 0 ≤ lq x j ∧ lq x j ≤ 999999999999999 := by
  have := List.all_eq_true.mp h j (List.mem_range.mpr hj)
  rw [inB_iff] at this; exact this

set_option maxRecDepth 1000000 in
set_option maxHeartbeats 2000000 in
theorem validLine_any (x : Ln) (w : World) :
    Calls Tryz.prog 33 #[.agg #[.int .i64 x.i0, .int .i64 x.i1, .int .i64 x.i2, .int .i64 x.o, .int .i64 x.pk, .int .i64 x.bl, .int .i64 x.en, .int .i64 x.pw, .int .i64 x.ap, .int .i64 x.ex, .int .i64 x.pd, .int .i64 x.bk, .int .i64 x.su, .int .i64 x.tx, .int .i64 x.to]] w fun e w' => e = .returned (.bool (lvB x)) ∧ Below w.heap.size w w' := by
  have nm := fun w1 => numbers_any x w1
  go_enter Tryz.func33, Tryz.ntmps33
  go_upto_region 2 with (first
    | (go_at_call 68; refine (nm _).mono ?_; rintro e w1 ⟨rfl, hb1⟩; have hs1 : w.heap.size < w1.heap.size := (by have := hb1.size; simp at this; omega); have B1 := below_then (below_more (Below.refl w.heap.size w) _) hb1)
    | (with_reducible show wpList _ _ _ _ _ (World.alloc w1 _); refine wpList_store_row rfl 141 _ _ rfl w1.heap.size #[.int .i64 x.i0, .int .i64 x.i1, .int .i64 x.i2, .int .i64 x.o, .int .i64 x.pk, .int .i64 x.bl, .int .i64 x.en, .int .i64 x.pw, .int .i64 x.ap, .int .i64 x.ex, .int .i64 x.pd, .int .i64 x.bk, .int .i64 x.su, .int .i64 x.tx, .int .i64 x.to] rfl rfl 141 _ (heap_alloc_new w1 _) (l_info x) rfl (l_one x) ?_))
  refine wp_named (fun w2 hw2 => ?_)
  have R2 : w2.heap[w1.heap.size]? = some (.cells #[.int .i64 x.i0, .int .i64 x.i1, .int .i64 x.i2, .int .i64 x.o, .int .i64 x.pk, .int .i64 x.bl, .int .i64 x.en, .int .i64 x.pw, .int .i64 x.ap, .int .i64 x.ex, .int .i64 x.pd, .int .i64 x.bk, .int .i64 x.su, .int .i64 x.tx, .int .i64 x.to] 141) := by rw [hw2]; exact setRow_heap _ _ _ _ _ _ (heap_alloc_new w1 _)
  have B2 : Below w.heap.size w w2 := by rw [hw2]; exact below_setRow (below_more B1 _) B1.size _
  have HC := hideP (fun j (hj : j < 15) => cell_in_row R2 (lq_at x j hj))
  clear hw2 hb1 R2 B1
  go_wp2_with fail
  go_loopw [4] (fun p wr => ∃ k : Nat, p = .int .i64 k ∧ k ≤ 15 ∧ (∀ j, j < k → inB (lq x j) 0 999999999999999 = true) ∧ wr = w2) (fun p _ => 15 - (intOf p).toNat)
  case atStart => exact ⟨0, rfl, by omega, fun j hj => by omega, rfl⟩
  case round =>
    obtain ⟨k, rfl, hk, hall, hwr⟩ := hrel
    subst hwr
    have HA := hideP hall
    clear hall
    by_cases hlt : k < 15
    · have hlt' : (k : Int) < 15 := by omega
      have hk0 : (0 : Int) ≤ (k : Int) := by omega
      have ck := HC.out k hlt
      have HN := hideP (fun h => lvB_no (x := x) hlt h)
      have HQ := hideP (fun (h : inB (lq x k) 0 999999999999999 = true) j (hj : j < k + 1) => by
        rcases Nat.lt_or_ge j k with q | q
        · exact HA.out j q
        · obtain rfl : j = k := by omega
          exact h : inB (lq x k) 0 999999999999999 = true → ∀ j, j < k + 1 → inB (lq x j) 0 999999999999999 = true)
      obtain ⟨z, hz⟩ : ∃ z, z = lq x k := ⟨_, rfl⟩
      rw [← hz] at ck HN HQ
      clear hz
      cases hv : inB z 0 999999999999999
      · have wi := fun w1 => within_any z 0 999999999999999 w1
        rw [hv] at wi
        have HF := hideP (HN.out hv)
        clear hv
        go_wp2_with (go_at_call 54; refine (wi _).mono ?_; rintro e wn ⟨rfl, h7⟩; have h8 := h7.symm; subst h8)
        go_ret
        exact ⟨by rw [HF.out]; rfl, B2⟩
      · have wi := fun w1 => within_any z 0 999999999999999 w1
        rw [hv] at wi
        have HF := hideP (HQ.out hv)
        clear hv
        go_wp2_with (go_at_call 54; refine (wi _).mono ?_; rintro e wn ⟨rfl, h7⟩; have h8 := h7.symm; subst h8)
        go_roundw
        case rel => exact ⟨k + 1, by go_num, by omega, HF.out, by first | rfl | trivial⟩
        case measure => simp [intOf]; omega
    · have hlt' : ¬ (k : Int) < 15 := by omega
      have HF := hideP (lvB_yes (x := x) (fun j hj => HA.out j (by omega)))
      go_wp2_with fail
      go_ret
      exact ⟨by rw [HF.out]; rfl, B2⟩

/-! ### its text -/
def lK (i : Int) (x : Ln) : Nat → ByteArray
  | 0 => ⟨#[80]⟩ ++ fS i
  | k + 1 => lK i x k ++ fS (lq x k)
def lT (i : Int) (x : Ln) : ByteArray := lK i x 15 ++ ⟨#[10]⟩
theorem lK_size {i : Int} {x : Ln} (hi : 0 ≤ i ∧ i ≤ 999999999999999) (hx : lvB x = true) : ∀ k, k ≤ 15 → (lK i x k).size ≤ 23 + 22 * k
  | 0, _ => by
    have := fS_size hi.1 (by omega)
    show (⟨#[80]⟩ ++ fS i : ByteArray).size ≤ _
    rw [app_size]; show 1 + _ ≤ _; omega
  | k + 1, hk => by
    have := lK_size hi hx k (by omega)
    have b := lvB_bd hx k (by omega)
    have := fS_size b.1 (by omega)
    show (lK i x k ++ fS (lq x k)).size ≤ _
    rw [app_size]; omega
theorem lT_size {i : Int} {x : Ln} (hi : 0 ≤ i ∧ i ≤ 999999999999999) (hx : lvB x = true) : (lT i x).size ≤ 354 := by
  have := lK_size hi hx 15 (by omega)
  unfold lT; rw [app_size]; show _ + 1 ≤ _; omega

set_option maxRecDepth 1000000 in
set_option maxHeartbeats 2000000 in
theorem lineText_any (i : Int) (x : Ln) (w : World) (ht : TB w) (hi : 0 ≤ i ∧ i ≤ 999999999999999) (hx : lvB x = true) :
    Calls Tryz.prog 34 #[.int .i64 i, .agg #[.int .i64 x.i0, .int .i64 x.i1, .int .i64 x.i2, .int .i64 x.o, .int .i64 x.pk, .int .i64 x.bl, .int .i64 x.en, .int .i64 x.pw, .int .i64 x.ap, .int .i64 x.ex, .int .i64 x.pd, .int .i64 x.bk, .int .i64 x.su, .int .i64 x.tx, .int .i64 x.to]] w fun e w' => e = .returned (.string (lT i x)) ∧ Below w.heap.size w w' := by
  have nm := fun w1 => numbers_any x w1
  have f0 := fun w1 (hb : Below w.heap.size w w1) => fieldText_any i hi.1 (by omega) w1 (ht.below hb)
  have hsz := lK_size hi hx
  have a0 : ∀ w, (Op.stringOp .add ⟨#[80]⟩ (fS i)).run Tryz.prog w = .ok (.string (lK i x 0)) w := sadd _ _ (by have := hsz 0 (by omega); rw [show lK i x 0 = ⟨#[80]⟩ ++ fS i from rfl, app_size] at this; omega)
  have a1 : ∀ w, (Op.stringOp .add (lK i x 15) ⟨#[10]⟩).run Tryz.prog w = .ok (.string (lT i x)) w := sadd _ _ (by have := hsz 15 (by omega); show _ + 1 ≤ _; omega)
  have HA1 := hideP a1
  have HS := hideP hsz
  have HX := hideP hx
  have HTB := hideP ht
  have E0 : lK i x 0 = lK i x 0 := rfl
  obtain ⟨K0, hK0⟩ : ∃ K, K = lK i x 0 := ⟨_, rfl⟩
  rw [← hK0] at a0
  obtain ⟨F0, hF0⟩ : ∃ F, F = fS i := ⟨_, rfl⟩
  rw [← hF0] at a0 f0
  have HK0 := hideP hK0
  clear a1 hsz hx ht hi hK0 hF0 E0
  go_enter Tryz.func34, Tryz.ntmps34
  go_upto_region 3 with (first
    | (go_at_call 69; refine (f0 _ (below_more (Below.refl _ _) _)).mono ?_; rintro e w0 ⟨rfl, hb0⟩; have hs0 : w.heap.size < w0.heap.size := (by have := hb0.size; simp at this; omega); have B0 := below_then (below_more (Below.refl w.heap.size w) (.cells #[.int .i64 x.i0, .int .i64 x.i1, .int .i64 x.i2, .int .i64 x.o, .int .i64 x.pk, .int .i64 x.bl, .int .i64 x.en, .int .i64 x.pw, .int .i64 x.ap, .int .i64 x.ex, .int .i64 x.pd, .int .i64 x.bk, .int .i64 x.su, .int .i64 x.tx, .int .i64 x.to] 94)) hb0; have M0 : w0.heap[w.heap.size]? = some (.cells #[.int .i64 x.i0, .int .i64 x.i1, .int .i64 x.i2, .int .i64 x.o, .int .i64 x.pk, .int .i64 x.bl, .int .i64 x.en, .int .i64 x.pw, .int .i64 x.ap, .int .i64 x.ex, .int .i64 x.pd, .int .i64 x.bk, .int .i64 x.su, .int .i64 x.tx, .int .i64 x.to] 94) := (hb0.block w.heap.size (by simp)).trans (heap_alloc_new _ _))
    | (with_reducible show wpList _ _ _ _ _ w0; refine wpList_load_row rfl 94 _ rfl w.heap.size rfl 94 _ (0, 0) _ M0 Tryz.underlying94 rfl (by kernel_rfl) ?_)
    | (go_at_call 68; refine (nm _).mono ?_; rintro e w1 ⟨rfl, hb1⟩; have hs1 : w.heap.size < w1.heap.size := (by have := hb1.size; omega); have B1 := below_then B0 hb1)
    | (with_reducible show wpList _ _ _ _ _ (World.alloc w1 _); refine wpList_store_row rfl 141 _ _ rfl w1.heap.size #[.int .i64 x.i0, .int .i64 x.i1, .int .i64 x.i2, .int .i64 x.o, .int .i64 x.pk, .int .i64 x.bl, .int .i64 x.en, .int .i64 x.pw, .int .i64 x.ap, .int .i64 x.ex, .int .i64 x.pd, .int .i64 x.bk, .int .i64 x.su, .int .i64 x.tx, .int .i64 x.to] rfl rfl 141 _ (heap_alloc_new w1 _) (l_info x) rfl (l_one x) ?_))
  refine wp_named (fun w2 hw2 => ?_)
  have R2 : w2.heap[w1.heap.size]? = some (.cells #[.int .i64 x.i0, .int .i64 x.i1, .int .i64 x.i2, .int .i64 x.o, .int .i64 x.pk, .int .i64 x.bl, .int .i64 x.en, .int .i64 x.pw, .int .i64 x.ap, .int .i64 x.ex, .int .i64 x.pd, .int .i64 x.bk, .int .i64 x.su, .int .i64 x.tx, .int .i64 x.to] 141) := by rw [hw2]; exact setRow_heap _ _ _ _ _ _ (heap_alloc_new w1 _)
  have B2 : Below w.heap.size w w2 := by rw [hw2]; exact below_setRow (below_more B1 _) B1.size _
  have N2 : w1.heap.size < w2.heap.size := (Array.getElem?_eq_some_iff.1 R2).1
  have HC := hideP (fun j (hj : j < 15) => cell_in_row R2 (lq_at x j hj))
  clear hw2 hb0 hb1 R2 B1 B0 M0 f0 a0 nm
  go_wp2_with fail
  go_loopw [5, 7] (fun o p wr => ∃ k : Nat, p = .int .i64 k ∧ k ≤ 15 ∧ o = .string (lK i x k) ∧ Below w2.heap.size w2 wr) (fun _ p _ => 15 - (intOf p).toNat)
  case atStart => exact ⟨0, rfl, by omega, by rw [HK0.out], Below.refl _ _⟩
  case round =>
    obtain ⟨k, rfl, hk, rfl, hbw⟩ := hrel
    by_cases hlt : k < 15
    · have hlt' : (k : Int) < 15 := by omega
      have hk0 : (0 : Int) ≤ (k : Int) := by omega
      have ck : wr.cell? ⟨w1.heap.size, k, none⟩ = some (.int .i64 (lq x k)) := vcell_below hbw N2 (HC.out k hlt)
      have b := lvB_bd HX.out k hlt
      have fk := fun w1 (h : TB w1) => fieldText_any (lq x k) b.1 (by omega) w1 h
      have TBr : TB wr := HTB.out.below (below_then B2 hbw)
      have ak : ∀ w, (Op.stringOp .add (lK i x k) (fS (lq x k))).run Tryz.prog w = .ok (.string (lK i x (k + 1))) w := sadd _ _ (by have := HS.out (k + 1) (by omega); rw [show lK i x (k + 1) = lK i x k ++ fS (lq x k) from rfl, app_size] at this; omega)
      obtain ⟨z, hz⟩ : ∃ z, z = lq x k := ⟨_, rfl⟩
      rw [← hz] at ck fk ak
      obtain ⟨F, hF⟩ : ∃ F, F = fS z := ⟨_, rfl⟩
      rw [← hF] at fk ak
      obtain ⟨A, hA⟩ : ∃ A, A = lK i x k := ⟨_, rfl⟩
      rw [← hA] at ak ⊢
      obtain ⟨A', hA'⟩ : ∃ A', A' = lK i x (k + 1) := ⟨_, rfl⟩
      have HA' := hideP hA'
      rw [← hA'] at ak
      clear hz hF hA hA' b
      go_wp2_with (go_at_call 69; refine (fk _ TBr).mono ?_; rintro e w3 ⟨rfl, hb3⟩)
      go_roundw
      case rel => exact ⟨k + 1, by go_num, by omega, by rw [HA'.out], below_then hbw hb3⟩
      case measure => simp [intOf]; omega
    · have hlt' : ¬ (k : Int) < 15 := by omega
      have hk15 : k = 15 := by omega
      subst hk15
      have a1 := HA1.out
      obtain ⟨A, hA⟩ : ∃ A, A = lK i x 15 := ⟨_, rfl⟩
      rw [← hA] at a1 ⊢
      obtain ⟨A', hA'⟩ : ∃ A', A' = lT i x := ⟨_, rfl⟩
      rw [← hA'] at a1
      have HA' := hideP hA'
      clear hA hA'
      go_wp2_with fail
      go_ret
      exact ⟨by rw [← HA'.out]; rfl, below_then B2 hbw⟩
end Go.Proofs.YtjaffmmocbplaabGreatDoor
