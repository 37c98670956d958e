/-
  The document's PrintMeter (made by tools/genprm.py).
-/
import Derived.Test.YtjaffmmocbplaaaDoorPrtD
import Derived.Test.YtjaffmmocbplaaaDoorPrtY
import Derived.Test.YtjaffmmocbplaaaDoorRowY
namespace Go.Proofs.YtjaffmmocbplaaaDoor
open Go.RowKit Go.Shelf
set_option linter.unusedVariables false
attribute [local go_sem ↓] Go.wp_at_zero Go.wp_at_succ
/-- the text of a meter file as the document builds it, up to value k -/
def mE (step start : Int) (l : List Txt.Val) : Nat → ByteArray
  | 0 => rowS ⟨#[72]⟩ [step, start]
  | k + 1 => if (Fil.vAt l k).m then mE step start l k ++ ⟨#[45, 10]⟩ else mE step start l k ++ dS (Fil.vAt l k).i ++ rowS ⟨#[]⟩ [(Fil.vAt l k).o]
def mD (step start : Int) (l : List Txt.Val) : ByteArray := mE step start l l.length ++ rowS ⟨#[84]⟩ [(l.length : Int), sumL l]
theorem nil_app (x : ByteArray) : (⟨#[]⟩ : ByteArray) ++ x = x := ByteArray.empty_append
theorem row2 (c : ByteArray) (a b : Int) : rowS c [a, b] = c ++ fS a ++ fS b ++ ⟨#[10]⟩ := by
  show c ++ ⟨#[32]⟩ ++ dS a ++ ⟨#[32]⟩ ++ dS b ++ ⟨#[10]⟩ = _
  unfold fS; simp only [ByteArray.append_assoc]
theorem row1 (c : ByteArray) (a : Int) : rowS c [a] = c ++ fS a ++ ⟨#[10]⟩ := by
  show c ++ ⟨#[32]⟩ ++ dS a ++ ⟨#[10]⟩ = _
  unfold fS; simp only [ByteArray.append_assoc]
theorem mE_eq (step start : Int) (l : List Txt.Val) : ∀ k, mE step start l k = mK step start l k
  | 0 => row2 _ _ _
  | k + 1 => by
    show (if (Fil.vAt l k).m then mE step start l k ++ ⟨#[45, 10]⟩ else mE step start l k ++ dS (Fil.vAt l k).i ++ rowS ⟨#[]⟩ [(Fil.vAt l k).o]) = mK step start l k ++ vS (Fil.vAt l k)
    rw [mE_eq step start l k, row1, nil_app]
    unfold vS
    split
    · rfl
    · simp only [ByteArray.append_assoc]
theorem mD_eq (step start : Int) (l : List Txt.Val) : mD step start l = mS step start l := by
  unfold mD mS
  rw [mE_eq, row2]; simp only [ByteArray.append_assoc]
theorem mE_size {step start : Int} {l : List Txt.Val} (n_0 : nB step) (n_1 : nB start) (hv : ∀ k, nB (Fil.vAt l k).i ∧ nB (Fil.vAt l k).o) (k : Nat) : (mE step start l k).size ≤ 46 + 44 * k := by
  rw [mE_eq]; exact mK_size n_0 n_1 hv k

set_option maxRecDepth 1000000 in
set_option maxHeartbeats 2000000 in
theorem refPrintMeter_any (step start : Int) (v : Value) (l : List Txt.Val) (w : World) (h : VRow w v l) :
    Calls Tryd.prog 9 #[.agg #[.int .i64 step, .int .i64 start, v]] w fun e w' => e = .returned (.string (if meterB step start l then mD step start l else ByteArray.empty)) ∧ Below w.heap.size w w' := by
  have vm := fun W (hb : Below w.heap.size w W) => GoodMeter_any step start v l W (h.below hb)
  obtain ⟨a, cap, rfl⟩ := h.form
  cases hm : meterB step start l
  case false =>
    rw [hm] at vm
    rw [if_neg (by simp)]
    clear hm
    go_enter Tryd.func9, Tryd.ntmps9
    go_wp2_with (go_at_call 13; refine (vm _ (below_more (Below.refl _ _) _)).mono ?_; rintro e w1 ⟨rfl, hb1⟩)
    go_ret
    exact ⟨rfl, below_then (below_more (Below.refl _ _) _) hb1⟩
  case true =>
  rw [hm] at vm
  rw [if_pos rfl]
  obtain ⟨n_0, n_1, hall, len1, len2⟩ := meter_nB hm
  have n_2 : nB (l.length : Int) := by unfold nB; omega
  have n_3 := sum_nB l
  have NV := hideP (val_nB hall)
  have MKS := hideP (mE_size n_0 n_1 NV.out)
  have tt : ∀ W', ∀ B0 : Below w.heap.size w W', Calls Tryd.prog 39 #[.agg #[.int .i64 step, .int .i64 start, .slice a l.length cap]] W' fun e w' => e = .returned (.int .i64 (sumL l)) ∧ Below W'.heap.size W' w' := fun W' B0 => total_any step start _ l W' (h.below B0) hall (by omega)
  have HH := hideP h
  clear hm hall h
  go_enter Tryd.func9, Tryd.ntmps9
  go_upto_region 4 with (go_at_call 13; refine (vm _ (below_more (Below.refl _ _) _)).mono ?_; rintro e W1 ⟨rfl, hW1⟩)
  have R1 : W1.heap[w.heap.size]? = some (.cells #[.int .i64 step, .int .i64 start, .slice a l.length cap] 44) := (hW1.block _ (by simp)).trans (heap_alloc_new _ _)
  have BB : Below w.heap.size w W1 := below_then (below_more (Below.refl _ _) _) hW1
  have hz1 : w.heap.size < W1.heap.size := (Array.getElem?_eq_some_iff.1 R1).1
  have m0 : W1.cell? ⟨w.heap.size, 0, none⟩ = some (.int .i64 step) := cell_of_row _ _ _ _ _ _ R1
  have m1 : W1.cell? ⟨w.heap.size, 1, none⟩ = some (.int .i64 start) := cell_of_row _ _ _ _ _ _ R1
  clear hW1 vm
  go_upto_region 5 with (go_at_call 37; refine (row_any ⟨#[72]⟩ [step, start] W1.heap.size _ (by simp) (row_cells (heap_alloc_new W1 _)) (nb_cons n_0 (nb_cons n_1 nb_nil)) (by simp) (show (⟨#[72]⟩ : ByteArray).size ≤ 1000 from by decide)).mono ?_; rintro e W2 ⟨rfl, hW2⟩)
  have BW2 : Below w.heap.size w W2 := below_then (below_more BB _) hW2
  have R2 : W2.heap[w.heap.size]? = some (.cells #[.int .i64 step, .int .i64 start, .slice a l.length cap] 44) := (hW2.block _ (by simp; omega)).trans ((heap_alloc_old _ _ hz1).trans R1)
  have hz2 : w.heap.size < W2.heap.size := (Array.getElem?_eq_some_iff.1 R2).1
  have HM0 : Hid (rowS ⟨#[72]⟩ [step, start] = mE step start l 0) := rfl
  rw [HM0.out]
  clear hW2 m0 m1
  go_wp2_with fail
  go_loopw [4, 5] (fun s p wi => ∃ k : Nat, p = .int .i64 k ∧ k ≤ l.length ∧ s = .string (mE step start l k) ∧ Below W2.heap.size W2 wi) (fun _ p _ => l.length - (intOf p).toNat)
  case atStart => exact ⟨0, rfl, by omega, rfl, Below.refl _ _⟩
  case round =>
    obtain ⟨k, rfl, hk, rfl, hb⟩ := hrel
    have RR : wr.heap[w.heap.size]? = some (.cells #[.int .i64 step, .int .i64 start, .slice a l.length cap] 44) := (hb.block _ hz2).trans R2
    have m2 : wr.cell? ⟨w.heap.size, 2, none⟩ = some (.slice a l.length cap) := cell_of_row _ _ _ _ _ _ RR
    have hzr : w.heap.size < wr.heap.size := (Array.getElem?_eq_some_iff.1 RR).1
    have BR := below_then BW2 hb
    have sk := MKS.out k
    by_cases hlt : k < l.length
    · have hlt' : (k : Int) < (l.length : Int) := by omega
      have hk0 : (0 : Int) ≤ (k : Int) := by omega
      obtain ⟨b, off, eb, hcap, hblt, c0, c1, c2⟩ := (HH.out.below BR).at (Fil.get_ex hlt)
      subst eb
      have hcap' : (l.length : Int) ≤ (cap : Int) := by omega
      have nx := NV.out k
      have HS : Hid (mE step start l (k + 1) = if (Fil.vAt l k).m then mE step start l k ++ ⟨#[45, 10]⟩ else mE step start l k ++ dS (Fil.vAt l k).i ++ rowS ⟨#[]⟩ [(Fil.vAt l k).o]) := rfl
      obtain ⟨x, hx⟩ : ∃ x, x = Fil.vAt l k := ⟨_, rfl⟩
      rw [← hx] at c0 c1 c2 nx HS
      obtain ⟨X, hX⟩ : ∃ X, X = mE step start l k := ⟨_, rfl⟩
      rw [← hX] at sk HS
      rw [← hX]
      have sX : X.size ≤ 8846 := by omega
      clear hx hX
      cases hxm : x.m
      case true =>
        rw [hxm] at c2 HS
        rw [if_pos rfl] at HS
        have ad : ∀ w, (Op.stringOp .add X ⟨#[45, 10]⟩).run Tryd.prog w = .ok (.string (X ++ ⟨#[45, 10]⟩)) w := sadd _ _ (by show _ + 2 ≤ _; omega)
        go_wp2_with fail
        go_roundw
        case rel => exact ⟨k + 1, by go_num, by omega, by rw [HS.out], below_more hb _⟩
        case measure => simp [intOf]; omega
      case false =>
        rw [hxm] at c2 HS
        rw [if_neg (by simp)] at HS
        go_upto_region 9 with fail
        refine wp_world2 (fun W2 hW2 => ?_)
        have RV : W2.heap[wr.heap.size]? = some (.cells #[.int .i64 x.i, .int .i64 x.o, .bool false] 99) := by rw [hW2]; exact heap_alloc_new _ _
        have BV : Below wr.heap.size wr W2 := by rw [hW2]; exact below_more (Below.refl _ _) _
        have zV : wr.heap.size < W2.heap.size := row_lt RV
        have cm : W2.cell? ⟨wr.heap.size, 2, none⟩ = some (.bool false) := cell_of_row _ _ _ _ _ _ RV
        clear hW2
        go_wp2_with fail
        obtain ⟨Y1, hY1⟩ : ∃ Z, Z = X ++ (dS x.i) := ⟨_, rfl⟩
        have sY1 : Y1.size ≤ 8867 := by have q1 := (show X.size ≤ 8846 from sX); have q2 := (show (dS x.i).size ≤ 21 from (nx.1).d); rw [hY1, app_size]; omega
        have aY1 : ∀ w, (Op.stringOp .add X (dS x.i)).run Tryd.prog w = .ok (.string Y1) w := by have q1 := (show X.size ≤ 8846 from sX); have q2 := (show (dS x.i).size ≤ 21 from (nx.1).d); rw [hY1]; exact sadd _ _ (by omega)
        have HY1 := hideP hY1
        clear hY1
        obtain ⟨Y2, hY2⟩ : ∃ Z, Z = Y1 ++ (rowS (⟨#[]⟩ : ByteArray) [x.o]) := ⟨_, rfl⟩
        have sY2 : Y2.size ≤ 8890 := by have q1 := (show Y1.size ≤ 8867 from sY1); have q2 := (show (rowS (⟨#[]⟩ : ByteArray) [x.o]).size ≤ 23 from rowS_size (c := (⟨#[]⟩ : ByteArray)) (nb_cons nx.2 nb_nil)); rw [hY2, app_size]; omega
        have aY2 : ∀ w, (Op.stringOp .add Y1 (rowS (⟨#[]⟩ : ByteArray) [x.o])).run Tryd.prog w = .ok (.string Y2) w := by have q1 := (show Y1.size ≤ 8867 from sY1); have q2 := (show (rowS (⟨#[]⟩ : ByteArray) [x.o]).size ≤ 23 from rowS_size (c := (⟨#[]⟩ : ByteArray)) (nb_cons nx.2 nb_nil)); rw [hY2]; exact sadd _ _ (by omega)
        have HY2 := hideP hY2
        clear hY2
        refine wp_region_held_drew (S := (fun w' => w'.heap[wr.heap.size]? = some (.cells #[.int .i64 x.i, .int .i64 x.o, .bool false] 99 (0, 0)))) (by kernel_rfl) RV (fun hH0 => ?_)
        refine wpAnyH_take (i := 0) (oi := { dst := some 33, op := Go.Op.move (Go.Operand.tmp 4), type := 9, pos := "text.go:135", after := #[], guard := none }) (v := .string X) rfl (by kernel_rfl) (by kernel_rfl) (by kernel_rfl) (fun _ _ _ h => h) (Or.inl ⟨by rfl, ?_⟩) (by assumption) ?_
        · intro w9 hSw
          go_simp
        try simp only [Act.put, List.setIfInBounds_toArray, List.set_cons_zero, List.set_cons_succ]
        refine wpAnyH_take (i := 1) (oi := { dst := some 34, op := Go.Op.fieldAddr 99 (Go.Operand.tmp 6) 0, type := 0, pos := "text.go:135", after := #[], guard := none }) (v := .pointer (some ⟨wr.heap.size, 0, none⟩)) rfl (by kernel_rfl) (by kernel_rfl) (by kernel_rfl) (fun _ _ _ h => h) (Or.inl ⟨by rfl, ?_⟩) (by assumption) ?_
        · intro w9 hSw
          go_simp
        try simp only [Act.put, List.setIfInBounds_toArray, List.set_cons_zero, List.set_cons_succ]
        refine wpAnyH_take (i := 2) (oi := { dst := some 35, op := Go.Op.load 3 (Go.Operand.tmp 34), type := 3, pos := "text.go:135", after := #[{ on := 1, ground := Go.Ground.data }], guard := none }) (v := .int .i64 x.i) rfl (by kernel_rfl) (by kernel_rfl) (by kernel_rfl) (fun _ _ _ h => h) (Or.inl ⟨by rfl, ?_⟩) (by assumption) ?_
        · intro w9 hSw
          have q0 : w9.cell? ⟨wr.heap.size, 0, none⟩ = some (.int .i64 x.i) := cell_of_row _ _ _ _ _ _ hSw; go_simp
        try simp only [Act.put, List.setIfInBounds_toArray, List.set_cons_zero, List.set_cons_succ]
        refine wpAnyH_take (i := 5) (oi := { dst := some 38, op := Go.Op.fieldAddr 99 (Go.Operand.tmp 6) 1, type := 0, pos := "text.go:135", after := #[], guard := none }) (v := .pointer (some ⟨wr.heap.size, 1, none⟩)) rfl (by kernel_rfl) (by kernel_rfl) (by kernel_rfl) (fun _ _ _ h => h) (Or.inl ⟨by rfl, ?_⟩) (by assumption) ?_
        · intro w9 hSw
          go_simp
        try simp only [Act.put, List.setIfInBounds_toArray, List.set_cons_zero, List.set_cons_succ]
        refine wpAnyH_take (i := 6) (oi := { dst := some 39, op := Go.Op.load 3 (Go.Operand.tmp 38), type := 3, pos := "text.go:135", after := #[{ on := 5, ground := Go.Ground.data }], guard := none }) (v := .int .i64 x.o) rfl (by kernel_rfl) (by kernel_rfl) (by kernel_rfl) (fun _ _ _ h => h) (Or.inl ⟨by rfl, ?_⟩) (by assumption) ?_
        · intro w9 hSw
          have q1 : w9.cell? ⟨wr.heap.size, 1, none⟩ = some (.int .i64 x.o) := cell_of_row _ _ _ _ _ _ hSw; go_simp
        try simp only [Act.put, List.setIfInBounds_toArray, List.set_cons_zero, List.set_cons_succ]
        refine wpAnyH_ready (rs := [3, 7]) (by kernel_rfl) (by simp) ?_
        refine AllReadyH.cons (o := { dst := some 36, op := Go.Op.call { callee := Go.Callee.value (Go.Operand.func 38), args := #[Go.Operand.tmp 35], argTypes := #[3] }, type := 9, pos := "text.go:135", after := #[{ on := 2, ground := Go.Ground.data }], guard := none }) rfl (fun K hK => ?_) (AllReadyH.cons (o := { dst := some 40, op := Go.Op.buildSlice 98 1 #[(0, Go.Operand.tmp 39)], type := 98, pos := "text.go:135", after := #[{ on := 6, ground := Go.Ground.data }], guard := none }) rfl (fun K hK => ?_) AllReadyH.nil)
        · go_simp
          refine ((nx.1).dec _).mono ?_
          rintro e wW2k1 ⟨rfl, hwW2k1⟩
          have BwW2k1 := below_then (Below.drew (Below.refl _ _)) hwW2k1
          go_wp2_with fail
          refine hK.out _ _ ((BwW2k1.block _ zV).trans RV) (fun hHwW2k1 => ?_)
          clear hK K
          try simp only [Act.put, List.setIfInBounds_toArray, List.set_cons_zero, List.set_cons_succ]
          refine wpAnyH_take (i := 4) (oi := { dst := some 37, op := Go.Op.binOp Go.BinOp.add 9 (Go.Operand.tmp 33) (Go.Operand.tmp 36) 9, type := 9, pos := "text.go:135", after := #[{ on := 0, ground := Go.Ground.data }, { on := 3, ground := Go.Ground.data }], guard := none }) (v := .string Y1) rfl (by kernel_rfl) (by kernel_rfl) (by kernel_rfl) (fun _ _ _ h => h) (Or.inl ⟨by rfl, ?_⟩) (by assumption) ?_
          · intro w9 hSw
            go_simp
          try simp only [Act.put, List.setIfInBounds_toArray, List.set_cons_zero, List.set_cons_succ]
          refine wpAnyH_ready (rs := [7]) (by kernel_rfl) (by simp) ?_
          refine AllReadyH.cons (o := { dst := some 40, op := Go.Op.buildSlice 98 1 #[(0, Go.Operand.tmp 39)], type := 98, pos := "text.go:135", after := #[{ on := 6, ground := Go.Ground.data }], guard := none }) rfl (fun K hK => ?_) AllReadyH.nil
          go_simp
          have BW2a2 : Below W2.heap.size W2 (wW2k1.alloc (.cells #[.int .i64 x.o] 3)) := below_more BwW2k1 _
          have RW2n2 : (wW2k1.alloc (.cells #[.int .i64 x.o] 3)).heap[wW2k1.heap.size]? = some (.cells ([x.o].map (Value.int .i64)).toArray 3 (0, 0)) := by simpa using heap_alloc_new (wW2k1) (.cells #[.int .i64 x.o] 3)
          refine hK.out _ _ ((BW2a2.block _ zV).trans RV) (fun hHW2a2 => ?_)
          clear hK K
          try simp only [Act.put, List.setIfInBounds_toArray, List.set_cons_zero, List.set_cons_succ]
          refine wpAnyH_ready (rs := [8]) (by kernel_rfl) (by simp) ?_
          refine AllReadyH.cons (o := { dst := some 41, op := Go.Op.call { callee := Go.Callee.value (Go.Operand.func 37), args := #[Go.Operand.const (Go.Value.string { data := #[] }), Go.Operand.tmp 40], argTypes := #[9, 98] }, type := 9, pos := "text.go:135", after := #[{ on := 7, ground := Go.Ground.data }, { on := 3, ground := Go.Ground.chain }], guard := none }) rfl (fun K hK => ?_) AllReadyH.nil
          go_simp
          refine (row_any (⟨#[]⟩ : ByteArray) [x.o] wW2k1.heap.size _ (row_lt RW2n2) (row_cells RW2n2) (nb_cons nx.2 nb_nil) (by simp) (show ((⟨#[]⟩ : ByteArray)).size ≤ 1000 from by decide)).mono ?_
          rintro e wW2k3 ⟨rfl, hwW2k3⟩
          have BwW2k3 := below_then BW2a2 hwW2k3
          have RwW2k3_RW2n2 := (hwW2k3.block _ (row_lt RW2n2)).trans RW2n2
          go_wp2_with fail
          refine hK.out _ _ ((BwW2k3.block _ zV).trans RV) (fun hHwW2k3 => ?_)
          clear hK K
          try simp only [Act.put, List.setIfInBounds_toArray, List.set_cons_zero, List.set_cons_succ]
          refine wpAnyH_take (i := 9) (oi := { dst := some 42, op := Go.Op.binOp Go.BinOp.add 9 (Go.Operand.tmp 37) (Go.Operand.tmp 41) 9, type := 9, pos := "text.go:135", after := #[{ on := 4, ground := Go.Ground.data }, { on := 8, ground := Go.Ground.data }], guard := none }) (v := .string Y2) rfl (by kernel_rfl) (by kernel_rfl) (by kernel_rfl) (fun _ _ _ h => h) (Or.inl ⟨by rfl, ?_⟩) (by assumption) ?_
          · intro w9 hSw
            go_simp
          try simp only [Act.put, List.setIfInBounds_toArray, List.set_cons_zero, List.set_cons_succ]
          refine wpAnyH_take (i := 10) (oi := { dst := some 4, op := Go.Op.assign (Go.Operand.tmp 42), type := 9, pos := "text.go:135", after := #[{ on := 9, ground := Go.Ground.data }, { on := 8, ground := Go.Ground.chain }, { on := 0, ground := Go.Ground.phase }, { on := 1, ground := Go.Ground.phase }, { on := 2, ground := Go.Ground.phase }, { on := 3, ground := Go.Ground.phase }, { on := 4, ground := Go.Ground.phase }, { on := 5, ground := Go.Ground.phase }, { on := 6, ground := Go.Ground.phase }, { on := 7, ground := Go.Ground.phase }, { on := 8, ground := Go.Ground.phase }, { on := 9, ground := Go.Ground.phase }], guard := none }) (v := .string Y2) rfl (by kernel_rfl) (by kernel_rfl) (by kernel_rfl) (fun _ _ _ h => h) (Or.inl ⟨by rfl, ?_⟩) (by assumption) ?_
          · intro w9 hSw
            go_simp
          try simp only [Act.put, List.setIfInBounds_toArray, List.set_cons_zero, List.set_cons_succ]
          refine wpAnyH_done (by kernel_rfl) ?_ _
          go_wp2_with fail
          go_roundw
          case rel => exact ⟨k + 1, by go_num, by omega, by rw [HS.out, HY2.out, HY1.out], below_then hb (below_then BV BwW2k3)⟩
          case measure => simp [intOf]; omega
        · go_simp
          have BW2a4 : Below W2.heap.size W2 (W2.drew.alloc (.cells #[.int .i64 x.o] 3)) := below_more (Below.drew (Below.refl _ _)) _
          have RW2n4 : (W2.drew.alloc (.cells #[.int .i64 x.o] 3)).heap[W2.heap.size]? = some (.cells ([x.o].map (Value.int .i64)).toArray 3 (0, 0)) := by simpa using heap_alloc_new (W2.drew) (.cells #[.int .i64 x.o] 3)
          refine hK.out _ _ ((BW2a4.block _ zV).trans RV) (fun hHW2a4 => ?_)
          clear hK K
          try simp only [Act.put, List.setIfInBounds_toArray, List.set_cons_zero, List.set_cons_succ]
          refine wpAnyH_ready (rs := [3]) (by kernel_rfl) (by simp) ?_
          refine AllReadyH.cons (o := { dst := some 36, op := Go.Op.call { callee := Go.Callee.value (Go.Operand.func 38), args := #[Go.Operand.tmp 35], argTypes := #[3] }, type := 9, pos := "text.go:135", after := #[{ on := 2, ground := Go.Ground.data }], guard := none }) rfl (fun K hK => ?_) AllReadyH.nil
          go_simp
          refine ((nx.1).dec _).mono ?_
          rintro e wW2k5 ⟨rfl, hwW2k5⟩
          have BwW2k5 := below_then BW2a4 hwW2k5
          have RwW2k5_RW2n4 := (hwW2k5.block _ (row_lt RW2n4)).trans RW2n4
          go_wp2_with fail
          refine hK.out _ _ ((BwW2k5.block _ zV).trans RV) (fun hHwW2k5 => ?_)
          clear hK K
          try simp only [Act.put, List.setIfInBounds_toArray, List.set_cons_zero, List.set_cons_succ]
          refine wpAnyH_take (i := 4) (oi := { dst := some 37, op := Go.Op.binOp Go.BinOp.add 9 (Go.Operand.tmp 33) (Go.Operand.tmp 36) 9, type := 9, pos := "text.go:135", after := #[{ on := 0, ground := Go.Ground.data }, { on := 3, ground := Go.Ground.data }], guard := none }) (v := .string Y1) rfl (by kernel_rfl) (by kernel_rfl) (by kernel_rfl) (fun _ _ _ h => h) (Or.inl ⟨by rfl, ?_⟩) (by assumption) ?_
          · intro w9 hSw
            go_simp
          try simp only [Act.put, List.setIfInBounds_toArray, List.set_cons_zero, List.set_cons_succ]
          refine wpAnyH_ready (rs := [8]) (by kernel_rfl) (by simp) ?_
          refine AllReadyH.cons (o := { dst := some 41, op := Go.Op.call { callee := Go.Callee.value (Go.Operand.func 37), args := #[Go.Operand.const (Go.Value.string { data := #[] }), Go.Operand.tmp 40], argTypes := #[9, 98] }, type := 9, pos := "text.go:135", after := #[{ on := 7, ground := Go.Ground.data }, { on := 3, ground := Go.Ground.chain }], guard := none }) rfl (fun K hK => ?_) AllReadyH.nil
          go_simp
          refine (row_any (⟨#[]⟩ : ByteArray) [x.o] W2.heap.size _ (row_lt RwW2k5_RW2n4) (row_cells RwW2k5_RW2n4) (nb_cons nx.2 nb_nil) (by simp) (show ((⟨#[]⟩ : ByteArray)).size ≤ 1000 from by decide)).mono ?_
          rintro e wW2k6 ⟨rfl, hwW2k6⟩
          have BwW2k6 := below_then BwW2k5 hwW2k6
          have RwW2k6_RwW2k5_RW2n4 := (hwW2k6.block _ (row_lt RwW2k5_RW2n4)).trans RwW2k5_RW2n4
          go_wp2_with fail
          refine hK.out _ _ ((BwW2k6.block _ zV).trans RV) (fun hHwW2k6 => ?_)
          clear hK K
          try simp only [Act.put, List.setIfInBounds_toArray, List.set_cons_zero, List.set_cons_succ]
          refine wpAnyH_take (i := 9) (oi := { dst := some 42, op := Go.Op.binOp Go.BinOp.add 9 (Go.Operand.tmp 37) (Go.Operand.tmp 41) 9, type := 9, pos := "text.go:135", after := #[{ on := 4, ground := Go.Ground.data }, { on := 8, ground := Go.Ground.data }], guard := none }) (v := .string Y2) rfl (by kernel_rfl) (by kernel_rfl) (by kernel_rfl) (fun _ _ _ h => h) (Or.inl ⟨by rfl, ?_⟩) (by assumption) ?_
          · intro w9 hSw
            go_simp
          try simp only [Act.put, List.setIfInBounds_toArray, List.set_cons_zero, List.set_cons_succ]
          refine wpAnyH_take (i := 10) (oi := { dst := some 4, op := Go.Op.assign (Go.Operand.tmp 42), type := 9, pos := "text.go:135", after := #[{ on := 9, ground := Go.Ground.data }, { on := 8, ground := Go.Ground.chain }, { on := 0, ground := Go.Ground.phase }, { on := 1, ground := Go.Ground.phase }, { on := 2, ground := Go.Ground.phase }, { on := 3, ground := Go.Ground.phase }, { on := 4, ground := Go.Ground.phase }, { on := 5, ground := Go.Ground.phase }, { on := 6, ground := Go.Ground.phase }, { on := 7, ground := Go.Ground.phase }, { on := 8, ground := Go.Ground.phase }, { on := 9, ground := Go.Ground.phase }], guard := none }) (v := .string Y2) rfl (by kernel_rfl) (by kernel_rfl) (by kernel_rfl) (fun _ _ _ h => h) (Or.inl ⟨by rfl, ?_⟩) (by assumption) ?_
          · intro w9 hSw
            go_simp
          try simp only [Act.put, List.setIfInBounds_toArray, List.set_cons_zero, List.set_cons_succ]
          refine wpAnyH_done (by kernel_rfl) ?_ _
          go_wp2_with fail
          go_roundw
          case rel => exact ⟨k + 1, by go_num, by omega, by rw [HS.out, HY2.out, HY1.out], below_then hb (below_then BV BwW2k6)⟩
          case measure => simp [intOf]; omega
    · have hlt' : ¬ (k : Int) < (l.length : Int) := by omega
      have hke : k = l.length := by omega
      obtain ⟨X, hX⟩ : ∃ X, X = mE step start l k := ⟨_, rfl⟩
      rw [← hX] at sk
      rw [← hX]
      have sX : X.size ≤ 8846 := by omega
      have HX : Hid (X = mE step start l l.length) := by show _ = _; rw [hX, hke]
      have tt2 := fun W' (B0 : Below wr.heap.size wr W') => tt W' (below_then BR B0)
      clear hX hke hlt hk
      go_wp2_with fail
      obtain ⟨Z1, hZ1⟩ : ∃ Z, Z = X ++ (rowS (⟨#[84]⟩ : ByteArray) [(l.length : Int), (sumL l)]) := ⟨_, rfl⟩
      have sZ1 : Z1.size ≤ 8892 := by have q1 := (show X.size ≤ 8846 from sX); have q2 := (show (rowS (⟨#[84]⟩ : ByteArray) [(l.length : Int), (sumL l)]).size ≤ 46 from rowS_size (c := (⟨#[84]⟩ : ByteArray)) (nb_cons n_2 (nb_cons n_3 nb_nil))); rw [hZ1, app_size]; omega
      have aZ1 : ∀ w, (Op.stringOp .add X (rowS (⟨#[84]⟩ : ByteArray) [(l.length : Int), (sumL l)])).run Tryd.prog w = .ok (.string Z1) w := by have q1 := (show X.size ≤ 8846 from sX); have q2 := (show (rowS (⟨#[84]⟩ : ByteArray) [(l.length : Int), (sumL l)]).size ≤ 46 from rowS_size (c := (⟨#[84]⟩ : ByteArray)) (nb_cons n_2 (nb_cons n_3 nb_nil))); rw [hZ1]; exact sadd _ _ (by omega)
      have HZ1 := hideP hZ1
      clear hZ1
      refine wp_region_held_drew (S := (fun w' => w'.heap[w.heap.size]? = some (.cells #[.int .i64 step, .int .i64 start, .slice a l.length cap] 44 (0, 0)))) (by kernel_rfl) RR (fun hH0 => ?_)
      refine wpAnyH_take (i := 0) (oi := { dst := some 43, op := Go.Op.move (Go.Operand.tmp 4), type := 9, pos := "text.go:138", after := #[], guard := none }) (v := .string X) rfl (by kernel_rfl) (by kernel_rfl) (by kernel_rfl) (fun _ _ _ h => h) (Or.inl ⟨by rfl, ?_⟩) (by assumption) ?_
      · intro w9 hSw
        go_simp
      try simp only [Act.put, List.setIfInBounds_toArray, List.set_cons_zero, List.set_cons_succ]
      refine wpAnyH_take (i := 1) (oi := { dst := some 44, op := Go.Op.fieldAddr 44 (Go.Operand.tmp 1) 2, type := 0, pos := "text.go:138", after := #[], guard := none }) (v := .pointer (some ⟨w.heap.size, 2, none⟩)) rfl (by kernel_rfl) (by kernel_rfl) (by kernel_rfl) (fun _ _ _ h => h) (Or.inl ⟨by rfl, ?_⟩) (by assumption) ?_
      · intro w9 hSw
        go_simp
      try simp only [Act.put, List.setIfInBounds_toArray, List.set_cons_zero, List.set_cons_succ]
      refine wpAnyH_take (i := 2) (oi := { dst := some 45, op := Go.Op.load 42 (Go.Operand.tmp 44), type := 42, pos := "text.go:138", after := #[{ on := 1, ground := Go.Ground.data }], guard := none }) (v := .slice a l.length cap) rfl (by kernel_rfl) (by kernel_rfl) (by kernel_rfl) (fun _ _ _ h => h) (Or.inl ⟨by rfl, ?_⟩) (by assumption) ?_
      · intro w9 hSw
        have q2 : w9.cell? ⟨w.heap.size, 2, none⟩ = some (.slice a l.length cap) := cell_of_row _ _ _ _ _ _ hSw; go_simp
      try simp only [Act.put, List.setIfInBounds_toArray, List.set_cons_zero, List.set_cons_succ]
      refine wpAnyH_take (i := 3) (oi := { dst := some 46, op := Go.Op.call { callee := Go.Callee.builtin Go.Builtin.len, args := #[Go.Operand.tmp 45], argTypes := #[42] }, type := 3, pos := "text.go:138", after := #[{ on := 2, ground := Go.Ground.data }], guard := none }) (v := .int .i64 (l.length : Int)) rfl (by kernel_rfl) (by kernel_rfl) (by kernel_rfl) (fun _ _ _ h => h) (Or.inl ⟨by rfl, ?_⟩) (by assumption) ?_
      · intro w9 hSw
        go_simp
      try simp only [Act.put, List.setIfInBounds_toArray, List.set_cons_zero, List.set_cons_succ]
      refine wpAnyH_take (i := 4) (oi := { dst := some 47, op := Go.Op.load 44 (Go.Operand.tmp 1), type := 44, pos := "text.go:138", after := #[], guard := none }) (v := .agg #[.int .i64 step, .int .i64 start, .slice a l.length cap]) rfl (by kernel_rfl) (by kernel_rfl) (by kernel_rfl) (fun _ _ _ h => h) (Or.inl ⟨by rfl, ?_⟩) (by assumption) ?_
      · intro w9 hSw
        have q0 : w9.cell? ⟨w.heap.size, 0, none⟩ = some (.int .i64 step) := cell_of_row _ _ _ _ _ _ hSw; have q1 : w9.cell? ⟨w.heap.size, 1, none⟩ = some (.int .i64 start) := cell_of_row _ _ _ _ _ _ hSw; have q2 : w9.cell? ⟨w.heap.size, 2, none⟩ = some (.slice a l.length cap) := cell_of_row _ _ _ _ _ _ hSw; go_simp
      try simp only [Act.put, List.setIfInBounds_toArray, List.set_cons_zero, List.set_cons_succ]
      refine wpAnyH_ready (rs := [5]) (by kernel_rfl) (by simp) ?_
      refine AllReadyH.cons (o := { dst := some 48, op := Go.Op.call { callee := Go.Callee.value (Go.Operand.func 39), args := #[Go.Operand.tmp 47], argTypes := #[44] }, type := 3, pos := "text.go:138", after := #[{ on := 4, ground := Go.Ground.data }], guard := none }) rfl (fun K hK => ?_) AllReadyH.nil
      go_simp
      refine (tt2 _ (Below.drew (Below.refl _ _))).mono ?_
      rintro e wwrk1 ⟨rfl, hwwrk1⟩
      have Bwwrk1 := below_then (Below.drew (Below.refl _ _)) hwwrk1
      go_wp2_with fail
      refine hK.out _ _ ((Bwwrk1.block _ hzr).trans RR) (fun hHwwrk1 => ?_)
      clear hK K
      try simp only [Act.put, List.setIfInBounds_toArray, List.set_cons_zero, List.set_cons_succ]
      refine wpAnyH_ready (rs := [6]) (by kernel_rfl) (by simp) ?_
      refine AllReadyH.cons (o := { dst := some 49, op := Go.Op.buildSlice 98 2 #[(0, Go.Operand.tmp 46), (1, Go.Operand.tmp 48)], type := 98, pos := "text.go:138", after := #[{ on := 3, ground := Go.Ground.data }, { on := 5, ground := Go.Ground.data }], guard := none }) rfl (fun K hK => ?_) AllReadyH.nil
      go_simp
      have Bwra2 : Below wr.heap.size wr (wwrk1.alloc (.cells #[.int .i64 (l.length : Int), .int .i64 (sumL l)] 3)) := below_more Bwwrk1 _
      have Rwrn2 : (wwrk1.alloc (.cells #[.int .i64 (l.length : Int), .int .i64 (sumL l)] 3)).heap[wwrk1.heap.size]? = some (.cells ([(l.length : Int), (sumL l)].map (Value.int .i64)).toArray 3 (0, 0)) := by simpa using heap_alloc_new (wwrk1) (.cells #[.int .i64 (l.length : Int), .int .i64 (sumL l)] 3)
      refine hK.out _ _ ((Bwra2.block _ hzr).trans RR) (fun hHwra2 => ?_)
      clear hK K
      try simp only [Act.put, List.setIfInBounds_toArray, List.set_cons_zero, List.set_cons_succ]
      refine wpAnyH_ready (rs := [7]) (by kernel_rfl) (by simp) ?_
      refine AllReadyH.cons (o := { dst := some 50, op := Go.Op.call { callee := Go.Callee.value (Go.Operand.func 37), args := #[Go.Operand.const (Go.Value.string { data := #[84] }), Go.Operand.tmp 49], argTypes := #[9, 98] }, type := 9, pos := "text.go:138", after := #[{ on := 6, ground := Go.Ground.data }, { on := 5, ground := Go.Ground.chain }], guard := none }) rfl (fun K hK => ?_) AllReadyH.nil
      go_simp
      refine (row_any (⟨#[84]⟩ : ByteArray) [(l.length : Int), (sumL l)] wwrk1.heap.size _ (row_lt Rwrn2) (row_cells Rwrn2) (nb_cons n_2 (nb_cons n_3 nb_nil)) (by simp) (show ((⟨#[84]⟩ : ByteArray)).size ≤ 1000 from by decide)).mono ?_
      rintro e wwrk3 ⟨rfl, hwwrk3⟩
      have Bwwrk3 := below_then Bwra2 hwwrk3
      have Rwwrk3_Rwrn2 := (hwwrk3.block _ (row_lt Rwrn2)).trans Rwrn2
      go_wp2_with fail
      refine hK.out _ _ ((Bwwrk3.block _ hzr).trans RR) (fun hHwwrk3 => ?_)
      clear hK K
      try simp only [Act.put, List.setIfInBounds_toArray, List.set_cons_zero, List.set_cons_succ]
      refine wpAnyH_take (i := 8) (oi := { dst := some 51, op := Go.Op.binOp Go.BinOp.add 9 (Go.Operand.tmp 43) (Go.Operand.tmp 50) 9, type := 9, pos := "text.go:138", after := #[{ on := 0, ground := Go.Ground.data }, { on := 7, ground := Go.Ground.data }], guard := none }) (v := .string Z1) rfl (by kernel_rfl) (by kernel_rfl) (by kernel_rfl) (fun _ _ _ h => h) (Or.inl ⟨by rfl, ?_⟩) (by assumption) ?_
      · intro w9 hSw
        go_simp
      try simp only [Act.put, List.setIfInBounds_toArray, List.set_cons_zero, List.set_cons_succ]
      refine wpAnyH_take (i := 9) (oi := { dst := some 2, op := Go.Op.assign (Go.Operand.tmp 51), type := 9, pos := "text.go:138", after := #[{ on := 8, ground := Go.Ground.data }, { on := 7, ground := Go.Ground.chain }, { on := 0, ground := Go.Ground.phase }, { on := 1, ground := Go.Ground.phase }, { on := 2, ground := Go.Ground.phase }, { on := 3, ground := Go.Ground.phase }, { on := 4, ground := Go.Ground.phase }, { on := 5, ground := Go.Ground.phase }, { on := 6, ground := Go.Ground.phase }, { on := 7, ground := Go.Ground.phase }, { on := 8, ground := Go.Ground.phase }], guard := none }) (v := .string Z1) rfl (by kernel_rfl) (by kernel_rfl) (by kernel_rfl) (fun _ _ _ h => h) (Or.inl ⟨by rfl, ?_⟩) (by assumption) ?_
      · intro w9 hSw
        go_simp
      try simp only [Act.put, List.setIfInBounds_toArray, List.set_cons_zero, List.set_cons_succ]
      refine wpAnyH_done (by kernel_rfl) ?_ _
      go_wp2_with fail
      go_ret
      exact ⟨ret_str (by unfold mD; rw [HZ1.out, HX.out]), below_then BR Bwwrk3⟩
end Go.Proofs.YtjaffmmocbplaaaDoor
