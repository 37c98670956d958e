/-
  The program's PrintMeter (made by tools/genpry.py).
-/
import Derived.Test.YtjaffmmocbplaaaDoorPrtX
import Derived.Test.YtjaffmmocbplaaaDoorRowX
import Derived.Test.YtjaffmmocbplaaaDoorFilM
namespace Go.Proofs.YtjaffmmocbplaaaDoor
open Go.RowKit Go.Shelf
set_option linter.unusedVariables false
attribute [local go_sem ↓] Go.wp_at_zero Go.wp_at_succ
/-- the text of a meter file, up to value k -/
def mK (step start : Int) (l : List Txt.Val) : Nat → ByteArray
  | 0 => ⟨#[72]⟩ ++ fS step ++ fS start ++ ⟨#[10]⟩
  | k + 1 => mK step start l k ++ vS (Fil.vAt l k)
def mS (step start : Int) (l : List Txt.Val) : ByteArray := mK step start l l.length ++ ⟨#[84]⟩ ++ fS l.length ++ fS (sumL l) ++ ⟨#[10]⟩
theorem mK_size {step start : Int} {l : List Txt.Val} (n_0 : nB step) (n_1 : nB start) (hv : ∀ k, nB (Fil.vAt l k).i ∧ nB (Fil.vAt l k).o) : ∀ k, (mK step start l k).size ≤ 46 + 44 * k
  | 0 => by
    have := n_0.f; have := n_1.f
    show (⟨#[72]⟩ ++ fS step ++ fS start ++ ⟨#[10]⟩ : ByteArray).size ≤ _
    rw [app_size, app_size, app_size]; show 1 + _ + _ + 1 ≤ _; omega
  | k + 1 => by
    have := mK_size n_0 n_1 hv k
    have := vS_size (hv k).1 (hv k).2
    show (mK step start l k ++ vS (Fil.vAt l k)).size ≤ _
    rw [app_size]; omega
theorem val_nB {l : List Txt.Val} (h : l.all valB = true) (k : Nat) : nB (Fil.vAt l k).i ∧ nB (Fil.vAt l k).o := by
  by_cases hk : k < l.length
  · have := valB_bd (List.all_eq_true.mp h _ (List.mem_of_getElem? (Fil.get_ex hk)))
    unfold nB; omega
  · unfold Fil.vAt; rw [List.getElem?_eq_none (by omega)]; unfold nB; simp
theorem meter_nB {step start : Int} {l : List Txt.Val} (h : meterB step start l = true) : nB step ∧ nB start ∧ l.all valB = true ∧ 1 ≤ l.length ∧ l.length ≤ 200 := by
  unfold meterB at h
  simp only [Bool.and_eq_true, Bool.or_eq_true, decide_eq_true_eq, inB_iff] at h
  obtain ⟨⟨⟨⟨h1, h2⟩, h3⟩, _⟩, h5⟩ := h
  have hs : step = 15 ∨ step = 30 ∨ step = 60 := by omega
  refine ⟨by unfold nB; omega, ?_, h5, by omega, by omega⟩
  unfold nB
  rcases hs with rfl | rfl | rfl <;> omega
theorem sum_nB (l : List Txt.Val) : nB (sumL l) := by have := sumL_bd l; unfold nB; omega

set_option maxRecDepth 1000000 in
set_option maxHeartbeats 2000000 in
theorem PrintMeter_any (step start : Int) (v : Value) (l : List Txt.Val) (w : World) (h : VRow w v l) (ht : TB w) :
    Calls Tryd.prog 7 #[.agg #[.int .i64 step, .int .i64 start, v]] w fun e w' => e = .returned (.string (if meterB step start l then mS step start l else ByteArray.empty)) ∧ Below w.heap.size w w' := by
  have vm := fun W (hb : Below w.heap.size w W) => validMeter_any step start v l W (h.below hb)
  obtain ⟨a, cap, rfl⟩ := h.form
  cases hm : meterB step start l
  case false =>
    rw [hm] at vm
    rw [if_neg (by simp)]
    clear hm
    go_enter Tryd.func7, Tryd.ntmps7
    go_wp2_with (go_at_call 30; refine (vm _ (below_more (Below.refl _ _) _)).mono ?_; rintro e w1 ⟨rfl, hb1⟩)
    go_ret
    exact ⟨rfl, below_then (below_more (Below.refl _ _) _) hb1⟩
  case true =>
  rw [hm] at vm
  rw [if_pos rfl]
  obtain ⟨n_0, n_1, hall, len1, len2⟩ := meter_nB hm
  have n_2 : nB (l.length : Int) := by unfold nB; omega
  have n_3 := sum_nB l
  have NV := hideP (val_nB hall)
  have MKS := hideP (mK_size n_0 n_1 NV.out)
  have cs : ∀ W', ∀ B0 : Below w.heap.size w W', Calls Tryd.prog 33 #[.slice a l.length cap] W' fun e w' => e = .returned (.int .i64 (sumL l)) ∧ Below W'.heap.size W' w' := fun W' B0 => (checkSum_any _ l W' (h.below B0) hall (by omega)).mono fun e w' ⟨he, n, hw⟩ => ⟨he, by rw [hw]; exact below_drewN (Below.refl _ _) n⟩
  have HH := hideP h
  clear hm hall h
  go_enter Tryd.func7, Tryd.ntmps7
  go_upto_region 3 with (go_at_call 30; refine (vm _ (below_more (Below.refl _ _) _)).mono ?_; rintro e W1 ⟨rfl, hW1⟩)
  have R1 : W1.heap[w.heap.size]? = some (.cells #[.int .i64 step, .int .i64 start, .slice a l.length cap] 24) := (hW1.block _ (by simp)).trans (heap_alloc_new _ _)
  have BB : Below w.heap.size w W1 := below_then (below_more (Below.refl _ _) _) hW1
  have hz1 : w.heap.size < W1.heap.size := (Array.getElem?_eq_some_iff.1 R1).1
  have BD : Below W1.heap.size W1 W1.drew := Below.drew (Below.refl _ _)
  have TD : TB W1.drew := (ht.below BB).below BD
  clear hW1 vm
  obtain ⟨Z1, hZ1⟩ : ∃ Z, Z = (⟨#[72]⟩ : ByteArray) ++ (fS step) := ⟨_, rfl⟩
  have sZ1 : Z1.size ≤ 23 := by have q1 := (show (⟨#[72]⟩ : ByteArray).size ≤ 1 from Nat.le_refl _); have q2 := (show (fS step).size ≤ 22 from n_0.f); rw [hZ1, app_size]; omega
  have aZ1 : ∀ w, (Op.stringOp .add (⟨#[72]⟩ : ByteArray) (fS step)).run Tryd.prog w = .ok (.string Z1) w := by have q1 := (show (⟨#[72]⟩ : ByteArray).size ≤ 1 from Nat.le_refl _); have q2 := (show (fS step).size ≤ 22 from n_0.f); rw [hZ1]; exact sadd _ _ (by omega)
  have HZ1 := hideP hZ1
  clear hZ1
  obtain ⟨Z2, hZ2⟩ : ∃ Z, Z = Z1 ++ (fS start) := ⟨_, rfl⟩
  have sZ2 : Z2.size ≤ 45 := by have q1 := (show Z1.size ≤ 23 from sZ1); have q2 := (show (fS start).size ≤ 22 from n_1.f); rw [hZ2, app_size]; omega
  have aZ2 : ∀ w, (Op.stringOp .add Z1 (fS start)).run Tryd.prog w = .ok (.string Z2) w := by have q1 := (show Z1.size ≤ 23 from sZ1); have q2 := (show (fS start).size ≤ 22 from n_1.f); rw [hZ2]; exact sadd _ _ (by omega)
  have HZ2 := hideP hZ2
  clear hZ2
  obtain ⟨Z3, hZ3⟩ : ∃ Z, Z = Z2 ++ (⟨#[10]⟩ : ByteArray) := ⟨_, rfl⟩
  have sZ3 : Z3.size ≤ 46 := by have q1 := (show Z2.size ≤ 45 from sZ2); have q2 := (show (⟨#[10]⟩ : ByteArray).size ≤ 1 from Nat.le_refl _); rw [hZ3, app_size]; omega
  have aZ3 : ∀ w, (Op.stringOp .add Z2 (⟨#[10]⟩ : ByteArray)).run Tryd.prog w = .ok (.string Z3) w := by have q1 := (show Z2.size ≤ 45 from sZ2); have q2 := (show (⟨#[10]⟩ : ByteArray).size ≤ 1 from Nat.le_refl _); rw [hZ3]; exact sadd _ _ (by omega)
  have HZ3 := hideP hZ3
  clear hZ3
  refine wp_region_held_drew (S := (fun w' => w'.heap[w.heap.size]? = some (.cells #[.int .i64 step, .int .i64 start, .slice a l.length cap] 24 (0, 0)))) (by kernel_rfl) R1 (fun hH0 => ?_)
  refine wpAnyH_take (i := 0) (oi := { dst := some 8, op := Go.Op.fieldAddr 24 (Go.Operand.tmp 1) 0, type := 0, pos := "reads.go:37", after := #[], guard := none }) (v := .pointer (some ⟨w.heap.size, 0, none⟩)) rfl (by kernel_rfl) (by kernel_rfl) (by kernel_rfl) (fun _ _ _ h => h) (Or.inl ⟨by rfl, ?_⟩) (by assumption) ?_
  · intro w9 hSw
    go_simp
  try simp only [Act.put, List.setIfInBounds_toArray, List.set_cons_zero, List.set_cons_succ]
  refine wpAnyH_take (i := 1) (oi := { dst := some 9, op := Go.Op.load 3 (Go.Operand.tmp 8), type := 3, pos := "reads.go:37", after := #[{ on := 0, ground := Go.Ground.data }], guard := none }) (v := .int .i64 step) rfl (by kernel_rfl) (by kernel_rfl) (by kernel_rfl) (fun _ _ _ h => h) (Or.inl ⟨by rfl, ?_⟩) (by assumption) ?_
  · intro w9 hSw
    have q0 : w9.cell? ⟨w.heap.size, 0, none⟩ = some (.int .i64 step) := cell_of_row _ _ _ _ _ _ hSw; go_simp
  try simp only [Act.put, List.setIfInBounds_toArray, List.set_cons_zero, List.set_cons_succ]
  refine wpAnyH_take (i := 4) (oi := { dst := some 12, op := Go.Op.fieldAddr 24 (Go.Operand.tmp 1) 1, type := 0, pos := "reads.go:37", after := #[], guard := none }) (v := .pointer (some ⟨w.heap.size, 1, none⟩)) rfl (by kernel_rfl) (by kernel_rfl) (by kernel_rfl) (fun _ _ _ h => h) (Or.inl ⟨by rfl, ?_⟩) (by assumption) ?_
  · intro w9 hSw
    go_simp
  try simp only [Act.put, List.setIfInBounds_toArray, List.set_cons_zero, List.set_cons_succ]
  refine wpAnyH_take (i := 5) (oi := { dst := some 13, op := Go.Op.load 3 (Go.Operand.tmp 12), type := 3, pos := "reads.go:37", after := #[{ on := 4, ground := Go.Ground.data }], guard := none }) (v := .int .i64 start) rfl (by kernel_rfl) (by kernel_rfl) (by kernel_rfl) (fun _ _ _ h => h) (Or.inl ⟨by rfl, ?_⟩) (by assumption) ?_
  · intro w9 hSw
    have q1 : w9.cell? ⟨w.heap.size, 1, none⟩ = some (.int .i64 start) := cell_of_row _ _ _ _ _ _ hSw; go_simp
  try simp only [Act.put, List.setIfInBounds_toArray, List.set_cons_zero, List.set_cons_succ]
  refine wpAnyH_ready (rs := [2]) (by kernel_rfl) (by simp) ?_
  refine AllReadyH.cons (o := { dst := some 10, op := Go.Op.call { callee := Go.Callee.value (Go.Operand.func 31), args := #[Go.Operand.tmp 9], argTypes := #[3] }, type := 9, pos := "reads.go:37", after := #[{ on := 1, ground := Go.Ground.data }], guard := none }) rfl (fun K hK => ?_) AllReadyH.nil
  go_simp
  refine (n_0.ft _ TD).mono ?_
  rintro e wk1 ⟨rfl, hwk1⟩
  have Bwk1 := below_then BD hwk1
  have Twk1 := TD.below hwk1
  go_wp2_with fail
  refine hK.out _ _ ((Bwk1.block _ hz1).trans R1) (fun hHwk1 => ?_)
  clear hK K
  try simp only [Act.put, List.setIfInBounds_toArray, List.set_cons_zero, List.set_cons_succ]
  refine wpAnyH_take (i := 3) (oi := { dst := some 11, op := Go.Op.binOp Go.BinOp.add 9 (Go.Operand.const (Go.Value.string { data := #[72] })) (Go.Operand.tmp 10) 9, type := 9, pos := "reads.go:37", after := #[{ on := 2, ground := Go.Ground.data }], guard := none }) (v := .string Z1) rfl (by kernel_rfl) (by kernel_rfl) (by kernel_rfl) (fun _ _ _ h => h) (Or.inl ⟨by rfl, ?_⟩) (by assumption) ?_
  · intro w9 hSw
    go_simp
  try simp only [Act.put, List.setIfInBounds_toArray, List.set_cons_zero, List.set_cons_succ]
  refine wpAnyH_ready (rs := [6]) (by kernel_rfl) (by simp) ?_
  refine AllReadyH.cons (o := { dst := some 14, op := Go.Op.call { callee := Go.Callee.value (Go.Operand.func 31), args := #[Go.Operand.tmp 13], argTypes := #[3] }, type := 9, pos := "reads.go:37", after := #[{ on := 5, ground := Go.Ground.data }, { on := 2, ground := Go.Ground.chain }], guard := none }) rfl (fun K hK => ?_) AllReadyH.nil
  go_simp
  refine (n_1.ft _ Twk1).mono ?_
  rintro e wk2 ⟨rfl, hwk2⟩
  have Bwk2 := below_then Bwk1 hwk2
  have Twk2 := Twk1.below hwk2
  go_wp2_with fail
  refine hK.out _ _ ((Bwk2.block _ hz1).trans R1) (fun hHwk2 => ?_)
  clear hK K
  try simp only [Act.put, List.setIfInBounds_toArray, List.set_cons_zero, List.set_cons_succ]
  refine wpAnyH_take (i := 7) (oi := { dst := some 15, op := Go.Op.binOp Go.BinOp.add 9 (Go.Operand.tmp 11) (Go.Operand.tmp 14) 9, type := 9, pos := "reads.go:37", after := #[{ on := 3, ground := Go.Ground.data }, { on := 6, ground := Go.Ground.data }], guard := none }) (v := .string Z2) rfl (by kernel_rfl) (by kernel_rfl) (by kernel_rfl) (fun _ _ _ h => h) (Or.inl ⟨by rfl, ?_⟩) (by assumption) ?_
  · intro w9 hSw
    go_simp
  try simp only [Act.put, List.setIfInBounds_toArray, List.set_cons_zero, List.set_cons_succ]
  refine wpAnyH_take (i := 8) (oi := { dst := some 16, op := Go.Op.binOp Go.BinOp.add 9 (Go.Operand.tmp 15) (Go.Operand.const (Go.Value.string { data := #[10] })) 9, type := 9, pos := "reads.go:37", after := #[{ on := 7, ground := Go.Ground.data }], guard := none }) (v := .string Z3) rfl (by kernel_rfl) (by kernel_rfl) (by kernel_rfl) (fun _ _ _ h => h) (Or.inl ⟨by rfl, ?_⟩) (by assumption) ?_
  · intro w9 hSw
    go_simp
  try simp only [Act.put, List.setIfInBounds_toArray, List.set_cons_zero, List.set_cons_succ]
  refine wpAnyH_take (i := 9) (oi := { dst := some 3, op := Go.Op.assign (Go.Operand.tmp 16), type := 9, pos := "reads.go:37", after := #[{ on := 8, ground := Go.Ground.data }, { on := 6, ground := Go.Ground.chain }, { on := 0, ground := Go.Ground.phase }, { on := 1, ground := Go.Ground.phase }, { on := 2, ground := Go.Ground.phase }, { on := 3, ground := Go.Ground.phase }, { on := 4, ground := Go.Ground.phase }, { on := 5, ground := Go.Ground.phase }, { on := 6, ground := Go.Ground.phase }, { on := 7, ground := Go.Ground.phase }, { on := 8, ground := Go.Ground.phase }], guard := none }) (v := .string Z3) rfl (by kernel_rfl) (by kernel_rfl) (by kernel_rfl) (fun _ _ _ h => h) (Or.inl ⟨by rfl, ?_⟩) (by assumption) ?_
  · intro w9 hSw
    go_simp
  try simp only [Act.put, List.setIfInBounds_toArray, List.set_cons_zero, List.set_cons_succ]
  refine wpAnyH_done (by kernel_rfl) ?_ _
  have HZ0 : Hid (Z3 = mK step start l 0) := by show _ = _; show _ = ⟨#[72]⟩ ++ fS step ++ fS start ++ ⟨#[10]⟩; rw [HZ3.out, HZ2.out, HZ1.out]
  have BL := below_then BB Bwk2
  obtain ⟨W2, hW2⟩ : ∃ W2, W2 = wk2 := ⟨_, rfl⟩
  have BW2 : Below w.heap.size w W2 := by rw [hW2]; exact BL
  have R2 : W2.heap[w.heap.size]? = some (.cells #[.int .i64 step, .int .i64 start, .slice a l.length cap] 24) := by rw [hW2]; exact ((Bwk2).block _ hz1).trans R1
  have hz2 : w.heap.size < W2.heap.size := (Array.getElem?_eq_some_iff.1 R2).1
  have TW2 : TB W2 := ht.below BW2
  rw [← hW2]
  rw [HZ0.out]
  go_wp2_with fail
  go_loopw [3, 4] (fun s p wi => ∃ k : Nat, p = .int .i64 k ∧ k ≤ l.length ∧ s = .string (mK step start l k) ∧ Below W2.heap.size W2 wi) (fun _ p _ => l.length - (intOf p).toNat)
  case atStart => exact ⟨0, rfl, by omega, rfl, Below.refl _ _⟩
  case round =>
    obtain ⟨k, rfl, hk, rfl, hb⟩ := hrel
    have RR : wr.heap[w.heap.size]? = some (.cells #[.int .i64 step, .int .i64 start, .slice a l.length cap] 24) := (hb.block _ hz2).trans R2
    have m2 : wr.cell? ⟨w.heap.size, 2, none⟩ = some (.slice a l.length cap) := cell_of_row _ _ _ _ _ _ RR
    have hzr : w.heap.size < wr.heap.size := (Array.getElem?_eq_some_iff.1 RR).1
    have TR := TW2.below hb
    have BR := below_then BW2 hb
    by_cases hlt : k < l.length
    · have hlt' : (k : Int) < (l.length : Int) := by omega
      have hk0 : (0 : Int) ≤ (k : Int) := by omega
      obtain ⟨b, off, eb, hcap, hblt, c0, c1, c2⟩ := (HH.out.below BR).at (Fil.get_ex hlt)
      subst eb
      have hcap' : (l.length : Int) ≤ (cap : Int) := by omega
      have vt := fun W (hT : TB W) => valueText_any (Fil.vAt l k) W hT (NV.out k).1 (NV.out k).2
      have sv := vS_size (NV.out k).1 (NV.out k).2
      have sk := MKS.out k
      have HS : Hid (mK step start l (k + 1) = mK step start l k ++ vS (Fil.vAt l k)) := rfl
      obtain ⟨x, hx⟩ : ∃ x, x = Fil.vAt l k := ⟨_, rfl⟩
      rw [← hx] at c0 c1 c2 vt sv HS
      obtain ⟨X, hX⟩ : ∃ X, X = mK step start l k := ⟨_, rfl⟩
      rw [← hX] at sk HS
      rw [← hX]
      have ad : ∀ w, (Op.stringOp .add X (vS x)).run Tryd.prog w = .ok (.string (X ++ vS x)) w := sadd _ _ (by omega)
      clear hx hX
      go_wp2_with (go_at_call 32; refine (vt _ TR).mono ?_; rintro e w8 ⟨rfl, hb8⟩)
      go_roundw
      case rel => exact ⟨k + 1, by go_num, by omega, by rw [HS.out], below_then hb hb8⟩
      case measure => simp [intOf]; omega
    · have hlt' : ¬ (k : Int) < (l.length : Int) := by omega
      have hke : k = l.length := by omega
      have sX0 := MKS.out k
      obtain ⟨X, hX⟩ : ∃ X, X = mK step start l k := ⟨_, rfl⟩
      rw [← hX] at sX0
      rw [← hX]
      have sX : X.size ≤ 8846 := by omega
      have HX : Hid (X = mK step start l l.length) := by show _ = _; rw [hX, hke]
      have BE : Below wr.heap.size wr wr.drew := Below.drew (Below.refl _ _)
      have TE : TB wr.drew := TR.below BE
      have cs2 := fun W' (B0 : Below wr.heap.size wr W') => cs W' (below_then BR B0)
      clear hX hke hlt hk
      go_wp2_with fail
      obtain ⟨Y1, hY1⟩ : ∃ Z, Z = X ++ (⟨#[84]⟩ : ByteArray) := ⟨_, rfl⟩
      have sY1 : Y1.size ≤ 8847 := by have q1 := (show X.size ≤ 8846 from sX); have q2 := (show (⟨#[84]⟩ : ByteArray).size ≤ 1 from Nat.le_refl _); rw [hY1, app_size]; omega
      have aY1 : ∀ w, (Op.stringOp .add X (⟨#[84]⟩ : ByteArray)).run Tryd.prog w = .ok (.string Y1) w := by have q1 := (show X.size ≤ 8846 from sX); have q2 := (show (⟨#[84]⟩ : ByteArray).size ≤ 1 from Nat.le_refl _); rw [hY1]; exact sadd _ _ (by omega)
      have HY1 := hideP hY1
      clear hY1
      obtain ⟨Y2, hY2⟩ : ∃ Z, Z = Y1 ++ (fS (l.length : Int)) := ⟨_, rfl⟩
      have sY2 : Y2.size ≤ 8869 := by have q1 := (show Y1.size ≤ 8847 from sY1); have q2 := (show (fS (l.length : Int)).size ≤ 22 from n_2.f); rw [hY2, app_size]; omega
      have aY2 : ∀ w, (Op.stringOp .add Y1 (fS (l.length : Int))).run Tryd.prog w = .ok (.string Y2) w := by have q1 := (show Y1.size ≤ 8847 from sY1); have q2 := (show (fS (l.length : Int)).size ≤ 22 from n_2.f); rw [hY2]; exact sadd _ _ (by omega)
      have HY2 := hideP hY2
      clear hY2
      obtain ⟨Y3, hY3⟩ : ∃ Z, Z = Y2 ++ (fS (sumL l)) := ⟨_, rfl⟩
      have sY3 : Y3.size ≤ 8891 := by have q1 := (show Y2.size ≤ 8869 from sY2); have q2 := (show (fS (sumL l)).size ≤ 22 from n_3.f); rw [hY3, app_size]; omega
      have aY3 : ∀ w, (Op.stringOp .add Y2 (fS (sumL l))).run Tryd.prog w = .ok (.string Y3) w := by have q1 := (show Y2.size ≤ 8869 from sY2); have q2 := (show (fS (sumL l)).size ≤ 22 from n_3.f); rw [hY3]; exact sadd _ _ (by omega)
      have HY3 := hideP hY3
      clear hY3
      obtain ⟨Y4, hY4⟩ : ∃ Z, Z = Y3 ++ (⟨#[10]⟩ : ByteArray) := ⟨_, rfl⟩
      have sY4 : Y4.size ≤ 8892 := by have q1 := (show Y3.size ≤ 8891 from sY3); have q2 := (show (⟨#[10]⟩ : ByteArray).size ≤ 1 from Nat.le_refl _); rw [hY4, app_size]; omega
      have aY4 : ∀ w, (Op.stringOp .add Y3 (⟨#[10]⟩ : ByteArray)).run Tryd.prog w = .ok (.string Y4) w := by have q1 := (show Y3.size ≤ 8891 from sY3); have q2 := (show (⟨#[10]⟩ : ByteArray).size ≤ 1 from Nat.le_refl _); rw [hY4]; exact sadd _ _ (by omega)
      have HY4 := hideP hY4
      clear hY4
      refine wp_region_held_drew (S := (fun w' => w'.heap[w.heap.size]? = some (.cells #[.int .i64 step, .int .i64 start, .slice a l.length cap] 24 (0, 0)))) (by kernel_rfl) RR (fun hH0 => ?_)
      refine wpAnyH_take (i := 0) (oi := { dst := some 32, op := Go.Op.move (Go.Operand.tmp 3), type := 9, pos := "reads.go:41", after := #[], guard := none }) (v := .string X) rfl (by kernel_rfl) (by kernel_rfl) (by kernel_rfl) (fun _ _ _ h => h) (Or.inl ⟨by rfl, ?_⟩) (by assumption) ?_
      · intro w9 hSw
        go_simp
      try simp only [Act.put, List.setIfInBounds_toArray, List.set_cons_zero, List.set_cons_succ]
      refine wpAnyH_take (i := 1) (oi := { dst := some 33, op := Go.Op.binOp Go.BinOp.add 9 (Go.Operand.tmp 32) (Go.Operand.const (Go.Value.string { data := #[84] })) 9, type := 9, pos := "reads.go:41", after := #[{ on := 0, ground := Go.Ground.data }], guard := none }) (v := .string Y1) rfl (by kernel_rfl) (by kernel_rfl) (by kernel_rfl) (fun _ _ _ h => h) (Or.inl ⟨by rfl, ?_⟩) (by assumption) ?_
      · intro w9 hSw
        go_simp
      try simp only [Act.put, List.setIfInBounds_toArray, List.set_cons_zero, List.set_cons_succ]
      refine wpAnyH_take (i := 2) (oi := { dst := some 34, op := Go.Op.fieldAddr 24 (Go.Operand.tmp 1) 2, type := 0, pos := "reads.go:41", after := #[], guard := none }) (v := .pointer (some ⟨w.heap.size, 2, none⟩)) rfl (by kernel_rfl) (by kernel_rfl) (by kernel_rfl) (fun _ _ _ h => h) (Or.inl ⟨by rfl, ?_⟩) (by assumption) ?_
      · intro w9 hSw
        go_simp
      try simp only [Act.put, List.setIfInBounds_toArray, List.set_cons_zero, List.set_cons_succ]
      refine wpAnyH_take (i := 3) (oi := { dst := some 35, op := Go.Op.load 22 (Go.Operand.tmp 34), type := 22, pos := "reads.go:41", after := #[{ on := 2, ground := Go.Ground.data }], guard := none }) (v := .slice a l.length cap) rfl (by kernel_rfl) (by kernel_rfl) (by kernel_rfl) (fun _ _ _ h => h) (Or.inl ⟨by rfl, ?_⟩) (by assumption) ?_
      · intro w9 hSw
        have q2 : w9.cell? ⟨w.heap.size, 2, none⟩ = some (.slice a l.length cap) := cell_of_row _ _ _ _ _ _ hSw; go_simp
      try simp only [Act.put, List.setIfInBounds_toArray, List.set_cons_zero, List.set_cons_succ]
      refine wpAnyH_take (i := 4) (oi := { dst := some 36, op := Go.Op.call { callee := Go.Callee.builtin Go.Builtin.len, args := #[Go.Operand.tmp 35], argTypes := #[22] }, type := 3, pos := "reads.go:41", after := #[{ on := 3, ground := Go.Ground.data }], guard := none }) (v := .int .i64 (l.length : Int)) rfl (by kernel_rfl) (by kernel_rfl) (by kernel_rfl) (fun _ _ _ h => h) (Or.inl ⟨by rfl, ?_⟩) (by assumption) ?_
      · intro w9 hSw
        go_simp
      try simp only [Act.put, List.setIfInBounds_toArray, List.set_cons_zero, List.set_cons_succ]
      refine wpAnyH_take (i := 7) (oi := { dst := some 39, op := Go.Op.fieldAddr 24 (Go.Operand.tmp 1) 2, type := 0, pos := "reads.go:41", after := #[], guard := none }) (v := .pointer (some ⟨w.heap.size, 2, none⟩)) rfl (by kernel_rfl) (by kernel_rfl) (by kernel_rfl) (fun _ _ _ h => h) (Or.inl ⟨by rfl, ?_⟩) (by assumption) ?_
      · intro w9 hSw
        go_simp
      try simp only [Act.put, List.setIfInBounds_toArray, List.set_cons_zero, List.set_cons_succ]
      refine wpAnyH_take (i := 8) (oi := { dst := some 40, op := Go.Op.load 22 (Go.Operand.tmp 39), type := 22, pos := "reads.go:41", after := #[{ on := 7, ground := Go.Ground.data }], guard := none }) (v := .slice a l.length cap) rfl (by kernel_rfl) (by kernel_rfl) (by kernel_rfl) (fun _ _ _ h => h) (Or.inl ⟨by rfl, ?_⟩) (by assumption) ?_
      · intro w9 hSw
        have q2 : w9.cell? ⟨w.heap.size, 2, none⟩ = some (.slice a l.length cap) := cell_of_row _ _ _ _ _ _ hSw; go_simp
      try simp only [Act.put, List.setIfInBounds_toArray, List.set_cons_zero, List.set_cons_succ]
      refine wpAnyH_ready (rs := [5]) (by kernel_rfl) (by simp) ?_
      refine AllReadyH.cons (o := { dst := some 37, op := Go.Op.call { callee := Go.Callee.value (Go.Operand.func 31), args := #[Go.Operand.tmp 36], argTypes := #[3] }, type := 9, pos := "reads.go:41", after := #[{ on := 4, ground := Go.Ground.data }], guard := none }) rfl (fun K hK => ?_) AllReadyH.nil
      go_simp
      refine (n_2.ft _ TE).mono ?_
      rintro e wj1 ⟨rfl, hwj1⟩
      have Bwj1 := below_then BE hwj1
      have Twj1 := TE.below hwj1
      go_wp2_with fail
      refine hK.out _ _ ((Bwj1.block _ hzr).trans RR) (fun hHwj1 => ?_)
      clear hK K
      try simp only [Act.put, List.setIfInBounds_toArray, List.set_cons_zero, List.set_cons_succ]
      refine wpAnyH_take (i := 6) (oi := { dst := some 38, op := Go.Op.binOp Go.BinOp.add 9 (Go.Operand.tmp 33) (Go.Operand.tmp 37) 9, type := 9, pos := "reads.go:41", after := #[{ on := 1, ground := Go.Ground.data }, { on := 5, ground := Go.Ground.data }], guard := none }) (v := .string Y2) rfl (by kernel_rfl) (by kernel_rfl) (by kernel_rfl) (fun _ _ _ h => h) (Or.inl ⟨by rfl, ?_⟩) (by assumption) ?_
      · intro w9 hSw
        go_simp
      try simp only [Act.put, List.setIfInBounds_toArray, List.set_cons_zero, List.set_cons_succ]
      refine wpAnyH_ready (rs := [9]) (by kernel_rfl) (by simp) ?_
      refine AllReadyH.cons (o := { dst := some 41, op := Go.Op.call { callee := Go.Callee.value (Go.Operand.func 33), args := #[Go.Operand.tmp 40], argTypes := #[22] }, type := 3, pos := "reads.go:41", after := #[{ on := 8, ground := Go.Ground.data }, { on := 5, ground := Go.Ground.chain }], guard := none }) rfl (fun K hK => ?_) AllReadyH.nil
      go_simp
      refine (cs2 _ Bwj1 ).mono ?_
      rintro e wj2 ⟨rfl, hwj2⟩
      have Bwj2 := below_then Bwj1 hwj2
      have Twj2 := Twj1.below hwj2
      go_wp2_with fail
      refine hK.out _ _ ((Bwj2.block _ hzr).trans RR) (fun hHwj2 => ?_)
      clear hK K
      try simp only [Act.put, List.setIfInBounds_toArray, List.set_cons_zero, List.set_cons_succ]
      refine wpAnyH_ready (rs := [10]) (by kernel_rfl) (by simp) ?_
      refine AllReadyH.cons (o := { dst := some 42, op := Go.Op.call { callee := Go.Callee.value (Go.Operand.func 31), args := #[Go.Operand.tmp 41], argTypes := #[3] }, type := 9, pos := "reads.go:41", after := #[{ on := 9, ground := Go.Ground.data }, { on := 9, ground := Go.Ground.chain }], guard := none }) rfl (fun K hK => ?_) AllReadyH.nil
      go_simp
      refine (n_3.ft _ Twj2).mono ?_
      rintro e wj3 ⟨rfl, hwj3⟩
      have Bwj3 := below_then Bwj2 hwj3
      have Twj3 := Twj2.below hwj3
      go_wp2_with fail
      refine hK.out _ _ ((Bwj3.block _ hzr).trans RR) (fun hHwj3 => ?_)
      clear hK K
      try simp only [Act.put, List.setIfInBounds_toArray, List.set_cons_zero, List.set_cons_succ]
      refine wpAnyH_take (i := 11) (oi := { dst := some 43, op := Go.Op.binOp Go.BinOp.add 9 (Go.Operand.tmp 38) (Go.Operand.tmp 42) 9, type := 9, pos := "reads.go:41", after := #[{ on := 6, ground := Go.Ground.data }, { on := 10, ground := Go.Ground.data }], guard := none }) (v := .string Y3) rfl (by kernel_rfl) (by kernel_rfl) (by kernel_rfl) (fun _ _ _ h => h) (Or.inl ⟨by rfl, ?_⟩) (by assumption) ?_
      · intro w9 hSw
        go_simp
      try simp only [Act.put, List.setIfInBounds_toArray, List.set_cons_zero, List.set_cons_succ]
      refine wpAnyH_take (i := 12) (oi := { dst := some 44, op := Go.Op.binOp Go.BinOp.add 9 (Go.Operand.tmp 43) (Go.Operand.const (Go.Value.string { data := #[10] })) 9, type := 9, pos := "reads.go:41", after := #[{ on := 11, ground := Go.Ground.data }], guard := none }) (v := .string Y4) rfl (by kernel_rfl) (by kernel_rfl) (by kernel_rfl) (fun _ _ _ h => h) (Or.inl ⟨by rfl, ?_⟩) (by assumption) ?_
      · intro w9 hSw
        go_simp
      try simp only [Act.put, List.setIfInBounds_toArray, List.set_cons_zero, List.set_cons_succ]
      refine wpAnyH_take (i := 13) (oi := { dst := some 2, op := Go.Op.assign (Go.Operand.tmp 44), type := 9, pos := "reads.go:41", after := #[{ on := 12, ground := Go.Ground.data }, { on := 10, ground := Go.Ground.chain }, { on := 0, ground := Go.Ground.phase }, { on := 1, ground := Go.Ground.phase }, { on := 2, ground := Go.Ground.phase }, { on := 3, ground := Go.Ground.phase }, { on := 4, ground := Go.Ground.phase }, { on := 5, ground := Go.Ground.phase }, { on := 6, ground := Go.Ground.phase }, { on := 7, ground := Go.Ground.phase }, { on := 8, ground := Go.Ground.phase }, { on := 9, ground := Go.Ground.phase }, { on := 10, ground := Go.Ground.phase }, { on := 11, ground := Go.Ground.phase }, { on := 12, ground := Go.Ground.phase }], guard := none }) (v := .string Y4) rfl (by kernel_rfl) (by kernel_rfl) (by kernel_rfl) (fun _ _ _ h => h) (Or.inl ⟨by rfl, ?_⟩) (by assumption) ?_
      · intro w9 hSw
        go_simp
      try simp only [Act.put, List.setIfInBounds_toArray, List.set_cons_zero, List.set_cons_succ]
      refine wpAnyH_done (by kernel_rfl) ?_ _
      go_wp2_with fail
      go_ret
      exact ⟨ret_str (by unfold mS; rw [HY4.out, HY3.out, HY2.out, HY1.out, HX.out]), below_then BR Bwj3⟩
end Go.Proofs.YtjaffmmocbplaaaDoor
