/-
  PrtY, BakR in one text.
-/
import Derived.Test.YtjaffmmocbplaabDoorKPrtX
import Derived.Test.YtjaffmmocbplaabDoorK09
import Derived.Test.YtjaffmmocbplaabDoorFilM
import Derived.Test.YtjaffmmocbplaabDoorK19
import Derived.Test.YtjaffmmocbplaabDoorKRrW
namespace Go.Proofs.YtjaffmmocbplaabDoor
open Go.RowKit Go.Shelf
set_option linter.unusedVariables false
attribute [local go_sem ↓] Go.wp_at_zero Go.wp_at_succ
/-- the text of a meter file, up to value k -/
def mK (step start : Int) (l : List Txt.Val) : Nat → ByteArray
  | 0 => ⟨#[72]⟩ ++ fS step ++ fS start ++ ⟨#[10]⟩
  | k + 1 => mK step start l k ++ vS (Fil.vAt l k)
def mS (step start : Int) (l : List Txt.Val) : ByteArray := mK step start l l.length ++ ⟨#[84]⟩ ++ fS l.length ++ fS (sumL l) ++ ⟨#[10]⟩
theorem mK_size {step start : Int} {l : List Txt.Val} (n_0 : nB step) (n_1 : nB start) (hv : ∀ k, nB (Fil.vAt l k).i ∧ nB (Fil.vAt l k).o) : ∀ k, (mK step start l k).size ≤ 46 + 44 * k
  | 0 => by
    have := n_0.f; have := n_1.f
    show (⟨#[72]⟩ ++ fS step ++ fS start ++ ⟨#[10]⟩ : ByteArray).size ≤ _
    rw [app_size, app_size, app_size]; show 1 + _ + _ + 1 ≤ _; omega
  | k + 1 => by
    have := mK_size n_0 n_1 hv k
    have := vS_size (hv k).1 (hv k).2
    show (mK step start l k ++ vS (Fil.vAt l k)).size ≤ _
    rw [app_size]; omega
theorem val_nB {l : List Txt.Val} (h : l.all valB = true) (k : Nat) : nB (Fil.vAt l k).i ∧ nB (Fil.vAt l k).o := by
  by_cases hk : k < l.length
  · have := valB_bd (List.all_eq_true.mp h _ (List.mem_of_getElem? (Fil.get_ex hk)))
    unfold nB; omega
  · unfold Fil.vAt; rw [List.getElem?_eq_none (by omega)]; unfold nB; simp
theorem meter_nB {step start : Int} {l : List Txt.Val} (h : meterB step start l = true) : nB step ∧ nB start ∧ l.all valB = true ∧ 1 ≤ l.length ∧ l.length ≤ 200 := by
  unfold meterB at h
  simp only [Bool.and_eq_true, Bool.or_eq_true, decide_eq_true_eq, inB_iff] at h
  obtain ⟨⟨⟨⟨h1, h2⟩, h3⟩, _⟩, h5⟩ := h
  have hs : step = 15 ∨ step = 30 ∨ step = 60 := by omega
  refine ⟨by unfold nB; omega, ?_, h5, by omega, by omega⟩
  unfold nB
  rcases hs with rfl | rfl | rfl <;> omega
theorem sum_nB (l : List Txt.Val) : nB (sumL l) := by have := sumL_bd l; unfold nB; omega

set_option maxRecDepth 1000000 in
set_option maxHeartbeats 2000000 in
theorem PrintMeter_any (step start : Int) (v : Value) (l : List Txt.Val) (w : World) (h : VRow w v l) (ht : TB w) :
    Calls Tryd.prog 12 #[.agg #[.int .i64 step, .int .i64 start, v]] w fun e w' => e = .returned (.string (if meterB step start l then mS step start l else ByteArray.empty)) ∧ Below w.heap.size w w' := by
  have vm := fun W (hb : Below w.heap.size w W) => validMeter_any step start v l W (h.below hb)
  obtain ⟨a, cap, rfl⟩ := h.form
  cases hm : meterB step start l
  case false =>
    rw [hm] at vm
    rw [if_neg (by simp)]
    clear hm
    go_enter Tryd.func12, Tryd.ntmps12
    go_wp2_with (go_at_call 26; refine (vm _ (below_more (Below.refl _ _) _)).mono ?_; rintro e w1 ⟨rfl, hb1⟩)
    go_ret
    exact ⟨rfl, below_then (below_more (Below.refl _ _) _) hb1⟩
  case true =>
  rw [hm] at vm
  rw [if_pos rfl]
  obtain ⟨n_0, n_1, hall, len1, len2⟩ := meter_nB hm
  have n_2 : nB (l.length : Int) := by unfold nB; omega
  have n_3 := sum_nB l
  have NV := hideP (val_nB hall)
  have MKS := hideP (mK_size n_0 n_1 NV.out)
  have cs : ∀ W', ∀ B0 : Below w.heap.size w W', Calls Tryd.prog 29 #[.slice a l.length cap] W' fun e w' => e = .returned (.int .i64 (sumL l)) ∧ Below W'.heap.size W' w' := fun W' B0 => (checkSum_any _ l W' (h.below B0) hall (by omega)).mono fun e w' ⟨he, n, hw⟩ => ⟨he, by rw [hw]; exact below_drewN (Below.refl _ _) n⟩
  have HH := hideP h
  clear hm hall h
  go_enter Tryd.func12, Tryd.ntmps12
  go_upto_region 3 with (go_at_call 26; refine (vm _ (below_more (Below.refl _ _) _)).mono ?_; rintro e W1 ⟨rfl, hW1⟩)
  have R1 : W1.heap[w.heap.size]? = some (.cells #[.int .i64 step, .int .i64 start, .slice a l.length cap] 40) := (hW1.block _ (by simp)).trans (heap_alloc_new _ _)
  have BB : Below w.heap.size w W1 := below_then (below_more (Below.refl _ _) _) hW1
  have hz1 : w.heap.size < W1.heap.size := (Array.getElem?_eq_some_iff.1 R1).1
  have BD : Below W1.heap.size W1 W1.drew := Below.drew (Below.refl _ _)
  have TD : TB W1.drew := (ht.below BB).below BD
  clear hW1 vm
  obtain ⟨Z1, hZ1⟩ : ∃ Z, Z = (⟨#[72]⟩ : ByteArray) ++ (fS step) := ⟨_, rfl⟩
  have sZ1 : Z1.size ≤ 23 := by have q1 := (show (⟨#[72]⟩ : ByteArray).size ≤ 1 from Nat.le_refl _); have q2 := (show (fS step).size ≤ 22 from n_0.f); rw [hZ1, app_size]; omega
  have aZ1 : ∀ w, (Op.stringOp .add (⟨#[72]⟩ : ByteArray) (fS step)).run Tryd.prog w = .ok (.string Z1) w := by have q1 := (show (⟨#[72]⟩ : ByteArray).size ≤ 1 from Nat.le_refl _); have q2 := (show (fS step).size ≤ 22 from n_0.f); rw [hZ1]; exact sadd _ _ (by omega)
  have HZ1 := hideP hZ1
  clear hZ1
  obtain ⟨Z2, hZ2⟩ : ∃ Z, Z = Z1 ++ (fS start) := ⟨_, rfl⟩
  have sZ2 : Z2.size ≤ 45 := by have q1 := (show Z1.size ≤ 23 from sZ1); have q2 := (show (fS start).size ≤ 22 from n_1.f); rw [hZ2, app_size]; omega
  have aZ2 : ∀ w, (Op.stringOp .add Z1 (fS start)).run Tryd.prog w = .ok (.string Z2) w := by have q1 := (show Z1.size ≤ 23 from sZ1); have q2 := (show (fS start).size ≤ 22 from n_1.f); rw [hZ2]; exact sadd _ _ (by omega)
  have HZ2 := hideP hZ2
  clear hZ2
  obtain ⟨Z3, hZ3⟩ : ∃ Z, Z = Z2 ++ (⟨#[10]⟩ : ByteArray) := ⟨_, rfl⟩
  have sZ3 : Z3.size ≤ 46 := by have q1 := (show Z2.size ≤ 45 from sZ2); have q2 := (show (⟨#[10]⟩ : ByteArray).size ≤ 1 from Nat.le_refl _); rw [hZ3, app_size]; omega
  have aZ3 : ∀ w, (Op.stringOp .add Z2 (⟨#[10]⟩ : ByteArray)).run Tryd.prog w = .ok (.string Z3) w := by have q1 := (show Z2.size ≤ 45 from sZ2); have q2 := (show (⟨#[10]⟩ : ByteArray).size ≤ 1 from Nat.le_refl _); rw [hZ3]; exact sadd _ _ (by omega)
  have HZ3 := hideP hZ3
  clear hZ3
  refine wp_region_held_drew (S := (fun w' => w'.heap[w.heap.size]? = some (.cells #[.int .i64 step, .int .i64 start, .slice a l.length cap] 40 (0, 0)))) (by kernel_rfl) R1 (fun hH0 => ?_)
  refine wpAnyH_take (i := 0) (oi := { dst := some 8, op := Go.Op.fieldAddr 40 (Go.Operand.tmp 1) 0, type := 0, pos := "reads.go:37", after := #[], guard := none }) (v := .pointer (some ⟨w.heap.size, 0, none⟩)) rfl (by kernel_rfl) (by kernel_rfl) (by kernel_rfl) (fun _ _ _ h => h) (Or.inl ⟨by rfl, ?_⟩) (by assumption) ?_
  · intro w9 hSw
    go_simp
  try simp only [Act.put, List.setIfInBounds_toArray, List.set_cons_zero, List.set_cons_succ]
  refine wpAnyH_take (i := 1) (oi := { dst := some 9, op := Go.Op.load 3 (Go.Operand.tmp 8), type := 3, pos := "reads.go:37", after := #[{ on := 0, ground := Go.Ground.data }], guard := none }) (v := .int .i64 step) rfl (by kernel_rfl) (by kernel_rfl) (by kernel_rfl) (fun _ _ _ h => h) (Or.inl ⟨by rfl, ?_⟩) (by assumption) ?_
  · intro w9 hSw
    have q0 : w9.cell? ⟨w.heap.size, 0, none⟩ = some (.int .i64 step) := cell_of_row _ _ _ _ _ _ hSw; go_simp
  try simp only [Act.put, List.setIfInBounds_toArray, List.set_cons_zero, List.set_cons_succ]
  refine wpAnyH_take (i := 4) (oi := { dst := some 12, op := Go.Op.fieldAddr 40 (Go.Operand.tmp 1) 1, type := 0, pos := "reads.go:37", after := #[], guard := none }) (v := .pointer (some ⟨w.heap.size, 1, none⟩)) rfl (by kernel_rfl) (by kernel_rfl) (by kernel_rfl) (fun _ _ _ h => h) (Or.inl ⟨by rfl, ?_⟩) (by assumption) ?_
  · intro w9 hSw
    go_simp
  try simp only [Act.put, List.setIfInBounds_toArray, List.set_cons_zero, List.set_cons_succ]
  refine wpAnyH_take (i := 5) (oi := { dst := some 13, op := Go.Op.load 3 (Go.Operand.tmp 12), type := 3, pos := "reads.go:37", after := #[{ on := 4, ground := Go.Ground.data }], guard := none }) (v := .int .i64 start) rfl (by kernel_rfl) (by kernel_rfl) (by kernel_rfl) (fun _ _ _ h => h) (Or.inl ⟨by rfl, ?_⟩) (by assumption) ?_
  · intro w9 hSw
    have q1 : w9.cell? ⟨w.heap.size, 1, none⟩ = some (.int .i64 start) := cell_of_row _ _ _ _ _ _ hSw; go_simp
  try simp only [Act.put, List.setIfInBounds_toArray, List.set_cons_zero, List.set_cons_succ]
  refine wpAnyH_ready (rs := [2]) (by kernel_rfl) (by simp) ?_
  refine AllReadyH.cons (o := { dst := some 10, op := Go.Op.call { callee := Go.Callee.value (Go.Operand.func 27), args := #[Go.Operand.tmp 9], argTypes := #[3] }, type := 9, pos := "reads.go:37", after := #[{ on := 1, ground := Go.Ground.data }], guard := none }) rfl (fun K hK => ?_) AllReadyH.nil
  go_simp
  refine (n_0.ft _ TD).mono ?_
  rintro e wk1 ⟨rfl, hwk1⟩
  have Bwk1 := below_then BD hwk1
  have Twk1 := TD.below hwk1
  go_wp2_with fail
  refine hK.out _ _ ((Bwk1.block _ hz1).trans R1) (fun hHwk1 => ?_)
  clear hK K
  try simp only [Act.put, List.setIfInBounds_toArray, List.set_cons_zero, List.set_cons_succ]
  refine wpAnyH_take (i := 3) (oi := { dst := some 11, op := Go.Op.binOp Go.BinOp.add 9 (Go.Operand.const (Go.Value.string { data := #[72] })) (Go.Operand.tmp 10) 9, type := 9, pos := "reads.go:37", after := #[{ on := 2, ground := Go.Ground.data }], guard := none }) (v := .string Z1) rfl (by kernel_rfl) (by kernel_rfl) (by kernel_rfl) (fun _ _ _ h => h) (Or.inl ⟨by rfl, ?_⟩) (by assumption) ?_
  · intro w9 hSw
    go_simp
  try simp only [Act.put, List.setIfInBounds_toArray, List.set_cons_zero, List.set_cons_succ]
  refine wpAnyH_ready (rs := [6]) (by kernel_rfl) (by simp) ?_
  refine AllReadyH.cons (o := { dst := some 14, op := Go.Op.call { callee := Go.Callee.value (Go.Operand.func 27), args := #[Go.Operand.tmp 13], argTypes := #[3] }, type := 9, pos := "reads.go:37", after := #[{ on := 5, ground := Go.Ground.data }, { on := 2, ground := Go.Ground.chain }], guard := none }) rfl (fun K hK => ?_) AllReadyH.nil
  go_simp
  refine (n_1.ft _ Twk1).mono ?_
  rintro e wk2 ⟨rfl, hwk2⟩
  have Bwk2 := below_then Bwk1 hwk2
  have Twk2 := Twk1.below hwk2
  go_wp2_with fail
  refine hK.out _ _ ((Bwk2.block _ hz1).trans R1) (fun hHwk2 => ?_)
  clear hK K
  try simp only [Act.put, List.setIfInBounds_toArray, List.set_cons_zero, List.set_cons_succ]
  refine wpAnyH_take (i := 7) (oi := { dst := some 15, op := Go.Op.binOp Go.BinOp.add 9 (Go.Operand.tmp 11) (Go.Operand.tmp 14) 9, type := 9, pos := "reads.go:37", after := #[{ on := 3, ground := Go.Ground.data }, { on := 6, ground := Go.Ground.data }], guard := none }) (v := .string Z2) rfl (by kernel_rfl) (by kernel_rfl) (by kernel_rfl) (fun _ _ _ h => h) (Or.inl ⟨by rfl, ?_⟩) (by assumption) ?_
  · intro w9 hSw
    go_simp
  try simp only [Act.put, List.setIfInBounds_toArray, List.set_cons_zero, List.set_cons_succ]
  refine wpAnyH_take (i := 8) (oi := { dst := some 16, op := Go.Op.binOp Go.BinOp.add 9 (Go.Operand.tmp 15) (Go.Operand.const (Go.Value.string { data := #[10] })) 9, type := 9, pos := "reads.go:37", after := #[{ on := 7, ground := Go.Ground.data }], guard := none }) (v := .string Z3) rfl (by kernel_rfl) (by kernel_rfl) (by kernel_rfl) (fun _ _ _ h => h) (Or.inl ⟨by rfl, ?_⟩) (by assumption) ?_
  · intro w9 hSw
    go_simp
  try simp only [Act.put, List.setIfInBounds_toArray, List.set_cons_zero, List.set_cons_succ]
  refine wpAnyH_take (i := 9) (oi := { dst := some 3, op := Go.Op.assign (Go.Operand.tmp 16), type := 9, pos := "reads.go:37", after := #[{ on := 8, ground := Go.Ground.data }, { on := 6, ground := Go.Ground.chain }, { on := 0, ground := Go.Ground.phase }, { on := 1, ground := Go.Ground.phase }, { on := 2, ground := Go.Ground.phase }, { on := 3, ground := Go.Ground.phase }, { on := 4, ground := Go.Ground.phase }, { on := 5, ground := Go.Ground.phase }, { on := 6, ground := Go.Ground.phase }, { on := 7, ground := Go.Ground.phase }, { on := 8, ground := Go.Ground.phase }], guard := none }) (v := .string Z3) rfl (by kernel_rfl) (by kernel_rfl) (by kernel_rfl) (fun _ _ _ h => h) (Or.inl ⟨by rfl, ?_⟩) (by assumption) ?_
  · intro w9 hSw
    go_simp
  try simp only [Act.put, List.setIfInBounds_toArray, List.set_cons_zero, List.set_cons_succ]
  refine wpAnyH_done (by kernel_rfl) ?_ _
  have HZ0 : Hid (Z3 = mK step start l 0) := by show _ = _; show _ = ⟨#[72]⟩ ++ fS step ++ fS start ++ ⟨#[10]⟩; rw [HZ3.out, HZ2.out, HZ1.out]
  have BL := below_then BB Bwk2
  obtain ⟨W2, hW2⟩ : ∃ W2, W2 = wk2 := ⟨_, rfl⟩
  have BW2 : Below w.heap.size w W2 := by rw [hW2]; exact BL
  have R2 : W2.heap[w.heap.size]? = some (.cells #[.int .i64 step, .int .i64 start, .slice a l.length cap] 40) := by rw [hW2]; exact ((Bwk2).block _ hz1).trans R1
  have hz2 : w.heap.size < W2.heap.size := (Array.getElem?_eq_some_iff.1 R2).1
  have TW2 : TB W2 := ht.below BW2
  rw [← hW2]
  rw [HZ0.out]
  go_wp2_with fail
  go_loopw [3, 4] (fun s p wi => ∃ k : Nat, p = .int .i64 k ∧ k ≤ l.length ∧ s = .string (mK step start l k) ∧ Below W2.heap.size W2 wi) (fun _ p _ => l.length - (intOf p).toNat)
  case atStart => exact ⟨0, rfl, by omega, rfl, Below.refl _ _⟩
  case round =>
    obtain ⟨k, rfl, hk, rfl, hb⟩ := hrel
    have RR : wr.heap[w.heap.size]? = some (.cells #[.int .i64 step, .int .i64 start, .slice a l.length cap] 40) := (hb.block _ hz2).trans R2
    have m2 : wr.cell? ⟨w.heap.size, 2, none⟩ = some (.slice a l.length cap) := cell_of_row _ _ _ _ _ _ RR
    have hzr : w.heap.size < wr.heap.size := (Array.getElem?_eq_some_iff.1 RR).1
    have TR := TW2.below hb
    have BR := below_then BW2 hb
    by_cases hlt : k < l.length
    · have hlt' : (k : Int) < (l.length : Int) := by omega
      have hk0 : (0 : Int) ≤ (k : Int) := by omega
      obtain ⟨b, off, eb, hcap, hblt, c0, c1, c2⟩ := (HH.out.below BR).at (Fil.get_ex hlt)
      subst eb
      have hcap' : (l.length : Int) ≤ (cap : Int) := by omega
      have vt := fun W (hT : TB W) => valueText_any (Fil.vAt l k) W hT (NV.out k).1 (NV.out k).2
      have sv := vS_size (NV.out k).1 (NV.out k).2
      have sk := MKS.out k
      have HS : Hid (mK step start l (k + 1) = mK step start l k ++ vS (Fil.vAt l k)) := rfl
      obtain ⟨x, hx⟩ : ∃ x, x = Fil.vAt l k := ⟨_, rfl⟩
      rw [← hx] at c0 c1 c2 vt sv HS
      obtain ⟨X, hX⟩ : ∃ X, X = mK step start l k := ⟨_, rfl⟩
      rw [← hX] at sk HS
      rw [← hX]
      have ad : ∀ w, (Op.stringOp .add X (vS x)).run Tryd.prog w = .ok (.string (X ++ vS x)) w := sadd _ _ (by omega)
      clear hx hX
      go_wp2_with (go_at_call 28; refine (vt _ TR).mono ?_; rintro e w8 ⟨rfl, hb8⟩)
      go_roundw
      case rel => exact ⟨k + 1, by go_num, by omega, by rw [HS.out], below_then hb hb8⟩
      case measure => simp [intOf]; omega
    · have hlt' : ¬ (k : Int) < (l.length : Int) := by omega
      have hke : k = l.length := by omega
      have sX0 := MKS.out k
      obtain ⟨X, hX⟩ : ∃ X, X = mK step start l k := ⟨_, rfl⟩
      rw [← hX] at sX0
      rw [← hX]
      have sX : X.size ≤ 8846 := by omega
      have HX : Hid (X = mK step start l l.length) := by show _ = _; rw [hX, hke]
      have BE : Below wr.heap.size wr wr.drew := Below.drew (Below.refl _ _)
      have TE : TB wr.drew := TR.below BE
      have cs2 := fun W' (B0 : Below wr.heap.size wr W') => cs W' (below_then BR B0)
      clear hX hke hlt hk
      go_wp2_with fail
      obtain ⟨Y1, hY1⟩ : ∃ Z, Z = X ++ (⟨#[84]⟩ : ByteArray) := ⟨_, rfl⟩
      have sY1 : Y1.size ≤ 8847 := by have q1 := (show X.size ≤ 8846 from sX); have q2 := (show (⟨#[84]⟩ : ByteArray).size ≤ 1 from Nat.le_refl _); rw [hY1, app_size]; omega
      have aY1 : ∀ w, (Op.stringOp .add X (⟨#[84]⟩ : ByteArray)).run Tryd.prog w = .ok (.string Y1) w := by have q1 := (show X.size ≤ 8846 from sX); have q2 := (show (⟨#[84]⟩ : ByteArray).size ≤ 1 from Nat.le_refl _); rw [hY1]; exact sadd _ _ (by omega)
      have HY1 := hideP hY1
      clear hY1
      obtain ⟨Y2, hY2⟩ : ∃ Z, Z = Y1 ++ (fS (l.length : Int)) := ⟨_, rfl⟩
      have sY2 : Y2.size ≤ 8869 := by have q1 := (show Y1.size ≤ 8847 from sY1); have q2 := (show (fS (l.length : Int)).size ≤ 22 from n_2.f); rw [hY2, app_size]; omega
      have aY2 : ∀ w, (Op.stringOp .add Y1 (fS (l.length : Int))).run Tryd.prog w = .ok (.string Y2) w := by have q1 := (show Y1.size ≤ 8847 from sY1); have q2 := (show (fS (l.length : Int)).size ≤ 22 from n_2.f); rw [hY2]; exact sadd _ _ (by omega)
      have HY2 := hideP hY2
      clear hY2
      obtain ⟨Y3, hY3⟩ : ∃ Z, Z = Y2 ++ (fS (sumL l)) := ⟨_, rfl⟩
      have sY3 : Y3.size ≤ 8891 := by have q1 := (show Y2.size ≤ 8869 from sY2); have q2 := (show (fS (sumL l)).size ≤ 22 from n_3.f); rw [hY3, app_size]; omega
      have aY3 : ∀ w, (Op.stringOp .add Y2 (fS (sumL l))).run Tryd.prog w = .ok (.string Y3) w := by have q1 := (show Y2.size ≤ 8869 from sY2); have q2 := (show (fS (sumL l)).size ≤ 22 from n_3.f); rw [hY3]; exact sadd _ _ (by omega)
      have HY3 := hideP hY3
      clear hY3
      obtain ⟨Y4, hY4⟩ : ∃ Z, Z = Y3 ++ (⟨#[10]⟩ : ByteArray) := ⟨_, rfl⟩
      have sY4 : Y4.size ≤ 8892 := by have q1 := (show Y3.size ≤ 8891 from sY3); have q2 := (show (⟨#[10]⟩ : ByteArray).size ≤ 1 from Nat.le_refl _); rw [hY4, app_size]; omega
      have aY4 : ∀ w, (Op.stringOp .add Y3 (⟨#[10]⟩ : ByteArray)).run Tryd.prog w = .ok (.string Y4) w := by have q1 := (show Y3.size ≤ 8891 from sY3); have q2 := (show (⟨#[10]⟩ : ByteArray).size ≤ 1 from Nat.le_refl _); rw [hY4]; exact sadd _ _ (by omega)
      have HY4 := hideP hY4
      clear hY4
      refine wp_region_held_drew (S := (fun w' => w'.heap[w.heap.size]? = some (.cells #[.int .i64 step, .int .i64 start, .slice a l.length cap] 40 (0, 0)))) (by kernel_rfl) RR (fun hH0 => ?_)
      refine wpAnyH_take (i := 0) (oi := { dst := some 32, op := Go.Op.move (Go.Operand.tmp 3), type := 9, pos := "reads.go:41", after := #[], guard := none }) (v := .string X) rfl (by kernel_rfl) (by kernel_rfl) (by kernel_rfl) (fun _ _ _ h => h) (Or.inl ⟨by rfl, ?_⟩) (by assumption) ?_
      · intro w9 hSw
        go_simp
      try simp only [Act.put, List.setIfInBounds_toArray, List.set_cons_zero, List.set_cons_succ]
      refine wpAnyH_take (i := 1) (oi := { dst := some 33, op := Go.Op.binOp Go.BinOp.add 9 (Go.Operand.tmp 32) (Go.Operand.const (Go.Value.string { data := #[84] })) 9, type := 9, pos := "reads.go:41", after := #[{ on := 0, ground := Go.Ground.data }], guard := none }) (v := .string Y1) rfl (by kernel_rfl) (by kernel_rfl) (by kernel_rfl) (fun _ _ _ h => h) (Or.inl ⟨by rfl, ?_⟩) (by assumption) ?_
      · intro w9 hSw
        go_simp
      try simp only [Act.put, List.setIfInBounds_toArray, List.set_cons_zero, List.set_cons_succ]
      refine wpAnyH_take (i := 2) (oi := { dst := some 34, op := Go.Op.fieldAddr 40 (Go.Operand.tmp 1) 2, type := 0, pos := "reads.go:41", after := #[], guard := none }) (v := .pointer (some ⟨w.heap.size, 2, none⟩)) rfl (by kernel_rfl) (by kernel_rfl) (by kernel_rfl) (fun _ _ _ h => h) (Or.inl ⟨by rfl, ?_⟩) (by assumption) ?_
      · intro w9 hSw
        go_simp
      try simp only [Act.put, List.setIfInBounds_toArray, List.set_cons_zero, List.set_cons_succ]
      refine wpAnyH_take (i := 3) (oi := { dst := some 35, op := Go.Op.load 38 (Go.Operand.tmp 34), type := 38, pos := "reads.go:41", after := #[{ on := 2, ground := Go.Ground.data }], guard := none }) (v := .slice a l.length cap) rfl (by kernel_rfl) (by kernel_rfl) (by kernel_rfl) (fun _ _ _ h => h) (Or.inl ⟨by rfl, ?_⟩) (by assumption) ?_
      · intro w9 hSw
        have q2 : w9.cell? ⟨w.heap.size, 2, none⟩ = some (.slice a l.length cap) := cell_of_row _ _ _ _ _ _ hSw; go_simp
      try simp only [Act.put, List.setIfInBounds_toArray, List.set_cons_zero, List.set_cons_succ]
      refine wpAnyH_take (i := 4) (oi := { dst := some 36, op := Go.Op.call { callee := Go.Callee.builtin Go.Builtin.len, args := #[Go.Operand.tmp 35], argTypes := #[38] }, type := 3, pos := "reads.go:41", after := #[{ on := 3, ground := Go.Ground.data }], guard := none }) (v := .int .i64 (l.length : Int)) rfl (by kernel_rfl) (by kernel_rfl) (by kernel_rfl) (fun _ _ _ h => h) (Or.inl ⟨by rfl, ?_⟩) (by assumption) ?_
      · intro w9 hSw
        go_simp
      try simp only [Act.put, List.setIfInBounds_toArray, List.set_cons_zero, List.set_cons_succ]
      refine wpAnyH_take (i := 7) (oi := { dst := some 39, op := Go.Op.fieldAddr 40 (Go.Operand.tmp 1) 2, type := 0, pos := "reads.go:41", after := #[], guard := none }) (v := .pointer (some ⟨w.heap.size, 2, none⟩)) rfl (by kernel_rfl) (by kernel_rfl) (by kernel_rfl) (fun _ _ _ h => h) (Or.inl ⟨by rfl, ?_⟩) (by assumption) ?_
      · intro w9 hSw
        go_simp
      try simp only [Act.put, List.setIfInBounds_toArray, List.set_cons_zero, List.set_cons_succ]
      refine wpAnyH_take (i := 8) (oi := { dst := some 40, op := Go.Op.load 38 (Go.Operand.tmp 39), type := 38, pos := "reads.go:41", after := #[{ on := 7, ground := Go.Ground.data }], guard := none }) (v := .slice a l.length cap) rfl (by kernel_rfl) (by kernel_rfl) (by kernel_rfl) (fun _ _ _ h => h) (Or.inl ⟨by rfl, ?_⟩) (by assumption) ?_
      · intro w9 hSw
        have q2 : w9.cell? ⟨w.heap.size, 2, none⟩ = some (.slice a l.length cap) := cell_of_row _ _ _ _ _ _ hSw; go_simp
      try simp only [Act.put, List.setIfInBounds_toArray, List.set_cons_zero, List.set_cons_succ]
      refine wpAnyH_ready (rs := [5]) (by kernel_rfl) (by simp) ?_
      refine AllReadyH.cons (o := { dst := some 37, op := Go.Op.call { callee := Go.Callee.value (Go.Operand.func 27), args := #[Go.Operand.tmp 36], argTypes := #[3] }, type := 9, pos := "reads.go:41", after := #[{ on := 4, ground := Go.Ground.data }], guard := none }) rfl (fun K hK => ?_) AllReadyH.nil
      go_simp
      refine (n_2.ft _ TE).mono ?_
      rintro e wj1 ⟨rfl, hwj1⟩
      have Bwj1 := below_then BE hwj1
      have Twj1 := TE.below hwj1
      go_wp2_with fail
      refine hK.out _ _ ((Bwj1.block _ hzr).trans RR) (fun hHwj1 => ?_)
      clear hK K
      try simp only [Act.put, List.setIfInBounds_toArray, List.set_cons_zero, List.set_cons_succ]
      refine wpAnyH_take (i := 6) (oi := { dst := some 38, op := Go.Op.binOp Go.BinOp.add 9 (Go.Operand.tmp 33) (Go.Operand.tmp 37) 9, type := 9, pos := "reads.go:41", after := #[{ on := 1, ground := Go.Ground.data }, { on := 5, ground := Go.Ground.data }], guard := none }) (v := .string Y2) rfl (by kernel_rfl) (by kernel_rfl) (by kernel_rfl) (fun _ _ _ h => h) (Or.inl ⟨by rfl, ?_⟩) (by assumption) ?_
      · intro w9 hSw
        go_simp
      try simp only [Act.put, List.setIfInBounds_toArray, List.set_cons_zero, List.set_cons_succ]
      refine wpAnyH_ready (rs := [9]) (by kernel_rfl) (by simp) ?_
      refine AllReadyH.cons (o := { dst := some 41, op := Go.Op.call { callee := Go.Callee.value (Go.Operand.func 29), args := #[Go.Operand.tmp 40], argTypes := #[38] }, type := 3, pos := "reads.go:41", after := #[{ on := 8, ground := Go.Ground.data }, { on := 5, ground := Go.Ground.chain }], guard := none }) rfl (fun K hK => ?_) AllReadyH.nil
      go_simp
      refine (cs2 _ Bwj1 ).mono ?_
      rintro e wj2 ⟨rfl, hwj2⟩
      have Bwj2 := below_then Bwj1 hwj2
      have Twj2 := Twj1.below hwj2
      go_wp2_with fail
      refine hK.out _ _ ((Bwj2.block _ hzr).trans RR) (fun hHwj2 => ?_)
      clear hK K
      try simp only [Act.put, List.setIfInBounds_toArray, List.set_cons_zero, List.set_cons_succ]
      refine wpAnyH_ready (rs := [10]) (by kernel_rfl) (by simp) ?_
      refine AllReadyH.cons (o := { dst := some 42, op := Go.Op.call { callee := Go.Callee.value (Go.Operand.func 27), args := #[Go.Operand.tmp 41], argTypes := #[3] }, type := 9, pos := "reads.go:41", after := #[{ on := 9, ground := Go.Ground.data }, { on := 9, ground := Go.Ground.chain }], guard := none }) rfl (fun K hK => ?_) AllReadyH.nil
      go_simp
      refine (n_3.ft _ Twj2).mono ?_
      rintro e wj3 ⟨rfl, hwj3⟩
      have Bwj3 := below_then Bwj2 hwj3
      have Twj3 := Twj2.below hwj3
      go_wp2_with fail
      refine hK.out _ _ ((Bwj3.block _ hzr).trans RR) (fun hHwj3 => ?_)
      clear hK K
      try simp only [Act.put, List.setIfInBounds_toArray, List.set_cons_zero, List.set_cons_succ]
      refine wpAnyH_take (i := 11) (oi := { dst := some 43, op := Go.Op.binOp Go.BinOp.add 9 (Go.Operand.tmp 38) (Go.Operand.tmp 42) 9, type := 9, pos := "reads.go:41", after := #[{ on := 6, ground := Go.Ground.data }, { on := 10, ground := Go.Ground.data }], guard := none }) (v := .string Y3) rfl (by kernel_rfl) (by kernel_rfl) (by kernel_rfl) (fun _ _ _ h => h) (Or.inl ⟨by rfl, ?_⟩) (by assumption) ?_
      · intro w9 hSw
        go_simp
      try simp only [Act.put, List.setIfInBounds_toArray, List.set_cons_zero, List.set_cons_succ]
      refine wpAnyH_take (i := 12) (oi := { dst := some 44, op := Go.Op.binOp Go.BinOp.add 9 (Go.Operand.tmp 43) (Go.Operand.const (Go.Value.string { data := #[10] })) 9, type := 9, pos := "reads.go:41", after := #[{ on := 11, ground := Go.Ground.data }], guard := none }) (v := .string Y4) rfl (by kernel_rfl) (by kernel_rfl) (by kernel_rfl) (fun _ _ _ h => h) (Or.inl ⟨by rfl, ?_⟩) (by assumption) ?_
      · intro w9 hSw
        go_simp
      try simp only [Act.put, List.setIfInBounds_toArray, List.set_cons_zero, List.set_cons_succ]
      refine wpAnyH_take (i := 13) (oi := { dst := some 2, op := Go.Op.assign (Go.Operand.tmp 44), type := 9, pos := "reads.go:41", after := #[{ on := 12, ground := Go.Ground.data }, { on := 10, ground := Go.Ground.chain }, { on := 0, ground := Go.Ground.phase }, { on := 1, ground := Go.Ground.phase }, { on := 2, ground := Go.Ground.phase }, { on := 3, ground := Go.Ground.phase }, { on := 4, ground := Go.Ground.phase }, { on := 5, ground := Go.Ground.phase }, { on := 6, ground := Go.Ground.phase }, { on := 7, ground := Go.Ground.phase }, { on := 8, ground := Go.Ground.phase }, { on := 9, ground := Go.Ground.phase }, { on := 10, ground := Go.Ground.phase }, { on := 11, ground := Go.Ground.phase }, { on := 12, ground := Go.Ground.phase }], guard := none }) (v := .string Y4) rfl (by kernel_rfl) (by kernel_rfl) (by kernel_rfl) (fun _ _ _ h => h) (Or.inl ⟨by rfl, ?_⟩) (by assumption) ?_
      · intro w9 hSw
        go_simp
      try simp only [Act.put, List.setIfInBounds_toArray, List.set_cons_zero, List.set_cons_succ]
      refine wpAnyH_done (by kernel_rfl) ?_ _
      go_wp2_with fail
      go_ret
      exact ⟨ret_str (by unfold mS; rw [HY4.out, HY3.out, HY2.out, HY1.out, HX.out]), below_then BR Bwj3⟩
end Go.Proofs.YtjaffmmocbplaabDoor

namespace Go.Proofs.YtjaffmmocbplaabDoor
set_option linter.unusedVariables false
open Txt (byteAt Sc digB runD num take field fin seesB)

theorem two_app (a b : UInt8) : (⟨#[a, b]⟩ : ByteArray) = ⟨#[a]⟩ ++ ⟨#[b]⟩ := by apply ByteArray.ext; simp
theorem vAt_vL (t : ByteArray) (s : Sc) (k : Nat) : ∀ n, k < n → Fil.vAt (Txt.vL t s n) k = (Txt.vstep t (Txt.vS t s k)).1
  | 0, h => absurd h (by omega)
  | n + 1, h => by
    apply Fil.vAt_some
    show (Txt.vL t s n ++ [(Txt.vstep t (Txt.vS t s n)).1])[k]? = _
    by_cases g : k < n
    · rw [List.getElem?_append_left (by rw [Txt.vL_length]; exact g), Fil.get_ex (by rw [Txt.vL_length]; exact g), vAt_vL t s k n g]
    · obtain rfl : k = n := by omega
      rw [List.getElem?_append_right (by rw [Txt.vL_length]; omega), Txt.vL_length, Nat.sub_self]; rfl
theorem vstep_back {t : ByteArray} {s : Sc} (h : (Txt.vstep t s).2.bad = false) : St t s (vS (Txt.vstep t s).1) (Txt.vstep t s).2 := by
  unfold Txt.vstep at h ⊢
  split
  · rename_i g
    rw [if_pos g] at h
    obtain ⟨g1, g2⟩ := Txt.seesB_iff.mp g
    have a := take_back (c := 10) (s := ⟨s.pos + 1, false⟩) h
    show St t s (⟨#[45, 10]⟩) (take t ⟨s.pos + 1, false⟩ 10)
    rw [two_app]
    exact St.app (s' := ⟨s.pos + 1, false⟩) ⟨g1, At.mk1 g2, rfl⟩ a
  · rename_i g
    rw [if_neg g] at h
    have a := take_back (c := 10) (s := (field t 9 (num t 9 s).2).2) h
    have b := field_back a.good
    have c := num_back b.good
    exact (c.app b).app a
theorem hd_back {t : ByteArray} {s : Sc} (h : (hd t s).2.2.bad = false) : St t s (⟨#[72]⟩ ++ fS (hd t s).1 ++ fS (hd t s).2.1 ++ ⟨#[10]⟩) (hd t s).2.2 := by
  have a := take_back (c := 10) (s := (field t 9 (field t 9 (take t s 72)).2).2) h
  have b := field_back a.good
  have c := field_back b.good
  have d := take_back (c := 72) (s := s) c.good
  exact ((d.app c).app b).app a
theorem vS_good {t : ByteArray} {s : Sc} {n : Nat} (h : (Txt.vS t s n).bad = false) : ∀ k, k ≤ n → (Txt.vS t s (n - k)).bad = false
  | 0, _ => h
  | k + 1, hk => by
    have ih := vS_good h k (by omega)
    obtain ⟨m, hm⟩ : ∃ m, n - k = m + 1 := ⟨n - k - 1, by omega⟩
    have e : n - (k + 1) = m := by omega
    rw [hm] at ih
    rw [e]
    exact (vstep_back (t := t) (s := Txt.vS t s m) ih).good
theorem read_to {t : ByteArray} {n : Nat} (h : (rdS t n).bad = false) : ∀ k, k ≤ n → St t ⟨0, false⟩ (mK (rStep t) (rStart t) (rL t n) k) (rdS t k)
  | 0, _ => hd_back (vS_good (n := n) h n (Nat.le_refl _) |> fun q => by rw [Nat.sub_self] at q; exact q)
  | k + 1, hk => by
    have ih := read_to h k (by omega)
    have q := vS_good (n := n) h (n - (k + 1)) (by omega)
    have e : n - (n - (k + 1)) = k + 1 := by omega
    rw [e] at q
    have b := vstep_back (t := t) (s := Txt.vS t (hd t ⟨0, false⟩).2.2 k) q
    have ev : Fil.vAt (rL t n) k = (Txt.vstep t (Txt.vS t (hd t ⟨0, false⟩).2.2 k)).1 := vAt_vL t _ k n (by omega)
    show St t ⟨0, false⟩ (mK (rStep t) (rStart t) (rL t n) k ++ vS (Fil.vAt (rL t n) k)) _
    rw [ev]
    exact ih.app b
theorem rErr_zero {t : ByteArray} {n : Nat} (h : rErr t n = 0) : t.size ≤ 8000 ∧ (tailS t (rdS t n)).2.2.bad = false ∧ meterB (rStep t) (rStart t) (rL t n) = true ∧ (tailS t (rdS t n)).1 = (n : Int) ∧ (tailS t (rdS t n)).2.1 = sumL (rL t n) := by
  unfold rErr at h
  split at h
  · omega
  · rename_i h1
    split at h
    · omega
    · rename_i h2
      split at h
      · omega
      · rename_i h3
        split at h
        · rename_i h4
          exact ⟨by omega, by simpa using h2, by simpa using h3, h4.1, h4.2⟩
        · omega
/-- a text that is read is what is printed of it -/
theorem meter_back {t : ByteArray} {n : Nat} (h : rErr t n = 0) : t = mS (rStep t) (rStart t) (rL t n) ∧ meterB (rStep t) (rStart t) (rL t n) = true := by
  obtain ⟨h1, h2, h3, h4, h5⟩ := rErr_zero h
  refine ⟨?_, h3⟩
  obtain ⟨T, hT⟩ : ∃ T, T = take t (field t 9 (field t 9 (take t (rdS t n) 84)).2).2 10 := ⟨_, rfl⟩
  have hf : (fin t T).bad = false := by rw [hT]; exact h2
  have hp : ¬ T.pos < t.size ∧ T.bad = false := by
    unfold Txt.fin at hf
    split at hf
    · cases hf
    · rename_i q; exact ⟨q, hf⟩
  have a := take_back (c := 10) (s := (field t 9 (field t 9 (take t (rdS t n) 84)).2).2) (by rw [hT] at hp; exact hp.2)
  have b := field_back a.good
  have c := field_back b.good
  have d := take_back (c := 84) (s := rdS t n) c.good
  have e := read_to d.good n (Nat.le_refl _)
  have all := (((e.app d).app c).app b).app a
  have e1 : (field t 9 (take t (rdS t n) 84)).1 = (n : Int) := h4
  have e2 : (field t 9 (field t 9 (take t (rdS t n) 84)).2).1 = sumL (rL t n) := h5
  rw [e1, e2] at all
  have e3 : mS (rStep t) (rStart t) (rL t n) = mK (rStep t) (rStart t) (rL t n) n ++ ⟨#[84]⟩ ++ fS n ++ fS (sumL (rL t n)) ++ ⟨#[10]⟩ := by
    unfold mS; rw [rL_length]
  rw [← e3] at all
  have hn := all.next
  have hi := all.at_.inside (Nat.zero_le _)
  refine all.at_.whole ?_
  have hn' : T = ⟨0 + (mS (rStep t) (rStart t) (rL t n)).size, false⟩ := by rw [hT]; exact hn
  have hq := hp.1
  rw [hn'] at hq
  have hi' : 0 + (mS (rStep t) (rStart t) (rL t n)).size ≤ t.size := hi
  have hq' : ¬ 0 + (mS (rStep t) (rStart t) (rL t n)).size < t.size := hq
  omega

/-! ### what is printed is read -/
theorem vS_first {x : Txt.Val} (h : valB x = true) : (x.m = true ∧ byteAt (vS x) 0 = 45) ∨ (x.m = false ∧ 48 ≤ byteAt (vS x) 0 ∧ byteAt (vS x) 0 ≤ 57) := by
  obtain ⟨b1, b2⟩ := valB_bd h
  unfold vS
  cases hm : x.m
  · right
    refine ⟨rfl, ?_⟩
    obtain ⟨k, hk⟩ : ∃ k : Nat, x.i = k := ⟨x.i.toNat, by omega⟩
    have f := dS_first k
    have o := dS_one k
    rw [if_neg (by simp), byteAt_left (by rw [app_size, hk]; omega), byteAt_left (by rw [hk]; omega), hk]
    exact ⟨f.1, f.2.1⟩
  · left
    refine ⟨rfl, ?_⟩
    rw [if_pos rfl, two_app, byteAt_left (by show 0 < 1; omega), byteAt_one]; rfl
theorem vS_pos {x : Txt.Val} (h : valB x = true) : 1 ≤ (vS x).size ∧ (vS x).size ≤ 20 := by
  obtain ⟨b1, b2⟩ := valB_bd h
  unfold vS
  split
  · show 1 ≤ 2 ∧ 2 ≤ 20; omega
  · obtain ⟨k, hk⟩ : ∃ k : Nat, x.i = k := ⟨x.i.toNat, by omega⟩
    obtain ⟨j, hj⟩ : ∃ j : Nat, x.o = j := ⟨x.o.toNat, by omega⟩
    have l1 := dS_len 8 k (by omega)
    have l2 := dS_len 8 j (by omega)
    have o := dS_one k
    unfold fS
    rw [app_size, app_size, app_size, hk, hj]
    show 1 ≤ _ + (1 + _) + 1 ∧ _ + (1 + _) + 1 ≤ 20
    omega
theorem vstepF {t : ByteArray} {p : Nat} {x : Txt.Val} (hv : valB x = true) (h : At t p (vS x)) : Txt.vstep t ⟨p, false⟩ = (x, ⟨p + (vS x).size, false⟩) := by
  obtain ⟨b1, b2⟩ := valB_bd hv
  have hf := vS_first hv
  have hz := (vS_pos hv).1
  have h0 := h 0 (by omega)
  rw [Nat.add_zero] at h0
  unfold Txt.vstep
  cases hm : x.m
  · have h0' : 48 ≤ byteAt t p ∧ byteAt t p ≤ 57 := by
      rcases hf with ⟨q, _⟩ | ⟨_, q⟩
      · rw [hm] at q; cases q
      · omega
    rw [if_neg (by rw [Txt.seesB_iff]; show ¬ (_ ∧ byteAt t p = 45); omega)]
    have e : vS x = dS x.i ++ fS x.o ++ ⟨#[10]⟩ := by unfold vS; rw [hm]; rfl
    rw [e] at h ⊢
    have hd1 := h.left.left
    have hd2 := h.left.right
    have hd3 := h.right.one
    rw [app_size] at hd3
    have n1 : num t 9 ⟨p, false⟩ = (x.i, ⟨p + (dS x.i).size, false⟩) := numF b1.1 b1.2 hd1 (by
      have := hd2.left.one
      rw [this]; rfl)
    have n2 : field t 9 ⟨p + (dS x.i).size, false⟩ = (x.o, ⟨p + (dS x.i).size + (fS x.o).size, false⟩) := fieldF b2.1 b2.2 hd2 (by
      rw [Nat.add_assoc, hd3]; rfl)
    rw [n1]
    show ((⟨x.i, (field t 9 ⟨p + (dS x.i).size, false⟩).1, false⟩ : Txt.Val), take t (field t 9 ⟨p + (dS x.i).size, false⟩).2 10) = _
    rw [n2]
    show ((⟨x.i, x.o, false⟩ : Txt.Val), take t ⟨p + (dS x.i).size + (fS x.o).size, false⟩ 10) = _
    rw [takeF (c := 10) (by rw [Nat.add_assoc, hd3]; rfl), app_size, app_size]
    obtain ⟨xi, xo, xm⟩ := x
    simp only at hm
    subst hm
    congr 2
    show p + (dS xi).size + (fS xo).size + 1 = p + ((dS xi).size + (fS xo).size + 1)
    omega
  · have hx : x = ⟨0, 0, true⟩ := by
      unfold valB at hv; rw [if_pos hm] at hv
      simp at hv
      obtain ⟨xi, xo, xm⟩ := x
      simp only at hm hv
      rw [hm, hv.1, hv.2]
    subst hx
    have e : vS ⟨0, 0, true⟩ = ⟨#[45]⟩ ++ ⟨#[10]⟩ := two_app _ _
    rw [e] at h ⊢
    rw [if_pos (Txt.seesB_iff.mpr ⟨rfl, h.left.one⟩)]
    show ((⟨0, 0, true⟩ : Txt.Val), take t ⟨p + 1, false⟩ 10) = _
    rw [show take t ⟨p + 1, false⟩ 10 = ⟨p + 1 + 1, false⟩ from takeF (c := 10) h.right.one]
    rfl
theorem hdF {t : ByteArray} {a b : Int} (a0 : 0 ≤ a) (a1 : a ≤ 999999999) (b0 : 0 ≤ b) (b1 : b ≤ 999999999) (h : At t 0 (⟨#[72]⟩ ++ fS a ++ fS b ++ ⟨#[10]⟩)) : hd t ⟨0, false⟩ = (a, b, ⟨(⟨#[72]⟩ ++ fS a ++ fS b ++ ⟨#[10]⟩ : ByteArray).size, false⟩) := by
  have h1 := h.left.left.left.one
  have h2 := h.left.left.right
  have h3 := h.left.right
  have h4 := h.right.one
  rw [app_size, app_size] at h4
  rw [app_size] at h3
  have t1 : take t ⟨0, false⟩ 72 = ⟨0 + 1, false⟩ := takeF (c := 72) h1
  have f1 : field t 9 ⟨0 + 1, false⟩ = (a, ⟨0 + 1 + (fS a).size, false⟩) := fieldF a0 a1 h2 (by
    have q := h3.left.one
    rw [show 0 + 1 + (fS a).size = 0 + ((⟨#[72]⟩ : ByteArray).size + (fS a).size) from Nat.add_assoc _ _ _, q]; rfl)
  have f2 : field t 9 ⟨0 + 1 + (fS a).size, false⟩ = (b, ⟨0 + 1 + (fS a).size + (fS b).size, false⟩) := fieldF b0 b1 (by rw [Nat.add_assoc]; exact h3) (by
    rw [show 0 + 1 + (fS a).size + (fS b).size = 0 + ((⟨#[72]⟩ : ByteArray).size + (fS a).size + (fS b).size) from by rw [Nat.add_assoc, Nat.add_assoc, Nat.add_assoc]; rfl, h4]; rfl)
  have t2 : take t ⟨0 + 1 + (fS a).size + (fS b).size, false⟩ 10 = ⟨0 + 1 + (fS a).size + (fS b).size + 1, false⟩ := takeF (by
    rw [show 0 + 1 + (fS a).size + (fS b).size = 0 + ((⟨#[72]⟩ : ByteArray).size + (fS a).size + (fS b).size) from by rw [Nat.add_assoc, Nat.add_assoc, Nat.add_assoc]; rfl, h4]; rfl)
  unfold hd
  rw [t1, f1]
  dsimp only
  rw [f2]
  dsimp only
  rw [t2, app_size, app_size, app_size]
  have e : 0 + 1 + (fS a).size + (fS b).size + 1 = (⟨#[72]⟩ : ByteArray).size + (fS a).size + (fS b).size + (⟨#[10]⟩ : ByteArray).size := by
    show _ = 1 + _ + _ + 1; omega
  rw [e]
theorem mK_pre {t : ByteArray} {step start : Int} {l : List Txt.Val} {n : Nat} (h : At t 0 (mK step start l n)) : ∀ k, k ≤ n → At t 0 (mK step start l (n - k))
  | 0, _ => h
  | k + 1, hk => by
    have ih := mK_pre h k (by omega)
    obtain ⟨m, hm⟩ : ∃ m, n - k = m + 1 := ⟨n - k - 1, by omega⟩
    have e : n - (k + 1) = m := by omega
    rw [hm] at ih
    rw [e]
    exact At.left (b := vS (Fil.vAt l m)) ih
/-- the bounds of a meter file's head -/
theorem meter_bd {step start : Int} {l : List Txt.Val} (h : meterB step start l = true) : (0 ≤ step ∧ step ≤ 999999999) ∧ (0 ≤ start ∧ start ≤ 999999999) := by
  unfold meterB at h
  simp only [Bool.and_eq_true, Bool.or_eq_true, decide_eq_true_eq, inB_iff] at h
  obtain ⟨⟨⟨⟨h1, h2⟩, h3⟩, _⟩, h5⟩ := h
  have hs : step = 15 ∨ step = 30 ∨ step = 60 := by omega
  rcases hs with rfl | rfl | rfl <;> omega
theorem fS_len {n : Int} (h0 : 0 ≤ n) (h1 : n ≤ 999999999) : (fS n).size ≤ 10 := by
  obtain ⟨k, rfl⟩ : ∃ k : Nat, n = k := ⟨n.toNat, by omega⟩
  have := dS_len 8 k (by omega)
  unfold fS; rw [app_size]; show 1 + _ ≤ _; omega
theorem mK_len {step start : Int} {l : List Txt.Val} (h : meterB step start l = true) : ∀ k, k ≤ l.length → (mK step start l k).size ≤ 22 + 20 * k
  | 0, _ => by
    obtain ⟨⟨a0, a1⟩, b0, b1⟩ := meter_bd h
    have := fS_len a0 a1; have := fS_len b0 b1
    show (⟨#[72]⟩ ++ fS step ++ fS start ++ ⟨#[10]⟩ : ByteArray).size ≤ _
    rw [app_size, app_size, app_size]; show 1 + _ + _ + 1 ≤ _; omega
  | k + 1, hk => by
    have ih := mK_len h k (by omega)
    have hv := List.all_eq_true.mp (meterB_all h).1 _ (List.mem_of_getElem? (Fil.get_ex (l := l) (i := k) (by omega)))
    have := (vS_pos hv).2
    show (mK step start l k ++ vS (Fil.vAt l k)).size ≤ _
    rw [app_size]; omega
theorem mS_len {step start : Int} {l : List Txt.Val} (h : meterB step start l = true) : (mS step start l).size ≤ 8000 := by
  have h1 := mK_len h l.length (Nat.le_refl _)
  have h2 := (meterB_all h).2
  have h3 := sumL_bd l
  have h4 := fS_len (n := (l.length : Int)) (by omega) (by omega)
  have h5 := fS_len (n := sumL l) (by omega) (by omega)
  unfold mS; rw [app_size, app_size, app_size, app_size]; show _ + 1 + _ + _ + 1 ≤ _; omega
theorem reads_to {t : ByteArray} {step start : Int} {l : List Txt.Val} (h : meterB step start l = true) (ht : At t 0 (mK step start l l.length)) : ∀ k, k ≤ l.length → rdS t k = ⟨(mK step start l k).size, false⟩ ∧ rL t k = l.take k
  | 0, _ => by
    obtain ⟨⟨a0, a1⟩, b0, b1⟩ := meter_bd h
    have q := mK_pre ht l.length (Nat.le_refl _)
    rw [Nat.sub_self] at q
    refine ⟨?_, by rw [List.take_zero]; rfl⟩
    show (hd t ⟨0, false⟩).2.2 = _
    rw [hdF a0 a1 b0 b1 q]; rfl
  | k + 1, hk => by
    obtain ⟨ih1, ih2⟩ := reads_to h ht k (by omega)
    have hg := Fil.get_ex (l := l) (i := k) (by omega)
    have hv := List.all_eq_true.mp (meterB_all h).1 _ (List.mem_of_getElem? hg)
    have q := mK_pre ht (l.length - (k + 1)) (by omega)
    rw [show l.length - (l.length - (k + 1)) = k + 1 by omega] at q
    have q2 := At.right (a := mK step start l k) (b := vS (Fil.vAt l k)) q
    rw [Nat.zero_add] at q2
    have s := vstepF hv q2
    refine ⟨?_, ?_⟩
    · show (Txt.vstep t (rdS t k)).2 = _
      rw [ih1, s]
      show _ = (⟨(mK step start l k ++ vS (Fil.vAt l k)).size, false⟩ : Sc)
      rw [app_size]
    · show rL t k ++ [(Txt.vstep t (rdS t k)).1] = _
      rw [ih1, s, ih2, List.take_add_one, hg]; rfl
/-- what is printed of a meter file is read back -/
theorem meter_forth {step start : Int} {l : List Txt.Val} (h : meterB step start l = true) : Ends (mS step start l) l.length ∧ rErr (mS step start l) l.length = 0 ∧ rStep (mS step start l) = step ∧ rStart (mS step start l) = start ∧ rL (mS step start l) l.length = l := by
  have hsz := mS_len h
  obtain ⟨⟨a0, a1⟩, b0, b1⟩ := meter_bd h
  have hall := meterB_all h
  have hsum := sumL_bd l
  obtain ⟨t, ht⟩ : ∃ t, t = mS step start l := ⟨_, rfl⟩
  have hA : At t 0 (mK step start l l.length ++ ⟨#[84]⟩ ++ fS l.length ++ fS (sumL l) ++ ⟨#[10]⟩) := by rw [ht]; exact At.self _
  have hE : t.size = (mK step start l l.length ++ ⟨#[84]⟩ ++ fS l.length ++ fS (sumL l) ++ ⟨#[10]⟩).size := by rw [ht]; rfl
  rw [← ht] at hsz ⊢
  clear ht
  have h84 := hA.left.left.left.right.one
  have hc := hA.left.left.right
  have hs := hA.left.right
  have h10 := hA.right.one
  have hm := hA.left.left.left.left
  rw [Nat.zero_add] at h84 hc hs h10
  rw [app_size, app_size, app_size] at h10
  rw [app_size, app_size] at hs
  rw [app_size] at hc
  rw [app_size, app_size, app_size, app_size] at hE
  have e84 : (⟨#[84]⟩ : ByteArray).size = 1 := rfl
  have e10 : (⟨#[10]⟩ : ByteArray).size = 1 := rfl
  rw [e84] at hc hs h10 hE
  rw [e10] at hE
  have R := reads_to h hm
  obtain ⟨r1, r2⟩ := R l.length (Nat.le_refl _)
  rw [List.take_length] at r2
  have hh : hd t ⟨0, false⟩ = (step, start, ⟨(mK step start l 0).size, false⟩) := by
    have q := mK_pre hm l.length (Nat.le_refl _)
    rw [Nat.sub_self] at q
    exact hdF a0 a1 b0 b1 q
  have e1 : rStep t = step := by unfold rStep; rw [hh]
  have e2 : rStart t = start := by unfold rStart; rw [hh]
  have k1 : take t ⟨(mK step start l l.length).size, false⟩ 84 = ⟨(mK step start l l.length).size + 1, false⟩ := takeF (c := 84) h84
  have k2 : field t 9 ⟨(mK step start l l.length).size + 1, false⟩ = ((l.length : Int), ⟨(mK step start l l.length).size + 1 + (fS l.length).size, false⟩) := fieldF (by omega) (by omega) hc (by
    have q := hs.left.one
    rw [q]; rfl)
  have k3 : field t 9 ⟨(mK step start l l.length).size + 1 + (fS l.length).size, false⟩ = (sumL l, ⟨(mK step start l l.length).size + 1 + (fS l.length).size + (fS (sumL l)).size, false⟩) := fieldF (by omega) (by omega) hs (by rw [h10]; rfl)
  have k4 : take t ⟨(mK step start l l.length).size + 1 + (fS l.length).size + (fS (sumL l)).size, false⟩ 10 = ⟨(mK step start l l.length).size + 1 + (fS l.length).size + (fS (sumL l)).size + 1, false⟩ := takeF (c := 10) h10
  have T : tailS t (rdS t l.length) = ((l.length : Int), sumL l, ⟨(mK step start l l.length).size + 1 + (fS l.length).size + (fS (sumL l)).size + 1, false⟩) := by
    unfold tailS
    rw [r1, k1, k2]
    dsimp only
    rw [k3]
    dsimp only
    rw [k4]
    unfold Txt.fin
    rw [if_neg (by show ¬ (mK step start l l.length).size + 1 + (fS l.length).size + (fS (sumL l)).size + 1 < t.size; omega)]
  refine ⟨⟨fun k hk => ?_, ?_⟩, ?_, e1, e2, r2⟩
  · obtain ⟨q1, _⟩ := R k (by omega)
    have hg := Fil.get_ex (l := l) (i := k) hk
    have hv := List.all_eq_true.mp hall.1 _ (List.mem_of_getElem? hg)
    have z := mK_pre hm (l.length - (k + 1)) (by omega)
    rw [show l.length - (l.length - (k + 1)) = k + 1 by omega] at z
    have z2 := At.right (a := mK step start l k) (b := vS (Fil.vAt l k)) z 0 (by have := (vS_pos hv).1; omega)
    rw [Nat.zero_add, Nat.add_zero] at z2
    have f := vS_first hv
    have q1' : Txt.vS t (hd t ⟨0, false⟩).2.2 k = ⟨(mK step start l k).size, false⟩ := q1
    rw [q1']
    unfold Txt.stopB
    simp only [Bool.false_or, decide_eq_false_iff_not]
    omega
  · have r1' : Txt.vS t (hd t ⟨0, false⟩).2.2 l.length = ⟨(mK step start l l.length).size, false⟩ := r1
    rw [r1']
    unfold Txt.stopB
    simp only [Bool.false_or, decide_eq_true_eq]
    rw [h84]; rfl
  · unfold rErr
    rw [if_neg (by omega), T, e1, e2, r2]
    simp [h]
end Go.Proofs.YtjaffmmocbplaabDoor
