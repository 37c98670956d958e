/-
  The program's texts: a value, a rule, a block (made by tools/genprt.py).
-/
import Derived.Test.YtjaffmmocbplaabDoorKPrtW
import Derived.Test.YtjaffmmocbplaabDoorK04
import Derived.Test.YtjaffmmocbplaabDoorK05
namespace Go.Proofs.YtjaffmmocbplaabDoor
open Go.RowKit Go.Shelf
set_option linter.unusedVariables false
attribute [local go_sem ↓] Go.wp_at_zero Go.wp_at_succ
theorem hideP {p : Prop} (h : p) : Hid p := h
def nB (n : Int) : Prop := 0 ≤ n ∧ n ≤ 9000000000000000
theorem nB.f {n : Int} (h : nB n) : (fS n).size ≤ 22 := fS_size h.1 (by have := h.2; omega)
theorem nB.d {n : Int} (h : nB n) : (dS n).size ≤ 21 := dS_size h.1 (by have := h.2; omega)
theorem nB.ft {n : Int} (h : nB n) (w : World) (ht : TB w) : Calls Tryd.prog 27 #[.int .i64 n] w fun e w' => e = .returned (.string (fS n)) ∧ Below w.heap.size w w' := fieldText_any n h.1 (by have := h.2; omega) w ht
theorem nB.it {n : Int} (h : nB n) (w : World) (ht : TB w) : Calls Tryd.prog 53 #[.int .i64 n] w fun e w' => e = .returned (.string (dS n)) ∧ Below w.heap.size w w' := itoa_any n h.1 (by have := h.2; omega) w ht
def vS (x : Txt.Val) : ByteArray := if x.m then ⟨#[45, 10]⟩ else dS x.i ++ fS x.o ++ ⟨#[10]⟩
def rS (r : Zon.Rul) : ByteArray := fS r.m ++ fS r.w ++ fS r.d ++ fS r.h
def bS (b : Blk) : ByteArray := ⟨#[66]⟩ ++ fS b.x ++ fS b.y ++ fS b.z ++ ⟨#[10]⟩
theorem wp_world2 {P : Program} {c : Code} {Q : Exit → Act → World → Prop} {a : Act} {w0 : World} (h : ∀ w', w' = w0 → Code.wp P c Q a w') : Code.wp P c Q a w0 := h w0 rfl
theorem ret_str {a b : ByteArray} (h : b = a) : Ending.returned (.string a) = .returned (.string b) := by rw [h]

set_option maxRecDepth 1000000 in
set_option maxHeartbeats 2000000 in
theorem ruleText_any (r : Zon.Rul) (w : World) (ht : TB w) (n_0 : nB r.m) (n_1 : nB r.w) (n_2 : nB r.d) (n_3 : nB r.h) :
    Calls Tryd.prog 31 #[.agg #[.int .i64 r.m, .int .i64 r.w, .int .i64 r.d, .int .i64 r.h]] w fun e w' => e = .returned (.string (rS r)) ∧ Below w.heap.size w w' := by
  go_enter Tryd.func31, Tryd.ntmps31
  go_upto_region 1 with fail
  refine wp_world2 (fun W0 hW0 => ?_)
  have R0 : W0.heap[w.heap.size]? = some (.cells #[.int .i64 r.m, .int .i64 r.w, .int .i64 r.d, .int .i64 r.h] 42) := by rw [hW0]; exact heap_alloc_new _ _
  have BB : Below w.heap.size w W0 := by rw [hW0]; exact below_more (Below.refl _ _) _
  have hz : w.heap.size < W0.heap.size := (Array.getElem?_eq_some_iff.1 R0).1
  have BD : Below W0.heap.size W0 W0.drew := Below.drew (Below.refl _ _)
  have TD : TB W0.drew := (ht.below BB).below BD
  clear hW0
  obtain ⟨Z1, hZ1⟩ : ∃ Z, Z = (fS r.m) ++ (fS r.w) := ⟨_, rfl⟩
  have sZ1 : Z1.size ≤ 44 := by have q1 := (show (fS r.m).size ≤ 22 from n_0.f); have q2 := (show (fS r.w).size ≤ 22 from n_1.f); rw [hZ1, app_size]; omega
  have aZ1 : ∀ w, (Op.stringOp .add (fS r.m) (fS r.w)).run Tryd.prog w = .ok (.string Z1) w := by have q1 := (show (fS r.m).size ≤ 22 from n_0.f); have q2 := (show (fS r.w).size ≤ 22 from n_1.f); rw [hZ1]; exact sadd _ _ (by omega)
  have HZ1 := hideP hZ1
  clear hZ1
  obtain ⟨Z2, hZ2⟩ : ∃ Z, Z = Z1 ++ (fS r.d) := ⟨_, rfl⟩
  have sZ2 : Z2.size ≤ 66 := by have q1 := (show Z1.size ≤ 44 from sZ1); have q2 := (show (fS r.d).size ≤ 22 from n_2.f); rw [hZ2, app_size]; omega
  have aZ2 : ∀ w, (Op.stringOp .add Z1 (fS r.d)).run Tryd.prog w = .ok (.string Z2) w := by have q1 := (show Z1.size ≤ 44 from sZ1); have q2 := (show (fS r.d).size ≤ 22 from n_2.f); rw [hZ2]; exact sadd _ _ (by omega)
  have HZ2 := hideP hZ2
  clear hZ2
  obtain ⟨Z3, hZ3⟩ : ∃ Z, Z = Z2 ++ (fS r.h) := ⟨_, rfl⟩
  have sZ3 : Z3.size ≤ 88 := by have q1 := (show Z2.size ≤ 66 from sZ2); have q2 := (show (fS r.h).size ≤ 22 from n_3.f); rw [hZ3, app_size]; omega
  have aZ3 : ∀ w, (Op.stringOp .add Z2 (fS r.h)).run Tryd.prog w = .ok (.string Z3) w := by have q1 := (show Z2.size ≤ 66 from sZ2); have q2 := (show (fS r.h).size ≤ 22 from n_3.f); rw [hZ3]; exact sadd _ _ (by omega)
  have HZ3 := hideP hZ3
  clear hZ3
  refine wp_region_held_drew (S := (fun w' => w'.heap[w.heap.size]? = some (.cells #[.int .i64 r.m, .int .i64 r.w, .int .i64 r.d, .int .i64 r.h] 42 (0, 0)))) (by kernel_rfl) R0 (fun hH0 => ?_)
  refine wpAnyH_take (i := 0) (oi := { dst := some 3, op := Go.Op.fieldAddr 42 (Go.Operand.tmp 1) 0, type := 0, pos := "tariff.go:65", after := #[], guard := none }) (v := .pointer (some ⟨w.heap.size, 0, none⟩)) rfl (by kernel_rfl) (by kernel_rfl) (by kernel_rfl) (fun _ _ _ h => h) (Or.inl ⟨by rfl, ?_⟩) (by assumption) ?_
  · intro w9 hSw
    go_simp
  try simp only [Act.put, List.setIfInBounds_toArray, List.set_cons_zero, List.set_cons_succ]
  refine wpAnyH_take (i := 1) (oi := { dst := some 4, op := Go.Op.load 3 (Go.Operand.tmp 3), type := 3, pos := "tariff.go:65", after := #[{ on := 0, ground := Go.Ground.data }], guard := none }) (v := .int .i64 r.m) rfl (by kernel_rfl) (by kernel_rfl) (by kernel_rfl) (fun _ _ _ h => h) (Or.inl ⟨by rfl, ?_⟩) (by assumption) ?_
  · intro w9 hSw
    have q0 : w9.cell? ⟨w.heap.size, 0, none⟩ = some (.int .i64 r.m) := cell_of_row _ _ _ _ _ _ hSw; go_simp
  try simp only [Act.put, List.setIfInBounds_toArray, List.set_cons_zero, List.set_cons_succ]
  refine wpAnyH_take (i := 3) (oi := { dst := some 6, op := Go.Op.fieldAddr 42 (Go.Operand.tmp 1) 1, type := 0, pos := "tariff.go:65", after := #[], guard := none }) (v := .pointer (some ⟨w.heap.size, 1, none⟩)) rfl (by kernel_rfl) (by kernel_rfl) (by kernel_rfl) (fun _ _ _ h => h) (Or.inl ⟨by rfl, ?_⟩) (by assumption) ?_
  · intro w9 hSw
    go_simp
  try simp only [Act.put, List.setIfInBounds_toArray, List.set_cons_zero, List.set_cons_succ]
  refine wpAnyH_take (i := 4) (oi := { dst := some 7, op := Go.Op.load 3 (Go.Operand.tmp 6), type := 3, pos := "tariff.go:65", after := #[{ on := 3, ground := Go.Ground.data }], guard := none }) (v := .int .i64 r.w) rfl (by kernel_rfl) (by kernel_rfl) (by kernel_rfl) (fun _ _ _ h => h) (Or.inl ⟨by rfl, ?_⟩) (by assumption) ?_
  · intro w9 hSw
    have q1 : w9.cell? ⟨w.heap.size, 1, none⟩ = some (.int .i64 r.w) := cell_of_row _ _ _ _ _ _ hSw; go_simp
  try simp only [Act.put, List.setIfInBounds_toArray, List.set_cons_zero, List.set_cons_succ]
  refine wpAnyH_take (i := 7) (oi := { dst := some 10, op := Go.Op.fieldAddr 42 (Go.Operand.tmp 1) 2, type := 0, pos := "tariff.go:65", after := #[], guard := none }) (v := .pointer (some ⟨w.heap.size, 2, none⟩)) rfl (by kernel_rfl) (by kernel_rfl) (by kernel_rfl) (fun _ _ _ h => h) (Or.inl ⟨by rfl, ?_⟩) (by assumption) ?_
  · intro w9 hSw
    go_simp
  try simp only [Act.put, List.setIfInBounds_toArray, List.set_cons_zero, List.set_cons_succ]
  refine wpAnyH_take (i := 8) (oi := { dst := some 11, op := Go.Op.load 3 (Go.Operand.tmp 10), type := 3, pos := "tariff.go:65", after := #[{ on := 7, ground := Go.Ground.data }], guard := none }) (v := .int .i64 r.d) rfl (by kernel_rfl) (by kernel_rfl) (by kernel_rfl) (fun _ _ _ h => h) (Or.inl ⟨by rfl, ?_⟩) (by assumption) ?_
  · intro w9 hSw
    have q2 : w9.cell? ⟨w.heap.size, 2, none⟩ = some (.int .i64 r.d) := cell_of_row _ _ _ _ _ _ hSw; go_simp
  try simp only [Act.put, List.setIfInBounds_toArray, List.set_cons_zero, List.set_cons_succ]
  refine wpAnyH_take (i := 11) (oi := { dst := some 14, op := Go.Op.fieldAddr 42 (Go.Operand.tmp 1) 3, type := 0, pos := "tariff.go:65", after := #[], guard := none }) (v := .pointer (some ⟨w.heap.size, 3, none⟩)) rfl (by kernel_rfl) (by kernel_rfl) (by kernel_rfl) (fun _ _ _ h => h) (Or.inl ⟨by rfl, ?_⟩) (by assumption) ?_
  · intro w9 hSw
    go_simp
  try simp only [Act.put, List.setIfInBounds_toArray, List.set_cons_zero, List.set_cons_succ]
  refine wpAnyH_take (i := 12) (oi := { dst := some 15, op := Go.Op.load 3 (Go.Operand.tmp 14), type := 3, pos := "tariff.go:65", after := #[{ on := 11, ground := Go.Ground.data }], guard := none }) (v := .int .i64 r.h) rfl (by kernel_rfl) (by kernel_rfl) (by kernel_rfl) (fun _ _ _ h => h) (Or.inl ⟨by rfl, ?_⟩) (by assumption) ?_
  · intro w9 hSw
    have q3 : w9.cell? ⟨w.heap.size, 3, none⟩ = some (.int .i64 r.h) := cell_of_row _ _ _ _ _ _ hSw; go_simp
  try simp only [Act.put, List.setIfInBounds_toArray, List.set_cons_zero, List.set_cons_succ]
  refine wpAnyH_ready (rs := [2]) (by kernel_rfl) (by simp) ?_
  refine AllReadyH.cons (o := { dst := some 5, op := Go.Op.call { callee := Go.Callee.value (Go.Operand.func 27), args := #[Go.Operand.tmp 4], argTypes := #[3] }, type := 9, pos := "tariff.go:65", after := #[{ on := 1, ground := Go.Ground.data }], guard := none }) rfl (fun K hK => ?_) AllReadyH.nil
  go_simp
  refine (n_0.ft _ TD).mono ?_
  rintro e wk1 ⟨rfl, hwk1⟩
  have Bwk1 := below_then BD hwk1
  have Twk1 := TD.below hwk1
  go_wp2_with fail
  refine hK.out _ _ ((Bwk1.block _ hz).trans R0) (fun hHwk1 => ?_)
  clear hK K
  try simp only [Act.put, List.setIfInBounds_toArray, List.set_cons_zero, List.set_cons_succ]
  refine wpAnyH_ready (rs := [5]) (by kernel_rfl) (by simp) ?_
  refine AllReadyH.cons (o := { dst := some 8, op := Go.Op.call { callee := Go.Callee.value (Go.Operand.func 27), args := #[Go.Operand.tmp 7], argTypes := #[3] }, type := 9, pos := "tariff.go:65", after := #[{ on := 4, ground := Go.Ground.data }, { on := 2, ground := Go.Ground.chain }], guard := none }) rfl (fun K hK => ?_) AllReadyH.nil
  go_simp
  refine (n_1.ft _ Twk1).mono ?_
  rintro e wk2 ⟨rfl, hwk2⟩
  have Bwk2 := below_then Bwk1 hwk2
  have Twk2 := Twk1.below hwk2
  go_wp2_with fail
  refine hK.out _ _ ((Bwk2.block _ hz).trans R0) (fun hHwk2 => ?_)
  clear hK K
  try simp only [Act.put, List.setIfInBounds_toArray, List.set_cons_zero, List.set_cons_succ]
  refine wpAnyH_take (i := 6) (oi := { dst := some 9, op := Go.Op.binOp Go.BinOp.add 9 (Go.Operand.tmp 5) (Go.Operand.tmp 8) 9, type := 9, pos := "tariff.go:65", after := #[{ on := 2, ground := Go.Ground.data }, { on := 5, ground := Go.Ground.data }], guard := none }) (v := .string Z1) rfl (by kernel_rfl) (by kernel_rfl) (by kernel_rfl) (fun _ _ _ h => h) (Or.inl ⟨by rfl, ?_⟩) (by assumption) ?_
  · intro w9 hSw
    go_simp
  try simp only [Act.put, List.setIfInBounds_toArray, List.set_cons_zero, List.set_cons_succ]
  refine wpAnyH_ready (rs := [9]) (by kernel_rfl) (by simp) ?_
  refine AllReadyH.cons (o := { dst := some 12, op := Go.Op.call { callee := Go.Callee.value (Go.Operand.func 27), args := #[Go.Operand.tmp 11], argTypes := #[3] }, type := 9, pos := "tariff.go:65", after := #[{ on := 8, ground := Go.Ground.data }, { on := 5, ground := Go.Ground.chain }], guard := none }) rfl (fun K hK => ?_) AllReadyH.nil
  go_simp
  refine (n_2.ft _ Twk2).mono ?_
  rintro e wk3 ⟨rfl, hwk3⟩
  have Bwk3 := below_then Bwk2 hwk3
  have Twk3 := Twk2.below hwk3
  go_wp2_with fail
  refine hK.out _ _ ((Bwk3.block _ hz).trans R0) (fun hHwk3 => ?_)
  clear hK K
  try simp only [Act.put, List.setIfInBounds_toArray, List.set_cons_zero, List.set_cons_succ]
  refine wpAnyH_take (i := 10) (oi := { dst := some 13, op := Go.Op.binOp Go.BinOp.add 9 (Go.Operand.tmp 9) (Go.Operand.tmp 12) 9, type := 9, pos := "tariff.go:65", after := #[{ on := 6, ground := Go.Ground.data }, { on := 9, ground := Go.Ground.data }], guard := none }) (v := .string Z2) rfl (by kernel_rfl) (by kernel_rfl) (by kernel_rfl) (fun _ _ _ h => h) (Or.inl ⟨by rfl, ?_⟩) (by assumption) ?_
  · intro w9 hSw
    go_simp
  try simp only [Act.put, List.setIfInBounds_toArray, List.set_cons_zero, List.set_cons_succ]
  refine wpAnyH_ready (rs := [13]) (by kernel_rfl) (by simp) ?_
  refine AllReadyH.cons (o := { dst := some 16, op := Go.Op.call { callee := Go.Callee.value (Go.Operand.func 27), args := #[Go.Operand.tmp 15], argTypes := #[3] }, type := 9, pos := "tariff.go:65", after := #[{ on := 12, ground := Go.Ground.data }, { on := 9, ground := Go.Ground.chain }], guard := none }) rfl (fun K hK => ?_) AllReadyH.nil
  go_simp
  refine (n_3.ft _ Twk3).mono ?_
  rintro e wk4 ⟨rfl, hwk4⟩
  have Bwk4 := below_then Bwk3 hwk4
  have Twk4 := Twk3.below hwk4
  go_wp2_with fail
  refine hK.out _ _ ((Bwk4.block _ hz).trans R0) (fun hHwk4 => ?_)
  clear hK K
  try simp only [Act.put, List.setIfInBounds_toArray, List.set_cons_zero, List.set_cons_succ]
  refine wpAnyH_take (i := 14) (oi := { dst := some 17, op := Go.Op.binOp Go.BinOp.add 9 (Go.Operand.tmp 13) (Go.Operand.tmp 16) 9, type := 9, pos := "tariff.go:65", after := #[{ on := 10, ground := Go.Ground.data }, { on := 13, ground := Go.Ground.data }], guard := none }) (v := .string Z3) rfl (by kernel_rfl) (by kernel_rfl) (by kernel_rfl) (fun _ _ _ h => h) (Or.inl ⟨by rfl, ?_⟩) (by assumption) ?_
  · intro w9 hSw
    go_simp
  try simp only [Act.put, List.setIfInBounds_toArray, List.set_cons_zero, List.set_cons_succ]
  refine wpAnyH_take (i := 15) (oi := { dst := some 2, op := Go.Op.assign (Go.Operand.tmp 17), type := 9, pos := "tariff.go:65", after := #[{ on := 14, ground := Go.Ground.data }, { on := 13, ground := Go.Ground.chain }, { on := 0, ground := Go.Ground.phase }, { on := 1, ground := Go.Ground.phase }, { on := 2, ground := Go.Ground.phase }, { on := 3, ground := Go.Ground.phase }, { on := 4, ground := Go.Ground.phase }, { on := 5, ground := Go.Ground.phase }, { on := 6, ground := Go.Ground.phase }, { on := 7, ground := Go.Ground.phase }, { on := 8, ground := Go.Ground.phase }, { on := 9, ground := Go.Ground.phase }, { on := 10, ground := Go.Ground.phase }, { on := 11, ground := Go.Ground.phase }, { on := 12, ground := Go.Ground.phase }, { on := 13, ground := Go.Ground.phase }, { on := 14, ground := Go.Ground.phase }], guard := none }) (v := .string Z3) rfl (by kernel_rfl) (by kernel_rfl) (by kernel_rfl) (fun _ _ _ h => h) (Or.inl ⟨by rfl, ?_⟩) (by assumption) ?_
  · intro w9 hSw
    go_simp
  try simp only [Act.put, List.setIfInBounds_toArray, List.set_cons_zero, List.set_cons_succ]
  refine wpAnyH_done (by kernel_rfl) ?_ _
  go_wp2_with fail
  go_ret
  exact ⟨ret_str (by unfold rS; rw [HZ3.out, HZ2.out, HZ1.out]), below_then BB Bwk4⟩

set_option maxRecDepth 1000000 in
set_option maxHeartbeats 2000000 in
theorem blockText_any (b : Blk) (w : World) (ht : TB w) (n_0 : nB b.x) (n_1 : nB b.y) (n_2 : nB b.z) :
    Calls Tryd.prog 32 #[.agg #[.int .i64 b.x, .int .i64 b.y, .int .i64 b.z]] w fun e w' => e = .returned (.string (bS b)) ∧ Below w.heap.size w w' := by
  go_enter Tryd.func32, Tryd.ntmps32
  go_upto_region 1 with fail
  refine wp_world2 (fun W0 hW0 => ?_)
  have R0 : W0.heap[w.heap.size]? = some (.cells #[.int .i64 b.x, .int .i64 b.y, .int .i64 b.z] 47) := by rw [hW0]; exact heap_alloc_new _ _
  have BB : Below w.heap.size w W0 := by rw [hW0]; exact below_more (Below.refl _ _) _
  have hz : w.heap.size < W0.heap.size := (Array.getElem?_eq_some_iff.1 R0).1
  have BD : Below W0.heap.size W0 W0.drew := Below.drew (Below.refl _ _)
  have TD : TB W0.drew := (ht.below BB).below BD
  clear hW0
  obtain ⟨Z1, hZ1⟩ : ∃ Z, Z = (⟨#[66]⟩ : ByteArray) ++ (fS b.x) := ⟨_, rfl⟩
  have sZ1 : Z1.size ≤ 23 := by have q1 := (show (⟨#[66]⟩ : ByteArray).size ≤ 1 from Nat.le_refl _); have q2 := (show (fS b.x).size ≤ 22 from n_0.f); rw [hZ1, app_size]; omega
  have aZ1 : ∀ w, (Op.stringOp .add (⟨#[66]⟩ : ByteArray) (fS b.x)).run Tryd.prog w = .ok (.string Z1) w := by have q1 := (show (⟨#[66]⟩ : ByteArray).size ≤ 1 from Nat.le_refl _); have q2 := (show (fS b.x).size ≤ 22 from n_0.f); rw [hZ1]; exact sadd _ _ (by omega)
  have HZ1 := hideP hZ1
  clear hZ1
  obtain ⟨Z2, hZ2⟩ : ∃ Z, Z = Z1 ++ (fS b.y) := ⟨_, rfl⟩
  have sZ2 : Z2.size ≤ 45 := by have q1 := (show Z1.size ≤ 23 from sZ1); have q2 := (show (fS b.y).size ≤ 22 from n_1.f); rw [hZ2, app_size]; omega
  have aZ2 : ∀ w, (Op.stringOp .add Z1 (fS b.y)).run Tryd.prog w = .ok (.string Z2) w := by have q1 := (show Z1.size ≤ 23 from sZ1); have q2 := (show (fS b.y).size ≤ 22 from n_1.f); rw [hZ2]; exact sadd _ _ (by omega)
  have HZ2 := hideP hZ2
  clear hZ2
  obtain ⟨Z3, hZ3⟩ : ∃ Z, Z = Z2 ++ (fS b.z) := ⟨_, rfl⟩
  have sZ3 : Z3.size ≤ 67 := by have q1 := (show Z2.size ≤ 45 from sZ2); have q2 := (show (fS b.z).size ≤ 22 from n_2.f); rw [hZ3, app_size]; omega
  have aZ3 : ∀ w, (Op.stringOp .add Z2 (fS b.z)).run Tryd.prog w = .ok (.string Z3) w := by have q1 := (show Z2.size ≤ 45 from sZ2); have q2 := (show (fS b.z).size ≤ 22 from n_2.f); rw [hZ3]; exact sadd _ _ (by omega)
  have HZ3 := hideP hZ3
  clear hZ3
  obtain ⟨Z4, hZ4⟩ : ∃ Z, Z = Z3 ++ (⟨#[10]⟩ : ByteArray) := ⟨_, rfl⟩
  have sZ4 : Z4.size ≤ 68 := by have q1 := (show Z3.size ≤ 67 from sZ3); have q2 := (show (⟨#[10]⟩ : ByteArray).size ≤ 1 from Nat.le_refl _); rw [hZ4, app_size]; omega
  have aZ4 : ∀ w, (Op.stringOp .add Z3 (⟨#[10]⟩ : ByteArray)).run Tryd.prog w = .ok (.string Z4) w := by have q1 := (show Z3.size ≤ 67 from sZ3); have q2 := (show (⟨#[10]⟩ : ByteArray).size ≤ 1 from Nat.le_refl _); rw [hZ4]; exact sadd _ _ (by omega)
  have HZ4 := hideP hZ4
  clear hZ4
  refine wp_region_held_drew (S := (fun w' => w'.heap[w.heap.size]? = some (.cells #[.int .i64 b.x, .int .i64 b.y, .int .i64 b.z] 47 (0, 0)))) (by kernel_rfl) R0 (fun hH0 => ?_)
  refine wpAnyH_take (i := 0) (oi := { dst := some 3, op := Go.Op.fieldAddr 47 (Go.Operand.tmp 1) 0, type := 0, pos := "tariff.go:69", after := #[], guard := none }) (v := .pointer (some ⟨w.heap.size, 0, none⟩)) rfl (by kernel_rfl) (by kernel_rfl) (by kernel_rfl) (fun _ _ _ h => h) (Or.inl ⟨by rfl, ?_⟩) (by assumption) ?_
  · intro w9 hSw
    go_simp
  try simp only [Act.put, List.setIfInBounds_toArray, List.set_cons_zero, List.set_cons_succ]
  refine wpAnyH_take (i := 1) (oi := { dst := some 4, op := Go.Op.load 3 (Go.Operand.tmp 3), type := 3, pos := "tariff.go:69", after := #[{ on := 0, ground := Go.Ground.data }], guard := none }) (v := .int .i64 b.x) rfl (by kernel_rfl) (by kernel_rfl) (by kernel_rfl) (fun _ _ _ h => h) (Or.inl ⟨by rfl, ?_⟩) (by assumption) ?_
  · intro w9 hSw
    have q0 : w9.cell? ⟨w.heap.size, 0, none⟩ = some (.int .i64 b.x) := cell_of_row _ _ _ _ _ _ hSw; go_simp
  try simp only [Act.put, List.setIfInBounds_toArray, List.set_cons_zero, List.set_cons_succ]
  refine wpAnyH_take (i := 4) (oi := { dst := some 7, op := Go.Op.fieldAddr 47 (Go.Operand.tmp 1) 1, type := 0, pos := "tariff.go:69", after := #[], guard := none }) (v := .pointer (some ⟨w.heap.size, 1, none⟩)) rfl (by kernel_rfl) (by kernel_rfl) (by kernel_rfl) (fun _ _ _ h => h) (Or.inl ⟨by rfl, ?_⟩) (by assumption) ?_
  · intro w9 hSw
    go_simp
  try simp only [Act.put, List.setIfInBounds_toArray, List.set_cons_zero, List.set_cons_succ]
  refine wpAnyH_take (i := 5) (oi := { dst := some 8, op := Go.Op.load 3 (Go.Operand.tmp 7), type := 3, pos := "tariff.go:69", after := #[{ on := 4, ground := Go.Ground.data }], guard := none }) (v := .int .i64 b.y) rfl (by kernel_rfl) (by kernel_rfl) (by kernel_rfl) (fun _ _ _ h => h) (Or.inl ⟨by rfl, ?_⟩) (by assumption) ?_
  · intro w9 hSw
    have q1 : w9.cell? ⟨w.heap.size, 1, none⟩ = some (.int .i64 b.y) := cell_of_row _ _ _ _ _ _ hSw; go_simp
  try simp only [Act.put, List.setIfInBounds_toArray, List.set_cons_zero, List.set_cons_succ]
  refine wpAnyH_take (i := 8) (oi := { dst := some 11, op := Go.Op.fieldAddr 47 (Go.Operand.tmp 1) 2, type := 0, pos := "tariff.go:69", after := #[], guard := none }) (v := .pointer (some ⟨w.heap.size, 2, none⟩)) rfl (by kernel_rfl) (by kernel_rfl) (by kernel_rfl) (fun _ _ _ h => h) (Or.inl ⟨by rfl, ?_⟩) (by assumption) ?_
  · intro w9 hSw
    go_simp
  try simp only [Act.put, List.setIfInBounds_toArray, List.set_cons_zero, List.set_cons_succ]
  refine wpAnyH_take (i := 9) (oi := { dst := some 12, op := Go.Op.load 3 (Go.Operand.tmp 11), type := 3, pos := "tariff.go:69", after := #[{ on := 8, ground := Go.Ground.data }], guard := none }) (v := .int .i64 b.z) rfl (by kernel_rfl) (by kernel_rfl) (by kernel_rfl) (fun _ _ _ h => h) (Or.inl ⟨by rfl, ?_⟩) (by assumption) ?_
  · intro w9 hSw
    have q2 : w9.cell? ⟨w.heap.size, 2, none⟩ = some (.int .i64 b.z) := cell_of_row _ _ _ _ _ _ hSw; go_simp
  try simp only [Act.put, List.setIfInBounds_toArray, List.set_cons_zero, List.set_cons_succ]
  refine wpAnyH_ready (rs := [2]) (by kernel_rfl) (by simp) ?_
  refine AllReadyH.cons (o := { dst := some 5, op := Go.Op.call { callee := Go.Callee.value (Go.Operand.func 27), args := #[Go.Operand.tmp 4], argTypes := #[3] }, type := 9, pos := "tariff.go:69", after := #[{ on := 1, ground := Go.Ground.data }], guard := none }) rfl (fun K hK => ?_) AllReadyH.nil
  go_simp
  refine (n_0.ft _ TD).mono ?_
  rintro e wk1 ⟨rfl, hwk1⟩
  have Bwk1 := below_then BD hwk1
  have Twk1 := TD.below hwk1
  go_wp2_with fail
  refine hK.out _ _ ((Bwk1.block _ hz).trans R0) (fun hHwk1 => ?_)
  clear hK K
  try simp only [Act.put, List.setIfInBounds_toArray, List.set_cons_zero, List.set_cons_succ]
  refine wpAnyH_take (i := 3) (oi := { dst := some 6, op := Go.Op.binOp Go.BinOp.add 9 (Go.Operand.const (Go.Value.string { data := #[66] })) (Go.Operand.tmp 5) 9, type := 9, pos := "tariff.go:69", after := #[{ on := 2, ground := Go.Ground.data }], guard := none }) (v := .string Z1) rfl (by kernel_rfl) (by kernel_rfl) (by kernel_rfl) (fun _ _ _ h => h) (Or.inl ⟨by rfl, ?_⟩) (by assumption) ?_
  · intro w9 hSw
    go_simp
  try simp only [Act.put, List.setIfInBounds_toArray, List.set_cons_zero, List.set_cons_succ]
  refine wpAnyH_ready (rs := [6]) (by kernel_rfl) (by simp) ?_
  refine AllReadyH.cons (o := { dst := some 9, op := Go.Op.call { callee := Go.Callee.value (Go.Operand.func 27), args := #[Go.Operand.tmp 8], argTypes := #[3] }, type := 9, pos := "tariff.go:69", after := #[{ on := 5, ground := Go.Ground.data }, { on := 2, ground := Go.Ground.chain }], guard := none }) rfl (fun K hK => ?_) AllReadyH.nil
  go_simp
  refine (n_1.ft _ Twk1).mono ?_
  rintro e wk2 ⟨rfl, hwk2⟩
  have Bwk2 := below_then Bwk1 hwk2
  have Twk2 := Twk1.below hwk2
  go_wp2_with fail
  refine hK.out _ _ ((Bwk2.block _ hz).trans R0) (fun hHwk2 => ?_)
  clear hK K
  try simp only [Act.put, List.setIfInBounds_toArray, List.set_cons_zero, List.set_cons_succ]
  refine wpAnyH_take (i := 7) (oi := { dst := some 10, op := Go.Op.binOp Go.BinOp.add 9 (Go.Operand.tmp 6) (Go.Operand.tmp 9) 9, type := 9, pos := "tariff.go:69", after := #[{ on := 3, ground := Go.Ground.data }, { on := 6, ground := Go.Ground.data }], guard := none }) (v := .string Z2) rfl (by kernel_rfl) (by kernel_rfl) (by kernel_rfl) (fun _ _ _ h => h) (Or.inl ⟨by rfl, ?_⟩) (by assumption) ?_
  · intro w9 hSw
    go_simp
  try simp only [Act.put, List.setIfInBounds_toArray, List.set_cons_zero, List.set_cons_succ]
  refine wpAnyH_ready (rs := [10]) (by kernel_rfl) (by simp) ?_
  refine AllReadyH.cons (o := { dst := some 13, op := Go.Op.call { callee := Go.Callee.value (Go.Operand.func 27), args := #[Go.Operand.tmp 12], argTypes := #[3] }, type := 9, pos := "tariff.go:69", after := #[{ on := 9, ground := Go.Ground.data }, { on := 6, ground := Go.Ground.chain }], guard := none }) rfl (fun K hK => ?_) AllReadyH.nil
  go_simp
  refine (n_2.ft _ Twk2).mono ?_
  rintro e wk3 ⟨rfl, hwk3⟩
  have Bwk3 := below_then Bwk2 hwk3
  have Twk3 := Twk2.below hwk3
  go_wp2_with fail
  refine hK.out _ _ ((Bwk3.block _ hz).trans R0) (fun hHwk3 => ?_)
  clear hK K
  try simp only [Act.put, List.setIfInBounds_toArray, List.set_cons_zero, List.set_cons_succ]
  refine wpAnyH_take (i := 11) (oi := { dst := some 14, op := Go.Op.binOp Go.BinOp.add 9 (Go.Operand.tmp 10) (Go.Operand.tmp 13) 9, type := 9, pos := "tariff.go:69", after := #[{ on := 7, ground := Go.Ground.data }, { on := 10, ground := Go.Ground.data }], guard := none }) (v := .string Z3) rfl (by kernel_rfl) (by kernel_rfl) (by kernel_rfl) (fun _ _ _ h => h) (Or.inl ⟨by rfl, ?_⟩) (by assumption) ?_
  · intro w9 hSw
    go_simp
  try simp only [Act.put, List.setIfInBounds_toArray, List.set_cons_zero, List.set_cons_succ]
  refine wpAnyH_take (i := 12) (oi := { dst := some 15, op := Go.Op.binOp Go.BinOp.add 9 (Go.Operand.tmp 14) (Go.Operand.const (Go.Value.string { data := #[10] })) 9, type := 9, pos := "tariff.go:69", after := #[{ on := 11, ground := Go.Ground.data }], guard := none }) (v := .string Z4) rfl (by kernel_rfl) (by kernel_rfl) (by kernel_rfl) (fun _ _ _ h => h) (Or.inl ⟨by rfl, ?_⟩) (by assumption) ?_
  · intro w9 hSw
    go_simp
  try simp only [Act.put, List.setIfInBounds_toArray, List.set_cons_zero, List.set_cons_succ]
  refine wpAnyH_take (i := 13) (oi := { dst := some 2, op := Go.Op.assign (Go.Operand.tmp 15), type := 9, pos := "tariff.go:69", after := #[{ on := 12, ground := Go.Ground.data }, { on := 10, ground := Go.Ground.chain }, { on := 0, ground := Go.Ground.phase }, { on := 1, ground := Go.Ground.phase }, { on := 2, ground := Go.Ground.phase }, { on := 3, ground := Go.Ground.phase }, { on := 4, ground := Go.Ground.phase }, { on := 5, ground := Go.Ground.phase }, { on := 6, ground := Go.Ground.phase }, { on := 7, ground := Go.Ground.phase }, { on := 8, ground := Go.Ground.phase }, { on := 9, ground := Go.Ground.phase }, { on := 10, ground := Go.Ground.phase }, { on := 11, ground := Go.Ground.phase }, { on := 12, ground := Go.Ground.phase }], guard := none }) (v := .string Z4) rfl (by kernel_rfl) (by kernel_rfl) (by kernel_rfl) (fun _ _ _ h => h) (Or.inl ⟨by rfl, ?_⟩) (by assumption) ?_
  · intro w9 hSw
    go_simp
  try simp only [Act.put, List.setIfInBounds_toArray, List.set_cons_zero, List.set_cons_succ]
  refine wpAnyH_done (by kernel_rfl) ?_ _
  go_wp2_with fail
  go_ret
  exact ⟨ret_str (by unfold bS; rw [HZ4.out, HZ3.out, HZ2.out, HZ1.out]), below_then BB Bwk3⟩

theorem vS_size {x : Txt.Val} (n_0 : nB x.i) (n_1 : nB x.o) : (vS x).size ≤ 44 := by
  unfold vS
  split
  · show 2 ≤ 44; omega
  · have := n_0.d; have := n_1.f
    rw [app_size, app_size]; show _ + 1 ≤ 44; omega
set_option maxRecDepth 1000000 in
set_option maxHeartbeats 2000000 in
theorem valueText_any (x : Txt.Val) (w : World) (ht : TB w) (n_0 : nB x.i) (n_1 : nB x.o) :
    Calls Tryd.prog 28 #[.agg #[.int .i64 x.i, .int .i64 x.o, .bool x.m]] w fun e w' => e = .returned (.string (vS x)) ∧ Below w.heap.size w w' := by
  cases hm : x.m
  case true =>
    go_enter Tryd.func28, Tryd.ntmps28
    go_wp2_with fail
    go_ret
    exact ⟨ret_str (by unfold vS; rw [if_pos hm]), below_more (Below.refl _ _) _⟩
  case false =>
    go_enter Tryd.func28, Tryd.ntmps28
    go_upto_region 1 with fail
    refine wp_world2 (fun W0 hW0 => ?_)
    have R0 : W0.heap[w.heap.size]? = some (.cells #[.int .i64 x.i, .int .i64 x.o, .bool false] 80) := by rw [hW0]; exact heap_alloc_new _ _
    have BB : Below w.heap.size w W0 := by rw [hW0]; exact below_more (Below.refl _ _) _
    have hz : w.heap.size < W0.heap.size := (Array.getElem?_eq_some_iff.1 R0).1
    have BD : Below W0.heap.size W0 W0.drew := Below.drew (Below.refl _ _)
    have TD : TB W0.drew := (ht.below BB).below BD
    have c2 : W0.cell? ⟨w.heap.size, 2, none⟩ = some (.bool false) := cell_of_row _ _ _ _ _ _ R0
    clear hW0
    go_wp2_with fail
    obtain ⟨Z1, hZ1⟩ : ∃ Z, Z = (dS x.i) ++ (fS x.o) := ⟨_, rfl⟩
    have sZ1 : Z1.size ≤ 43 := by have q1 := (show (dS x.i).size ≤ 21 from n_0.d); have q2 := (show (fS x.o).size ≤ 22 from n_1.f); rw [hZ1, app_size]; omega
    have aZ1 : ∀ w, (Op.stringOp .add (dS x.i) (fS x.o)).run Tryd.prog w = .ok (.string Z1) w := by have q1 := (show (dS x.i).size ≤ 21 from n_0.d); have q2 := (show (fS x.o).size ≤ 22 from n_1.f); rw [hZ1]; exact sadd _ _ (by omega)
    have HZ1 := hideP hZ1
    clear hZ1
    obtain ⟨Z2, hZ2⟩ : ∃ Z, Z = Z1 ++ (⟨#[10]⟩ : ByteArray) := ⟨_, rfl⟩
    have sZ2 : Z2.size ≤ 44 := by have q1 := (show Z1.size ≤ 43 from sZ1); have q2 := (show (⟨#[10]⟩ : ByteArray).size ≤ 1 from Nat.le_refl _); rw [hZ2, app_size]; omega
    have aZ2 : ∀ w, (Op.stringOp .add Z1 (⟨#[10]⟩ : ByteArray)).run Tryd.prog w = .ok (.string Z2) w := by have q1 := (show Z1.size ≤ 43 from sZ1); have q2 := (show (⟨#[10]⟩ : ByteArray).size ≤ 1 from Nat.le_refl _); rw [hZ2]; exact sadd _ _ (by omega)
    have HZ2 := hideP hZ2
    clear hZ2
    refine wp_region_held_drew (S := (fun w' => w'.heap[w.heap.size]? = some (.cells #[.int .i64 x.i, .int .i64 x.o, .bool false] 80 (0, 0)))) (by kernel_rfl) R0 (fun hH0 => ?_)
    refine wpAnyH_take (i := 0) (oi := { dst := some 5, op := Go.Op.fieldAddr 80 (Go.Operand.tmp 1) 0, type := 0, pos := "reads.go:75", after := #[], guard := none }) (v := .pointer (some ⟨w.heap.size, 0, none⟩)) rfl (by kernel_rfl) (by kernel_rfl) (by kernel_rfl) (fun _ _ _ h => h) (Or.inl ⟨by rfl, ?_⟩) (by assumption) ?_
    · intro w9 hSw
      go_simp
    try simp only [Act.put, List.setIfInBounds_toArray, List.set_cons_zero, List.set_cons_succ]
    refine wpAnyH_take (i := 1) (oi := { dst := some 6, op := Go.Op.load 3 (Go.Operand.tmp 5), type := 3, pos := "reads.go:75", after := #[{ on := 0, ground := Go.Ground.data }], guard := none }) (v := .int .i64 x.i) rfl (by kernel_rfl) (by kernel_rfl) (by kernel_rfl) (fun _ _ _ h => h) (Or.inl ⟨by rfl, ?_⟩) (by assumption) ?_
    · intro w9 hSw
      have q0 : w9.cell? ⟨w.heap.size, 0, none⟩ = some (.int .i64 x.i) := cell_of_row _ _ _ _ _ _ hSw; go_simp
    try simp only [Act.put, List.setIfInBounds_toArray, List.set_cons_zero, List.set_cons_succ]
    refine wpAnyH_take (i := 3) (oi := { dst := some 8, op := Go.Op.fieldAddr 80 (Go.Operand.tmp 1) 1, type := 0, pos := "reads.go:75", after := #[], guard := none }) (v := .pointer (some ⟨w.heap.size, 1, none⟩)) rfl (by kernel_rfl) (by kernel_rfl) (by kernel_rfl) (fun _ _ _ h => h) (Or.inl ⟨by rfl, ?_⟩) (by assumption) ?_
    · intro w9 hSw
      go_simp
    try simp only [Act.put, List.setIfInBounds_toArray, List.set_cons_zero, List.set_cons_succ]
    refine wpAnyH_take (i := 4) (oi := { dst := some 9, op := Go.Op.load 3 (Go.Operand.tmp 8), type := 3, pos := "reads.go:75", after := #[{ on := 3, ground := Go.Ground.data }], guard := none }) (v := .int .i64 x.o) rfl (by kernel_rfl) (by kernel_rfl) (by kernel_rfl) (fun _ _ _ h => h) (Or.inl ⟨by rfl, ?_⟩) (by assumption) ?_
    · intro w9 hSw
      have q1 : w9.cell? ⟨w.heap.size, 1, none⟩ = some (.int .i64 x.o) := cell_of_row _ _ _ _ _ _ hSw; go_simp
    try simp only [Act.put, List.setIfInBounds_toArray, List.set_cons_zero, List.set_cons_succ]
    refine wpAnyH_ready (rs := [2]) (by kernel_rfl) (by simp) ?_
    refine AllReadyH.cons (o := { dst := some 7, op := Go.Op.call { callee := Go.Callee.value (Go.Operand.func 53), args := #[Go.Operand.tmp 6], argTypes := #[3] }, type := 9, pos := "reads.go:75", after := #[{ on := 1, ground := Go.Ground.data }], guard := none }) rfl (fun K hK => ?_) AllReadyH.nil
    go_simp
    refine (n_0.it _ TD).mono ?_
    rintro e wk1 ⟨rfl, hwk1⟩
    have Bwk1 := below_then BD hwk1
    have Twk1 := TD.below hwk1
    go_wp2_with fail
    refine hK.out _ _ ((Bwk1.block _ hz).trans R0) (fun hHwk1 => ?_)
    clear hK K
    try simp only [Act.put, List.setIfInBounds_toArray, List.set_cons_zero, List.set_cons_succ]
    refine wpAnyH_ready (rs := [5]) (by kernel_rfl) (by simp) ?_
    refine AllReadyH.cons (o := { dst := some 10, op := Go.Op.call { callee := Go.Callee.value (Go.Operand.func 27), args := #[Go.Operand.tmp 9], argTypes := #[3] }, type := 9, pos := "reads.go:75", after := #[{ on := 4, ground := Go.Ground.data }, { on := 2, ground := Go.Ground.chain }], guard := none }) rfl (fun K hK => ?_) AllReadyH.nil
    go_simp
    refine (n_1.ft _ Twk1).mono ?_
    rintro e wk2 ⟨rfl, hwk2⟩
    have Bwk2 := below_then Bwk1 hwk2
    have Twk2 := Twk1.below hwk2
    go_wp2_with fail
    refine hK.out _ _ ((Bwk2.block _ hz).trans R0) (fun hHwk2 => ?_)
    clear hK K
    try simp only [Act.put, List.setIfInBounds_toArray, List.set_cons_zero, List.set_cons_succ]
    refine wpAnyH_take (i := 6) (oi := { dst := some 11, op := Go.Op.binOp Go.BinOp.add 9 (Go.Operand.tmp 7) (Go.Operand.tmp 10) 9, type := 9, pos := "reads.go:75", after := #[{ on := 2, ground := Go.Ground.data }, { on := 5, ground := Go.Ground.data }], guard := none }) (v := .string Z1) rfl (by kernel_rfl) (by kernel_rfl) (by kernel_rfl) (fun _ _ _ h => h) (Or.inl ⟨by rfl, ?_⟩) (by assumption) ?_
    · intro w9 hSw
      go_simp
    try simp only [Act.put, List.setIfInBounds_toArray, List.set_cons_zero, List.set_cons_succ]
    refine wpAnyH_take (i := 7) (oi := { dst := some 12, op := Go.Op.binOp Go.BinOp.add 9 (Go.Operand.tmp 11) (Go.Operand.const (Go.Value.string { data := #[10] })) 9, type := 9, pos := "reads.go:75", after := #[{ on := 6, ground := Go.Ground.data }], guard := none }) (v := .string Z2) rfl (by kernel_rfl) (by kernel_rfl) (by kernel_rfl) (fun _ _ _ h => h) (Or.inl ⟨by rfl, ?_⟩) (by assumption) ?_
    · intro w9 hSw
      go_simp
    try simp only [Act.put, List.setIfInBounds_toArray, List.set_cons_zero, List.set_cons_succ]
    refine wpAnyH_take (i := 8) (oi := { dst := some 2, op := Go.Op.assign (Go.Operand.tmp 12), type := 9, pos := "reads.go:75", after := #[{ on := 7, ground := Go.Ground.data }, { on := 5, ground := Go.Ground.chain }, { on := 0, ground := Go.Ground.phase }, { on := 1, ground := Go.Ground.phase }, { on := 2, ground := Go.Ground.phase }, { on := 3, ground := Go.Ground.phase }, { on := 4, ground := Go.Ground.phase }, { on := 5, ground := Go.Ground.phase }, { on := 6, ground := Go.Ground.phase }, { on := 7, ground := Go.Ground.phase }], guard := none }) (v := .string Z2) rfl (by kernel_rfl) (by kernel_rfl) (by kernel_rfl) (fun _ _ _ h => h) (Or.inl ⟨by rfl, ?_⟩) (by assumption) ?_
    · intro w9 hSw
      go_simp
    try simp only [Act.put, List.setIfInBounds_toArray, List.set_cons_zero, List.set_cons_succ]
    refine wpAnyH_done (by kernel_rfl) ?_ _
    go_wp2_with fail
    go_ret
    exact ⟨ret_str (by unfold vS; rw [hm, if_neg (by simp), HZ2.out, HZ1.out]), below_then BB Bwk2⟩
end Go.Proofs.YtjaffmmocbplaabDoor
