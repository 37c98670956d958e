/-
  The document's ReadBill (made by tools/genrbr.py).
-/
import Derived.Test.YtjaffmmocbplaabDoorJRbtM
import Derived.Test.YtjaffmmocbplaabDoorJ13
import Derived.Test.YtjaffmmocbplaabDoorJLinW
import Derived.Deep.RegionHeld3
import Derived.Deep.DrawnRows
namespace Go.Proofs.YtjaffmmocbplaabDoor
open Go.RowKit Go.Shelf Bil
set_option linter.unusedVariables false
attribute [local go_sem ↓] Go.wp_at_zero Go.wp_at_succ
namespace rbr
def slen : Value → Nat
  | .slice _ n _ => n
  | _ => 0
theorem rb_bad {t : ByteArray} {n : Nat} (ht : t.size ≤ 80000) (h : (Txt.fin t (rbS t n)).bad = true) : rbErr t n = 2 ∧ rbAt t n = (Txt.fin t (rbS t n)).pos ∧ rbR t n = [] := by
  have e : rbErr t n = 2 := by unfold rbErr; rw [if_neg (by omega), if_pos h]
  refine ⟨e, by unfold rbAt; rw [if_neg (by omega), if_pos h], by unfold rbR; rw [e, if_neg (by omega)]⟩
theorem rb_ok {t : ByteArray} {n : Nat} (ht : t.size ≤ 80000) (h : (Txt.fin t (rbS t n)).bad = false) : rbErr t n = 0 ∧ rbAt t n = 0 ∧ rbR t n = rbL t n := by
  have e : rbErr t n = 0 := by unfold rbErr; rw [if_neg (by omega), if_neg (by simp [h])]
  refine ⟨e, by unfold rbAt; rw [if_neg (by omega), if_neg (by simp [h])], by unfold rbR; rw [e, if_pos rfl]⟩
theorem rb_long {t : ByteArray} {n : Nat} (ht : 80000 < t.size) : rbErr t n = 1 ∧ rbAt t n = 0 ∧ rbR t n = [] := by
  have e : rbErr t n = 1 := by unfold rbErr; rw [if_pos ht]
  refine ⟨e, by unfold rbAt; rw [if_pos ht], by unfold rbR; rw [e, if_neg (by omega)]⟩
theorem rbB_iff {t : ByteArray} {k : Nat} : rbB t k = true ↔ (rbS t k).bad = false ∧ (rbS t k).pos < t.size ∧ k < 200 := by
  unfold rbB; simp [and_assoc]
theorem lW_doc (i : Nat) : ⟨#[80, 32]⟩ ++ dS (i : Int) = lW i := by
  unfold lW fS
  rw [← ByteArray.append_assoc]
  congr 1
theorem fld_get (t : ByteArray) (m : Nat) (s : Txt.Sc) : ∀ n i, i < n → (fldL t m s n)[i]? = some (Txt.field t m (fldS t m s i)).1
  | 0, i, h => by omega
  | n + 1, i, h => by
    show (fldL t m s n ++ [_])[i]? = _
    rcases Nat.lt_or_ge i n with e | e
    · rw [List.getElem?_append_left (by rw [fldL_length]; exact e)]; exact fld_get t m s n i e
    · obtain rfl : i = n := by omega
      rw [List.getElem?_append_right (by rw [fldL_length]; exact Nat.le_refl _), fldL_length, Nat.sub_self]; rfl

set_option maxRecDepth 1000000 in
set_option maxHeartbeats 2000000 in
theorem refReadBill_long (t : ByteArray) (w : World) (ht : 80000 < t.size) (hm : t.size ≤ maxLen) :
    Calls Tryd.prog 9 #[.string t] w fun e w' => e = .returned (.tuple #[.slice none 0 0, .int .i64 1, .int .i64 0]) ∧ Below w.heap.size w w' := by
  unfold maxLen at hm
  have h1 : (80000 : Int) < (t.size : Int) := by omega
  go_enter Tryd.func9, Tryd.ntmps9
  go_wp2_with fail
  exact bodyPost_ret (v := .tuple #[.slice none 0 0, .int .i64 1, .int .i64 0]) (by simp [results, Tryd.results9, go_sem]) rfl ⟨rfl, Below.refl _ _⟩

/-- the document's line of a bill -/
theorem pen_line (t : ByteArray) (s : Txt.Sc) (k : Nat) (C : ByteArray) (hC : C = lW k) (f : Nat → Int) (hf : f = rbV t s k) (sC : C.size ≤ 1000) (b : Nat) (w : World) (h : PenAt w b t s) (hs : s.pos ≤ t.size) (ht : t.size ≤ 100000) :
    Calls Tryd.prog 24 #[.pointer (some ⟨b, 0, none⟩), .string C, .int .i64 15, .int .i64 15] w fun e w' => ∃ g cap, e = .returned (.slice (some ⟨g, 0, none⟩) 15 cap) ∧ w.heap.size ≤ g ∧ g < w'.heap.size ∧ 15 ≤ cap ∧ (∀ j, j < 15 → w'.cell? ⟨g, j, none⟩ = some (.int .i64 (f j))) ∧ w.grownBy w' (some b) ∧ PenAt w' b t (rbE t s k) := by
  refine (line_any t s C 15 15 b w h hs ht sC (by omega) (by omega) (by omega)).mono ?_
  rintro e w' ⟨v, rfl, own, g2, p2⟩
  obtain ⟨g, cap, rfl, hgb, hglt⟩ := own.form (by omega)
  have hcap : 15 ≤ cap := by
    rcases own.2 with ⟨h1, _⟩ | ⟨g', cap', cur, hv, _, _, hc, _⟩
    · cases h1
    · cases hv; exact hc
  subst hC hf
  refine ⟨g, cap, rfl, hgb, hglt, hcap, fun j hj => ?_, g2, p2⟩
  rw [own.cellAt j (by omega)]
  unfold ints; rw [List.getElem?_map, fld_get t 15 _ 15 j hj]; rfl

set_option maxRecDepth 1000000 in
set_option maxHeartbeats 4000000 in
theorem refReadBill_short (t : ByteArray) (n : Nat) (hn : EndsB t n) (w : World) (ht : t.size ≤ 80000) :
    Calls Tryd.prog 9 #[.string t] w fun e w' => ∃ v, e = .returned (.tuple #[v, .int .i64 (rbErr t n), .int .i64 (rbAt t n)]) ∧ w'.ownsRow (w.heap.size + 1) 65 15 v (rbR t n).length (lcs (rbR t n)) ∧ Below w.heap.size w w' := by
  obtain ⟨i0, hi, hz0, hz1, hz2⟩ := info_parts infoRL
  have h1 : ¬ (80000 : Int) < (t.size : Int) := by omega
  have hA : PenAt (w.alloc (.cells #[.string t, .int .i64 0, .int .i64 (-1)] 74)) w.heap.size t (rbS t 0) := ⟨by simp, by simp [go_sem], by simp [go_sem]; rfl, by simp [go_sem]; rfl, by simp [go_sem], by simp [go_sem]⟩
  have BA : Below w.heap.size w (w.alloc (.cells #[.string t, .int .i64 0, .int .i64 (-1)] 74)) := below_more (Below.refl _ _) _
  have hn200 := hn.le
  have pl := fun k C hC f hf sC W (h : PenAt W w.heap.size t (rbS t k)) => pen_line t (rbS t k) k C hC f hf sC w.heap.size W h (rbS_le t k) (by omega)
  have en := fun W (h : PenAt W w.heap.size t (rbS t n)) => done_any t (rbS t n) w.heap.size W h (rbS_le t n) (by omega)
  have HN : Hid (EndsB t n) := hn
  have HBAD : Hid ((Txt.fin t (rbS t n)).bad = true → rbErr t n = 2 ∧ rbAt t n = (Txt.fin t (rbS t n)).pos ∧ rbR t n = []) := fun h => rb_bad (t := t) (n := n) ht h
  have HOK : Hid ((Txt.fin t (rbS t n)).bad = false → rbErr t n = 0 ∧ rbAt t n = 0 ∧ rbR t n = rbL t n) := fun h => rb_ok (t := t) (n := n) ht h
  have HLEN : Hid (∀ k, (rbL t k).length = k) := rbL_len t
  clear hn
  go_enter Tryd.func9, Tryd.ntmps9
  go_wp2_with fail
  go_loopw [6] (fun v wr => ∃ k : Nat, k ≤ n ∧ wr.ownsRow (w.heap.size + 1) 65 15 v k (lcs (rbL t k)) ∧ PenAt wr w.heap.size t (rbS t k) ∧ Below w.heap.size w wr) (fun v _ => n - slen v)
  case atStart => exact ⟨0, by omega, World.ownsRow_nil _ _ _ _, hA, BA⟩
  case round =>
    clear hA BA
    obtain ⟨k, hk, hown, hsc, hb⟩ := hrel
    obtain ⟨a0, cap0, rfl⟩ := own_slice hown
    have hsz := hb.size
    have hbs := hsc.lt
    by_cases hlt : k < n
    · obtain ⟨q1, q2, q3⟩ := rbB_iff.mp (HN.out.go k hlt)
      have k1 := hsc.c1
      have k2 := hsc.c2
      have nk : nB (k : Int) := by unfold nB; omega
      have dc := nk.dec
      have sd := nk.d
      obtain ⟨C, hC⟩ : ∃ C, C = (⟨#[80, 32]⟩ : ByteArray) ++ dS (k : Int) := ⟨_, rfl⟩
      have sC : C.size ≤ 23 := by rw [hC, app_size]; show 2 + _ ≤ _; omega
      have aC : ∀ w, (Op.stringOp .add ⟨#[80, 32]⟩ (dS (k : Int))).run Tryd.prog w = .ok (.string C) w := by rw [hC]; exact sadd _ _ (by show 2 + _ ≤ _; omega)
      have HS : Hid (rbS t (k + 1) = rbE t (rbS t k) k) := rfl
      have HL : Hid (rbL t (k + 1) = rbL t k ++ [lnF (rbV t (rbS t k) k)]) := rfl
      obtain ⟨f, hf⟩ : ∃ f, f = rbV t (rbS t k) k := ⟨_, rfl⟩
      have plk := pl k C (hC.trans (lW_doc k)) f hf (by omega)
      rw [← hf] at HL
      clear hf hC
      obtain ⟨s, hs⟩ : ∃ s, s = rbS t k := ⟨_, rfl⟩
      rw [← hs] at q1 q2 k1 k2 plk hsc HS
      rw [badI_false q1] at k2
      obtain ⟨D, hD⟩ : ∃ D, D = dS (k : Int) := ⟨_, rfl⟩
      rw [← hD] at dc aC
      have q2' : (s.pos : Int) < (t.size : Int) := by omega
      have q3' : (k : Int) < 200 := by omega
      have hoN : ∀ j, (Value.ownBlock (.slice a0 k cap0)) = some j → w.heap.size + 1 ≤ j ∧ j < wr.heap.size := fun j hj => hown.lt j hj
      clear hs hD q1 q2 q3 pl nk sd
      go_upto_region 7 with (first
        | (go_at_call 20; refine (dc _).mono ?_; rintro e w1 ⟨rfl, hb1⟩; have hs1 := hb1.size; have p1 : PenAt w1 w.heap.size t s := hsc.grown (r := none) ⟨hb1.os, hb1.tape, hb1.output, hb1.size, fun k hk _ => hb1.block k hk⟩ (by simp); have own1 := own_below hown hb1; have B1 := below_then hb hb1)
        | (go_at_call 24; refine (plk _ p1).mono ?_; rintro e w2 ⟨g, cap, rfl, hgb, hglt, hcap, hcell, g2, p2⟩; have own2 := own_grown own1 g2 (by omega); have hs2 := g2.size; have B2 := Below.grown B1 g2 B1.size (fun j hj => by cases hj; exact Nat.le_refl _)))
      have HP2 : Hid (PenAt w2 w.heap.size t (rbE t s k)) := p2
      have HB2 : Hid (Below w.heap.size w w2) := B2
      have hcapI : (15 : Int) ≤ (cap : Int) := by omega
      clear p1 p2 own1 hsc B1 B2 hb hb1 g2 k1 k2 aC dc plk
      refine wp_region_held_drew (S := (fun w' => ∀ j, j < 15 → w'.cell? ⟨g, j, none⟩ = some (.int .i64 (f j)))) (by kernel_rfl) hcell (fun hH0 => ?_)
      refine wpAnyH_take (i := 0) (oi := { dst := some 40, op := Go.Op.move (Go.Operand.tmp 6), type := 25, pos := "bill.go:242", after := #[], guard := none }) (v := .slice a0 k cap0) rfl (by kernel_rfl) (by kernel_rfl) (by kernel_rfl) (fun _ _ _ h => h) (Or.inl ⟨by rfl, ?_⟩) (by assumption) ?_
      · intro w9 hSw
        go_simp
      try simp only [Act.put, List.setIfInBounds_toArray, List.set_cons_zero, List.set_cons_succ]
      refine wpAnyH_take (i := 1) (oi := { dst := some 41, op := Go.Op.move (Go.Operand.tmp 7), type := 63, pos := "bill.go:242", after := #[], guard := none }) (v := .slice (some ⟨g, 0, none⟩) 15 cap) rfl (by kernel_rfl) (by kernel_rfl) (by kernel_rfl) (fun _ _ _ h => h) (Or.inl ⟨by rfl, ?_⟩) (by assumption) ?_
      · intro w9 hSw
        go_simp
      try simp only [Act.put, List.setIfInBounds_toArray, List.set_cons_zero, List.set_cons_succ]
      refine wpAnyH_take (i := 2) (oi := { dst := some 42, op := Go.Op.indexAddr 63 (Go.Operand.tmp 41) (Go.Operand.const (Go.Value.int Go.IntKind.i64 0)), type := 0, pos := "bill.go:242", after := #[{ on := 1, ground := Go.Ground.data }], guard := none }) (v := .pointer (some ⟨g, 0, none⟩)) rfl (by kernel_rfl) (by kernel_rfl) (by kernel_rfl) (fun _ _ _ h => h) (Or.inl ⟨by rfl, ?_⟩) (by assumption) ?_
      · intro w9 hSw
        go_simp
      try simp only [Act.put, List.setIfInBounds_toArray, List.set_cons_zero, List.set_cons_succ]
      refine wpAnyH_take (i := 3) (oi := { dst := some 43, op := Go.Op.load 3 (Go.Operand.tmp 42), type := 3, pos := "bill.go:242", after := #[{ on := 2, ground := Go.Ground.data }], guard := none }) (v := .int .i64 (f 0)) rfl (by kernel_rfl) (by kernel_rfl) (by kernel_rfl) (fun _ _ _ h => h) (Or.inl ⟨by rfl, ?_⟩) (by assumption) ?_
      · intro w9 hSw
        have q0 : w9.cell? ⟨g, 0, none⟩ = some (.int .i64 (f 0)) := hSw 0 (by omega); go_simp
      try simp only [Act.put, List.setIfInBounds_toArray, List.set_cons_zero, List.set_cons_succ]
      refine wpAnyH_take (i := 4) (oi := { dst := some 44, op := Go.Op.move (Go.Operand.tmp 7), type := 63, pos := "bill.go:242", after := #[], guard := none }) (v := .slice (some ⟨g, 0, none⟩) 15 cap) rfl (by kernel_rfl) (by kernel_rfl) (by kernel_rfl) (fun _ _ _ h => h) (Or.inl ⟨by rfl, ?_⟩) (by assumption) ?_
      · intro w9 hSw
        go_simp
      try simp only [Act.put, List.setIfInBounds_toArray, List.set_cons_zero, List.set_cons_succ]
      refine wpAnyH_take (i := 5) (oi := { dst := some 45, op := Go.Op.indexAddr 63 (Go.Operand.tmp 44) (Go.Operand.const (Go.Value.int Go.IntKind.i64 1)), type := 0, pos := "bill.go:242", after := #[{ on := 4, ground := Go.Ground.data }], guard := none }) (v := .pointer (some ⟨g, 1, none⟩)) rfl (by kernel_rfl) (by kernel_rfl) (by kernel_rfl) (fun _ _ _ h => h) (Or.inl ⟨by rfl, ?_⟩) (by assumption) ?_
      · intro w9 hSw
        go_simp
      try simp only [Act.put, List.setIfInBounds_toArray, List.set_cons_zero, List.set_cons_succ]
      refine wpAnyH_take (i := 6) (oi := { dst := some 46, op := Go.Op.load 3 (Go.Operand.tmp 45), type := 3, pos := "bill.go:242", after := #[{ on := 5, ground := Go.Ground.data }], guard := none }) (v := .int .i64 (f 1)) rfl (by kernel_rfl) (by kernel_rfl) (by kernel_rfl) (fun _ _ _ h => h) (Or.inl ⟨by rfl, ?_⟩) (by assumption) ?_
      · intro w9 hSw
        have q0 : w9.cell? ⟨g, 1, none⟩ = some (.int .i64 (f 1)) := hSw 1 (by omega); go_simp
      try simp only [Act.put, List.setIfInBounds_toArray, List.set_cons_zero, List.set_cons_succ]
      refine wpAnyH_take (i := 7) (oi := { dst := some 47, op := Go.Op.move (Go.Operand.tmp 7), type := 63, pos := "bill.go:242", after := #[], guard := none }) (v := .slice (some ⟨g, 0, none⟩) 15 cap) rfl (by kernel_rfl) (by kernel_rfl) (by kernel_rfl) (fun _ _ _ h => h) (Or.inl ⟨by rfl, ?_⟩) (by assumption) ?_
      · intro w9 hSw
        go_simp
      try simp only [Act.put, List.setIfInBounds_toArray, List.set_cons_zero, List.set_cons_succ]
      refine wpAnyH_take (i := 8) (oi := { dst := some 48, op := Go.Op.indexAddr 63 (Go.Operand.tmp 47) (Go.Operand.const (Go.Value.int Go.IntKind.i64 2)), type := 0, pos := "bill.go:242", after := #[{ on := 7, ground := Go.Ground.data }], guard := none }) (v := .pointer (some ⟨g, 2, none⟩)) rfl (by kernel_rfl) (by kernel_rfl) (by kernel_rfl) (fun _ _ _ h => h) (Or.inl ⟨by rfl, ?_⟩) (by assumption) ?_
      · intro w9 hSw
        go_simp
      try simp only [Act.put, List.setIfInBounds_toArray, List.set_cons_zero, List.set_cons_succ]
      refine wpAnyH_take (i := 9) (oi := { dst := some 49, op := Go.Op.load 3 (Go.Operand.tmp 48), type := 3, pos := "bill.go:242", after := #[{ on := 8, ground := Go.Ground.data }], guard := none }) (v := .int .i64 (f 2)) rfl (by kernel_rfl) (by kernel_rfl) (by kernel_rfl) (fun _ _ _ h => h) (Or.inl ⟨by rfl, ?_⟩) (by assumption) ?_
      · intro w9 hSw
        have q0 : w9.cell? ⟨g, 2, none⟩ = some (.int .i64 (f 2)) := hSw 2 (by omega); go_simp
      try simp only [Act.put, List.setIfInBounds_toArray, List.set_cons_zero, List.set_cons_succ]
      refine wpAnyH_take (i := 10) (oi := { dst := some 50, op := Go.Op.build 30 #[(0, Go.Operand.tmp 43), (1, Go.Operand.tmp 46), (2, Go.Operand.tmp 49)], type := 30, pos := "bill.go:242", after := #[{ on := 3, ground := Go.Ground.data }, { on := 6, ground := Go.Ground.data }, { on := 9, ground := Go.Ground.data }], guard := none }) (v := .agg #[.int .i64 (f 0), .int .i64 (f 1), .int .i64 (f 2)]) rfl (by kernel_rfl) (by kernel_rfl) (by kernel_rfl) (fun _ _ _ h => h) (Or.inl ⟨by rfl, ?_⟩) (by assumption) ?_
      · intro w9 hSw
        go_simp
      try simp only [Act.put, List.setIfInBounds_toArray, List.set_cons_zero, List.set_cons_succ]
      refine wpAnyH_take (i := 11) (oi := { dst := some 51, op := Go.Op.move (Go.Operand.tmp 7), type := 63, pos := "bill.go:242", after := #[], guard := none }) (v := .slice (some ⟨g, 0, none⟩) 15 cap) rfl (by kernel_rfl) (by kernel_rfl) (by kernel_rfl) (fun _ _ _ h => h) (Or.inl ⟨by rfl, ?_⟩) (by assumption) ?_
      · intro w9 hSw
        go_simp
      try simp only [Act.put, List.setIfInBounds_toArray, List.set_cons_zero, List.set_cons_succ]
      refine wpAnyH_take (i := 12) (oi := { dst := some 52, op := Go.Op.indexAddr 63 (Go.Operand.tmp 51) (Go.Operand.const (Go.Value.int Go.IntKind.i64 3)), type := 0, pos := "bill.go:242", after := #[{ on := 11, ground := Go.Ground.data }], guard := none }) (v := .pointer (some ⟨g, 3, none⟩)) rfl (by kernel_rfl) (by kernel_rfl) (by kernel_rfl) (fun _ _ _ h => h) (Or.inl ⟨by rfl, ?_⟩) (by assumption) ?_
      · intro w9 hSw
        go_simp
      try simp only [Act.put, List.setIfInBounds_toArray, List.set_cons_zero, List.set_cons_succ]
      refine wpAnyH_take (i := 13) (oi := { dst := some 53, op := Go.Op.load 3 (Go.Operand.tmp 52), type := 3, pos := "bill.go:242", after := #[{ on := 12, ground := Go.Ground.data }], guard := none }) (v := .int .i64 (f 3)) rfl (by kernel_rfl) (by kernel_rfl) (by kernel_rfl) (fun _ _ _ h => h) (Or.inl ⟨by rfl, ?_⟩) (by assumption) ?_
      · intro w9 hSw
        have q0 : w9.cell? ⟨g, 3, none⟩ = some (.int .i64 (f 3)) := hSw 3 (by omega); go_simp
      try simp only [Act.put, List.setIfInBounds_toArray, List.set_cons_zero, List.set_cons_succ]
      refine wpAnyH_take (i := 14) (oi := { dst := some 54, op := Go.Op.move (Go.Operand.tmp 7), type := 63, pos := "bill.go:242", after := #[], guard := none }) (v := .slice (some ⟨g, 0, none⟩) 15 cap) rfl (by kernel_rfl) (by kernel_rfl) (by kernel_rfl) (fun _ _ _ h => h) (Or.inl ⟨by rfl, ?_⟩) (by assumption) ?_
      · intro w9 hSw
        go_simp
      try simp only [Act.put, List.setIfInBounds_toArray, List.set_cons_zero, List.set_cons_succ]
      refine wpAnyH_take (i := 15) (oi := { dst := some 55, op := Go.Op.indexAddr 63 (Go.Operand.tmp 54) (Go.Operand.const (Go.Value.int Go.IntKind.i64 4)), type := 0, pos := "bill.go:242", after := #[{ on := 14, ground := Go.Ground.data }], guard := none }) (v := .pointer (some ⟨g, 4, none⟩)) rfl (by kernel_rfl) (by kernel_rfl) (by kernel_rfl) (fun _ _ _ h => h) (Or.inl ⟨by rfl, ?_⟩) (by assumption) ?_
      · intro w9 hSw
        go_simp
      try simp only [Act.put, List.setIfInBounds_toArray, List.set_cons_zero, List.set_cons_succ]
      refine wpAnyH_take (i := 16) (oi := { dst := some 56, op := Go.Op.load 3 (Go.Operand.tmp 55), type := 3, pos := "bill.go:242", after := #[{ on := 15, ground := Go.Ground.data }], guard := none }) (v := .int .i64 (f 4)) rfl (by kernel_rfl) (by kernel_rfl) (by kernel_rfl) (fun _ _ _ h => h) (Or.inl ⟨by rfl, ?_⟩) (by assumption) ?_
      · intro w9 hSw
        have q0 : w9.cell? ⟨g, 4, none⟩ = some (.int .i64 (f 4)) := hSw 4 (by omega); go_simp
      try simp only [Act.put, List.setIfInBounds_toArray, List.set_cons_zero, List.set_cons_succ]
      refine wpAnyH_take (i := 17) (oi := { dst := some 57, op := Go.Op.move (Go.Operand.tmp 7), type := 63, pos := "bill.go:242", after := #[], guard := none }) (v := .slice (some ⟨g, 0, none⟩) 15 cap) rfl (by kernel_rfl) (by kernel_rfl) (by kernel_rfl) (fun _ _ _ h => h) (Or.inl ⟨by rfl, ?_⟩) (by assumption) ?_
      · intro w9 hSw
        go_simp
      try simp only [Act.put, List.setIfInBounds_toArray, List.set_cons_zero, List.set_cons_succ]
      refine wpAnyH_take (i := 18) (oi := { dst := some 58, op := Go.Op.indexAddr 63 (Go.Operand.tmp 57) (Go.Operand.const (Go.Value.int Go.IntKind.i64 5)), type := 0, pos := "bill.go:242", after := #[{ on := 17, ground := Go.Ground.data }], guard := none }) (v := .pointer (some ⟨g, 5, none⟩)) rfl (by kernel_rfl) (by kernel_rfl) (by kernel_rfl) (fun _ _ _ h => h) (Or.inl ⟨by rfl, ?_⟩) (by assumption) ?_
      · intro w9 hSw
        go_simp
      try simp only [Act.put, List.setIfInBounds_toArray, List.set_cons_zero, List.set_cons_succ]
      refine wpAnyH_take (i := 19) (oi := { dst := some 59, op := Go.Op.load 3 (Go.Operand.tmp 58), type := 3, pos := "bill.go:242", after := #[{ on := 18, ground := Go.Ground.data }], guard := none }) (v := .int .i64 (f 5)) rfl (by kernel_rfl) (by kernel_rfl) (by kernel_rfl) (fun _ _ _ h => h) (Or.inl ⟨by rfl, ?_⟩) (by assumption) ?_
      · intro w9 hSw
        have q0 : w9.cell? ⟨g, 5, none⟩ = some (.int .i64 (f 5)) := hSw 5 (by omega); go_simp
      try simp only [Act.put, List.setIfInBounds_toArray, List.set_cons_zero, List.set_cons_succ]
      refine wpAnyH_take (i := 20) (oi := { dst := some 60, op := Go.Op.move (Go.Operand.tmp 7), type := 63, pos := "bill.go:242", after := #[], guard := none }) (v := .slice (some ⟨g, 0, none⟩) 15 cap) rfl (by kernel_rfl) (by kernel_rfl) (by kernel_rfl) (fun _ _ _ h => h) (Or.inl ⟨by rfl, ?_⟩) (by assumption) ?_
      · intro w9 hSw
        go_simp
      try simp only [Act.put, List.setIfInBounds_toArray, List.set_cons_zero, List.set_cons_succ]
      refine wpAnyH_take (i := 21) (oi := { dst := some 61, op := Go.Op.indexAddr 63 (Go.Operand.tmp 60) (Go.Operand.const (Go.Value.int Go.IntKind.i64 6)), type := 0, pos := "bill.go:242", after := #[{ on := 20, ground := Go.Ground.data }], guard := none }) (v := .pointer (some ⟨g, 6, none⟩)) rfl (by kernel_rfl) (by kernel_rfl) (by kernel_rfl) (fun _ _ _ h => h) (Or.inl ⟨by rfl, ?_⟩) (by assumption) ?_
      · intro w9 hSw
        go_simp
      try simp only [Act.put, List.setIfInBounds_toArray, List.set_cons_zero, List.set_cons_succ]
      refine wpAnyH_take (i := 22) (oi := { dst := some 62, op := Go.Op.load 3 (Go.Operand.tmp 61), type := 3, pos := "bill.go:242", after := #[{ on := 21, ground := Go.Ground.data }], guard := none }) (v := .int .i64 (f 6)) rfl (by kernel_rfl) (by kernel_rfl) (by kernel_rfl) (fun _ _ _ h => h) (Or.inl ⟨by rfl, ?_⟩) (by assumption) ?_
      · intro w9 hSw
        have q0 : w9.cell? ⟨g, 6, none⟩ = some (.int .i64 (f 6)) := hSw 6 (by omega); go_simp
      try simp only [Act.put, List.setIfInBounds_toArray, List.set_cons_zero, List.set_cons_succ]
      refine wpAnyH_take (i := 23) (oi := { dst := some 63, op := Go.Op.move (Go.Operand.tmp 7), type := 63, pos := "bill.go:242", after := #[], guard := none }) (v := .slice (some ⟨g, 0, none⟩) 15 cap) rfl (by kernel_rfl) (by kernel_rfl) (by kernel_rfl) (fun _ _ _ h => h) (Or.inl ⟨by rfl, ?_⟩) (by assumption) ?_
      · intro w9 hSw
        go_simp
      try simp only [Act.put, List.setIfInBounds_toArray, List.set_cons_zero, List.set_cons_succ]
      refine wpAnyH_take (i := 24) (oi := { dst := some 64, op := Go.Op.indexAddr 63 (Go.Operand.tmp 63) (Go.Operand.const (Go.Value.int Go.IntKind.i64 7)), type := 0, pos := "bill.go:242", after := #[{ on := 23, ground := Go.Ground.data }], guard := none }) (v := .pointer (some ⟨g, 7, none⟩)) rfl (by kernel_rfl) (by kernel_rfl) (by kernel_rfl) (fun _ _ _ h => h) (Or.inl ⟨by rfl, ?_⟩) (by assumption) ?_
      · intro w9 hSw
        go_simp
      try simp only [Act.put, List.setIfInBounds_toArray, List.set_cons_zero, List.set_cons_succ]
      refine wpAnyH_take (i := 25) (oi := { dst := some 65, op := Go.Op.load 3 (Go.Operand.tmp 64), type := 3, pos := "bill.go:242", after := #[{ on := 24, ground := Go.Ground.data }], guard := none }) (v := .int .i64 (f 7)) rfl (by kernel_rfl) (by kernel_rfl) (by kernel_rfl) (fun _ _ _ h => h) (Or.inl ⟨by rfl, ?_⟩) (by assumption) ?_
      · intro w9 hSw
        have q0 : w9.cell? ⟨g, 7, none⟩ = some (.int .i64 (f 7)) := hSw 7 (by omega); go_simp
      try simp only [Act.put, List.setIfInBounds_toArray, List.set_cons_zero, List.set_cons_succ]
      refine wpAnyH_take (i := 26) (oi := { dst := some 66, op := Go.Op.move (Go.Operand.tmp 7), type := 63, pos := "bill.go:242", after := #[], guard := none }) (v := .slice (some ⟨g, 0, none⟩) 15 cap) rfl (by kernel_rfl) (by kernel_rfl) (by kernel_rfl) (fun _ _ _ h => h) (Or.inl ⟨by rfl, ?_⟩) (by assumption) ?_
      · intro w9 hSw
        go_simp
      try simp only [Act.put, List.setIfInBounds_toArray, List.set_cons_zero, List.set_cons_succ]
      refine wpAnyH_take (i := 27) (oi := { dst := some 67, op := Go.Op.indexAddr 63 (Go.Operand.tmp 66) (Go.Operand.const (Go.Value.int Go.IntKind.i64 8)), type := 0, pos := "bill.go:242", after := #[{ on := 26, ground := Go.Ground.data }], guard := none }) (v := .pointer (some ⟨g, 8, none⟩)) rfl (by kernel_rfl) (by kernel_rfl) (by kernel_rfl) (fun _ _ _ h => h) (Or.inl ⟨by rfl, ?_⟩) (by assumption) ?_
      · intro w9 hSw
        go_simp
      try simp only [Act.put, List.setIfInBounds_toArray, List.set_cons_zero, List.set_cons_succ]
      refine wpAnyH_take (i := 28) (oi := { dst := some 68, op := Go.Op.load 3 (Go.Operand.tmp 67), type := 3, pos := "bill.go:242", after := #[{ on := 27, ground := Go.Ground.data }], guard := none }) (v := .int .i64 (f 8)) rfl (by kernel_rfl) (by kernel_rfl) (by kernel_rfl) (fun _ _ _ h => h) (Or.inl ⟨by rfl, ?_⟩) (by assumption) ?_
      · intro w9 hSw
        have q0 : w9.cell? ⟨g, 8, none⟩ = some (.int .i64 (f 8)) := hSw 8 (by omega); go_simp
      try simp only [Act.put, List.setIfInBounds_toArray, List.set_cons_zero, List.set_cons_succ]
      refine wpAnyH_take (i := 29) (oi := { dst := some 69, op := Go.Op.move (Go.Operand.tmp 7), type := 63, pos := "bill.go:242", after := #[], guard := none }) (v := .slice (some ⟨g, 0, none⟩) 15 cap) rfl (by kernel_rfl) (by kernel_rfl) (by kernel_rfl) (fun _ _ _ h => h) (Or.inl ⟨by rfl, ?_⟩) (by assumption) ?_
      · intro w9 hSw
        go_simp
      try simp only [Act.put, List.setIfInBounds_toArray, List.set_cons_zero, List.set_cons_succ]
      refine wpAnyH_take (i := 30) (oi := { dst := some 70, op := Go.Op.indexAddr 63 (Go.Operand.tmp 69) (Go.Operand.const (Go.Value.int Go.IntKind.i64 9)), type := 0, pos := "bill.go:242", after := #[{ on := 29, ground := Go.Ground.data }], guard := none }) (v := .pointer (some ⟨g, 9, none⟩)) rfl (by kernel_rfl) (by kernel_rfl) (by kernel_rfl) (fun _ _ _ h => h) (Or.inl ⟨by rfl, ?_⟩) (by assumption) ?_
      · intro w9 hSw
        go_simp
      try simp only [Act.put, List.setIfInBounds_toArray, List.set_cons_zero, List.set_cons_succ]
      refine wpAnyH_take (i := 31) (oi := { dst := some 71, op := Go.Op.load 3 (Go.Operand.tmp 70), type := 3, pos := "bill.go:242", after := #[{ on := 30, ground := Go.Ground.data }], guard := none }) (v := .int .i64 (f 9)) rfl (by kernel_rfl) (by kernel_rfl) (by kernel_rfl) (fun _ _ _ h => h) (Or.inl ⟨by rfl, ?_⟩) (by assumption) ?_
      · intro w9 hSw
        have q0 : w9.cell? ⟨g, 9, none⟩ = some (.int .i64 (f 9)) := hSw 9 (by omega); go_simp
      try simp only [Act.put, List.setIfInBounds_toArray, List.set_cons_zero, List.set_cons_succ]
      refine wpAnyH_take (i := 32) (oi := { dst := some 72, op := Go.Op.move (Go.Operand.tmp 7), type := 63, pos := "bill.go:242", after := #[], guard := none }) (v := .slice (some ⟨g, 0, none⟩) 15 cap) rfl (by kernel_rfl) (by kernel_rfl) (by kernel_rfl) (fun _ _ _ h => h) (Or.inl ⟨by rfl, ?_⟩) (by assumption) ?_
      · intro w9 hSw
        go_simp
      try simp only [Act.put, List.setIfInBounds_toArray, List.set_cons_zero, List.set_cons_succ]
      refine wpAnyH_take (i := 33) (oi := { dst := some 73, op := Go.Op.indexAddr 63 (Go.Operand.tmp 72) (Go.Operand.const (Go.Value.int Go.IntKind.i64 10)), type := 0, pos := "bill.go:242", after := #[{ on := 32, ground := Go.Ground.data }], guard := none }) (v := .pointer (some ⟨g, 10, none⟩)) rfl (by kernel_rfl) (by kernel_rfl) (by kernel_rfl) (fun _ _ _ h => h) (Or.inl ⟨by rfl, ?_⟩) (by assumption) ?_
      · intro w9 hSw
        go_simp
      try simp only [Act.put, List.setIfInBounds_toArray, List.set_cons_zero, List.set_cons_succ]
      refine wpAnyH_take (i := 34) (oi := { dst := some 74, op := Go.Op.load 3 (Go.Operand.tmp 73), type := 3, pos := "bill.go:242", after := #[{ on := 33, ground := Go.Ground.data }], guard := none }) (v := .int .i64 (f 10)) rfl (by kernel_rfl) (by kernel_rfl) (by kernel_rfl) (fun _ _ _ h => h) (Or.inl ⟨by rfl, ?_⟩) (by assumption) ?_
      · intro w9 hSw
        have q0 : w9.cell? ⟨g, 10, none⟩ = some (.int .i64 (f 10)) := hSw 10 (by omega); go_simp
      try simp only [Act.put, List.setIfInBounds_toArray, List.set_cons_zero, List.set_cons_succ]
      refine wpAnyH_take (i := 35) (oi := { dst := some 75, op := Go.Op.move (Go.Operand.tmp 7), type := 63, pos := "bill.go:242", after := #[], guard := none }) (v := .slice (some ⟨g, 0, none⟩) 15 cap) rfl (by kernel_rfl) (by kernel_rfl) (by kernel_rfl) (fun _ _ _ h => h) (Or.inl ⟨by rfl, ?_⟩) (by assumption) ?_
      · intro w9 hSw
        go_simp
      try simp only [Act.put, List.setIfInBounds_toArray, List.set_cons_zero, List.set_cons_succ]
      refine wpAnyH_take (i := 36) (oi := { dst := some 76, op := Go.Op.indexAddr 63 (Go.Operand.tmp 75) (Go.Operand.const (Go.Value.int Go.IntKind.i64 11)), type := 0, pos := "bill.go:242", after := #[{ on := 35, ground := Go.Ground.data }], guard := none }) (v := .pointer (some ⟨g, 11, none⟩)) rfl (by kernel_rfl) (by kernel_rfl) (by kernel_rfl) (fun _ _ _ h => h) (Or.inl ⟨by rfl, ?_⟩) (by assumption) ?_
      · intro w9 hSw
        go_simp
      try simp only [Act.put, List.setIfInBounds_toArray, List.set_cons_zero, List.set_cons_succ]
      refine wpAnyH_take (i := 37) (oi := { dst := some 77, op := Go.Op.load 3 (Go.Operand.tmp 76), type := 3, pos := "bill.go:242", after := #[{ on := 36, ground := Go.Ground.data }], guard := none }) (v := .int .i64 (f 11)) rfl (by kernel_rfl) (by kernel_rfl) (by kernel_rfl) (fun _ _ _ h => h) (Or.inl ⟨by rfl, ?_⟩) (by assumption) ?_
      · intro w9 hSw
        have q0 : w9.cell? ⟨g, 11, none⟩ = some (.int .i64 (f 11)) := hSw 11 (by omega); go_simp
      try simp only [Act.put, List.setIfInBounds_toArray, List.set_cons_zero, List.set_cons_succ]
      refine wpAnyH_take (i := 38) (oi := { dst := some 78, op := Go.Op.move (Go.Operand.tmp 7), type := 63, pos := "bill.go:242", after := #[], guard := none }) (v := .slice (some ⟨g, 0, none⟩) 15 cap) rfl (by kernel_rfl) (by kernel_rfl) (by kernel_rfl) (fun _ _ _ h => h) (Or.inl ⟨by rfl, ?_⟩) (by assumption) ?_
      · intro w9 hSw
        go_simp
      try simp only [Act.put, List.setIfInBounds_toArray, List.set_cons_zero, List.set_cons_succ]
      refine wpAnyH_take (i := 39) (oi := { dst := some 79, op := Go.Op.indexAddr 63 (Go.Operand.tmp 78) (Go.Operand.const (Go.Value.int Go.IntKind.i64 12)), type := 0, pos := "bill.go:242", after := #[{ on := 38, ground := Go.Ground.data }], guard := none }) (v := .pointer (some ⟨g, 12, none⟩)) rfl (by kernel_rfl) (by kernel_rfl) (by kernel_rfl) (fun _ _ _ h => h) (Or.inl ⟨by rfl, ?_⟩) (by assumption) ?_
      · intro w9 hSw
        go_simp
      try simp only [Act.put, List.setIfInBounds_toArray, List.set_cons_zero, List.set_cons_succ]
      refine wpAnyH_take (i := 40) (oi := { dst := some 80, op := Go.Op.load 3 (Go.Operand.tmp 79), type := 3, pos := "bill.go:242", after := #[{ on := 39, ground := Go.Ground.data }], guard := none }) (v := .int .i64 (f 12)) rfl (by kernel_rfl) (by kernel_rfl) (by kernel_rfl) (fun _ _ _ h => h) (Or.inl ⟨by rfl, ?_⟩) (by assumption) ?_
      · intro w9 hSw
        have q0 : w9.cell? ⟨g, 12, none⟩ = some (.int .i64 (f 12)) := hSw 12 (by omega); go_simp
      try simp only [Act.put, List.setIfInBounds_toArray, List.set_cons_zero, List.set_cons_succ]
      refine wpAnyH_take (i := 41) (oi := { dst := some 81, op := Go.Op.move (Go.Operand.tmp 7), type := 63, pos := "bill.go:242", after := #[], guard := none }) (v := .slice (some ⟨g, 0, none⟩) 15 cap) rfl (by kernel_rfl) (by kernel_rfl) (by kernel_rfl) (fun _ _ _ h => h) (Or.inl ⟨by rfl, ?_⟩) (by assumption) ?_
      · intro w9 hSw
        go_simp
      try simp only [Act.put, List.setIfInBounds_toArray, List.set_cons_zero, List.set_cons_succ]
      refine wpAnyH_take (i := 42) (oi := { dst := some 82, op := Go.Op.indexAddr 63 (Go.Operand.tmp 81) (Go.Operand.const (Go.Value.int Go.IntKind.i64 13)), type := 0, pos := "bill.go:242", after := #[{ on := 41, ground := Go.Ground.data }], guard := none }) (v := .pointer (some ⟨g, 13, none⟩)) rfl (by kernel_rfl) (by kernel_rfl) (by kernel_rfl) (fun _ _ _ h => h) (Or.inl ⟨by rfl, ?_⟩) (by assumption) ?_
      · intro w9 hSw
        go_simp
      try simp only [Act.put, List.setIfInBounds_toArray, List.set_cons_zero, List.set_cons_succ]
      refine wpAnyH_take (i := 43) (oi := { dst := some 83, op := Go.Op.load 3 (Go.Operand.tmp 82), type := 3, pos := "bill.go:242", after := #[{ on := 42, ground := Go.Ground.data }], guard := none }) (v := .int .i64 (f 13)) rfl (by kernel_rfl) (by kernel_rfl) (by kernel_rfl) (fun _ _ _ h => h) (Or.inl ⟨by rfl, ?_⟩) (by assumption) ?_
      · intro w9 hSw
        have q0 : w9.cell? ⟨g, 13, none⟩ = some (.int .i64 (f 13)) := hSw 13 (by omega); go_simp
      try simp only [Act.put, List.setIfInBounds_toArray, List.set_cons_zero, List.set_cons_succ]
      refine wpAnyH_take (i := 44) (oi := { dst := some 84, op := Go.Op.move (Go.Operand.tmp 7), type := 63, pos := "bill.go:242", after := #[], guard := none }) (v := .slice (some ⟨g, 0, none⟩) 15 cap) rfl (by kernel_rfl) (by kernel_rfl) (by kernel_rfl) (fun _ _ _ h => h) (Or.inl ⟨by rfl, ?_⟩) (by assumption) ?_
      · intro w9 hSw
        go_simp
      try simp only [Act.put, List.setIfInBounds_toArray, List.set_cons_zero, List.set_cons_succ]
      refine wpAnyH_take (i := 45) (oi := { dst := some 85, op := Go.Op.indexAddr 63 (Go.Operand.tmp 84) (Go.Operand.const (Go.Value.int Go.IntKind.i64 14)), type := 0, pos := "bill.go:242", after := #[{ on := 44, ground := Go.Ground.data }], guard := none }) (v := .pointer (some ⟨g, 14, none⟩)) rfl (by kernel_rfl) (by kernel_rfl) (by kernel_rfl) (fun _ _ _ h => h) (Or.inl ⟨by rfl, ?_⟩) (by assumption) ?_
      · intro w9 hSw
        go_simp
      try simp only [Act.put, List.setIfInBounds_toArray, List.set_cons_zero, List.set_cons_succ]
      refine wpAnyH_take (i := 46) (oi := { dst := some 86, op := Go.Op.load 3 (Go.Operand.tmp 85), type := 3, pos := "bill.go:242", after := #[{ on := 45, ground := Go.Ground.data }], guard := none }) (v := .int .i64 (f 14)) rfl (by kernel_rfl) (by kernel_rfl) (by kernel_rfl) (fun _ _ _ h => h) (Or.inl ⟨by rfl, ?_⟩) (by assumption) ?_
      · intro w9 hSw
        have q0 : w9.cell? ⟨g, 14, none⟩ = some (.int .i64 (f 14)) := hSw 14 (by omega); go_simp
      try simp only [Act.put, List.setIfInBounds_toArray, List.set_cons_zero, List.set_cons_succ]
      refine wpAnyH_take (i := 47) (oi := { dst := some 87, op := Go.Op.build 65 #[(0, Go.Operand.tmp 50), (1, Go.Operand.tmp 53), (2, Go.Operand.tmp 56), (3, Go.Operand.tmp 59), (4, Go.Operand.tmp 62), (5, Go.Operand.tmp 65), (6, Go.Operand.tmp 68), (7, Go.Operand.tmp 71), (8, Go.Operand.tmp 74), (9, Go.Operand.tmp 77), (10, Go.Operand.tmp 80), (11, Go.Operand.tmp 83), (12, Go.Operand.tmp 86)], type := 65, pos := "bill.go:242", after := #[{ on := 10, ground := Go.Ground.data }, { on := 13, ground := Go.Ground.data }, { on := 16, ground := Go.Ground.data }, { on := 19, ground := Go.Ground.data }, { on := 22, ground := Go.Ground.data }, { on := 25, ground := Go.Ground.data }, { on := 28, ground := Go.Ground.data }, { on := 31, ground := Go.Ground.data }, { on := 34, ground := Go.Ground.data }, { on := 37, ground := Go.Ground.data }, { on := 40, ground := Go.Ground.data }, { on := 43, ground := Go.Ground.data }, { on := 46, ground := Go.Ground.data }], guard := none }) (v := .agg #[.int .i64 (f 0), .int .i64 (f 1), .int .i64 (f 2), .int .i64 (f 3), .int .i64 (f 4), .int .i64 (f 5), .int .i64 (f 6), .int .i64 (f 7), .int .i64 (f 8), .int .i64 (f 9), .int .i64 (f 10), .int .i64 (f 11), .int .i64 (f 12), .int .i64 (f 13), .int .i64 (f 14)]) rfl (by kernel_rfl) (by kernel_rfl) (by kernel_rfl) (fun _ _ _ h => h) (Or.inl ⟨by rfl, ?_⟩) (by assumption) ?_
      · intro w9 hSw
        go_simp
      try simp only [Act.put, List.setIfInBounds_toArray, List.set_cons_zero, List.set_cons_succ]
      refine wpAnyH_ready (rs := [48]) (by kernel_rfl) (by simp) ?_
      refine AllReadyH.cons (o := { dst := some 88, op := Go.Op.buildSlice 25 1 #[(0, Go.Operand.tmp 87)], type := 25, pos := "bill.go:242", after := #[{ on := 47, ground := Go.Ground.data }], guard := none }) rfl (fun K hK => ?_) AllReadyH.nil
      go_simp
      have hcA : ∀ j, j < 15 → (w2.drew.alloc (.cells #[.int .i64 (f 0), .int .i64 (f 1), .int .i64 (f 2), .int .i64 (f 3), .int .i64 (f 4), .int .i64 (f 5), .int .i64 (f 6), .int .i64 (f 7), .int .i64 (f 8), .int .i64 (f 9), .int .i64 (f 10), .int .i64 (f 11), .int .i64 (f 12), .int .i64 (f 13), .int .i64 (f 14)] 65)).cell? ⟨g, j, none⟩ = some (.int .i64 (f j)) := fun j hj => vcell_below (below_more (Below.refl _ _) _) hglt (hcell j hj)
      refine hK.out _ _ hcA (fun hHa => ?_)
      clear hK K
      try simp only [Act.put, List.setIfInBounds_toArray, List.set_cons_zero, List.set_cons_succ]
      refine wpAnyH_ready (rs := [49]) (by kernel_rfl) (by simp) ?_
      refine AllReadyH.cons (o := { dst := some 89, op := Go.Op.call { callee := Go.Callee.builtin Go.Builtin.append, args := #[Go.Operand.tmp 40, Go.Operand.tmp 88], argTypes := #[25, 25] }, type := 25, pos := "bill.go:242", after := #[{ on := 0, ground := Go.Ground.data }, { on := 48, ground := Go.Ground.data }], guard := none }) rfl (fun K hK => ?_) AllReadyH.nil
      refine step_append_lies _ (by rfl) _ _ _ (by rfl) (w.heap.size + 1) 65 i0 _ 15 120 Tryd.underlying25 hi hz0 hz1 hz2 rfl (by omega) _ k _ (by rfl) ((own2.drew).alloc _) ⟨w2.heap.size, 0, none⟩ 1 1 (lcell (lnF f)) (by rfl) (by rfl) (World.news_of_block (cs := #[.int .i64 (f 0), .int .i64 (f 1), .int .i64 (f 2), .int .i64 (f 3), .int .i64 (f 4), .int .i64 (f 5), .int .i64 (f 6), .int .i64 (f 7), .int .i64 (f 8), .int .i64 (f 9), .int .i64 (f 10), .int .i64 (f 11), .int .i64 (f 12), .int .i64 (f 13), .int .i64 (f 14)]) (t := 65) (fr := (0, 0)) (heap_alloc_new w2.drew _)) (by simp [lcell, lnF, Value.oneCell']) (by omega) (by unfold maxLen; omega) (by omega) (by simp; omega) (w2.heap.size + 1) (by simp) ?_
      intro gg cap2 w3 own3 hgrow hat hlt3
      have hcB : ∀ j, j < 15 → w3.cell? ⟨g, j, none⟩ = some (.int .i64 (f j)) := fun j hj => by rw [hgrow.cell_far _ (by simp; omega) (fun e => by have := hoN g e.symm; omega)]; exact hcA j hj
      refine hK.out _ _ hcB (fun hHb => ?_)
      clear hK K
      try simp only [Act.put, List.setIfInBounds_toArray, List.set_cons_zero, List.set_cons_succ]
      refine wpAnyH_take (i := 50) (oi := { dst := some 6, op := Go.Op.assign (Go.Operand.tmp 89), type := 25, pos := "bill.go:242", after := #[{ on := 49, ground := Go.Ground.data }, { on := 49, ground := Go.Ground.chain }, { on := 0, ground := Go.Ground.phase }, { on := 1, ground := Go.Ground.phase }, { on := 2, ground := Go.Ground.phase }, { on := 3, ground := Go.Ground.phase }, { on := 4, ground := Go.Ground.phase }, { on := 5, ground := Go.Ground.phase }, { on := 6, ground := Go.Ground.phase }, { on := 7, ground := Go.Ground.phase }, { on := 8, ground := Go.Ground.phase }, { on := 9, ground := Go.Ground.phase }, { on := 10, ground := Go.Ground.phase }, { on := 11, ground := Go.Ground.phase }, { on := 12, ground := Go.Ground.phase }, { on := 13, ground := Go.Ground.phase }, { on := 14, ground := Go.Ground.phase }, { on := 15, ground := Go.Ground.phase }, { on := 16, ground := Go.Ground.phase }, { on := 17, ground := Go.Ground.phase }, { on := 18, ground := Go.Ground.phase }, { on := 19, ground := Go.Ground.phase }, { on := 20, ground := Go.Ground.phase }, { on := 21, ground := Go.Ground.phase }, { on := 22, ground := Go.Ground.phase }, { on := 23, ground := Go.Ground.phase }, { on := 24, ground := Go.Ground.phase }, { on := 25, ground := Go.Ground.phase }, { on := 26, ground := Go.Ground.phase }, { on := 27, ground := Go.Ground.phase }, { on := 28, ground := Go.Ground.phase }, { on := 29, ground := Go.Ground.phase }, { on := 30, ground := Go.Ground.phase }, { on := 31, ground := Go.Ground.phase }, { on := 32, ground := Go.Ground.phase }, { on := 33, ground := Go.Ground.phase }, { on := 34, ground := Go.Ground.phase }, { on := 35, ground := Go.Ground.phase }, { on := 36, ground := Go.Ground.phase }, { on := 37, ground := Go.Ground.phase }, { on := 38, ground := Go.Ground.phase }, { on := 39, ground := Go.Ground.phase }, { on := 40, ground := Go.Ground.phase }, { on := 41, ground := Go.Ground.phase }, { on := 42, ground := Go.Ground.phase }, { on := 43, ground := Go.Ground.phase }, { on := 44, ground := Go.Ground.phase }, { on := 45, ground := Go.Ground.phase }, { on := 46, ground := Go.Ground.phase }, { on := 47, ground := Go.Ground.phase }, { on := 48, ground := Go.Ground.phase }, { on := 49, ground := Go.Ground.phase }], guard := none }) (v := .slice (some ⟨gg, 0, none⟩) (k + 1) cap2) rfl (by kernel_rfl) (by kernel_rfl) (by kernel_rfl) (fun _ _ _ h => h) (Or.inl ⟨by rfl, ?_⟩) (by assumption) ?_
      · intro w9 hSw
        go_simp
      try simp only [Act.put, List.setIfInBounds_toArray, List.set_cons_zero, List.set_cons_succ]
      refine wpAnyH_done (by kernel_rfl) ?_ _
      go_wp2_with fail
      go_roundw
      case rel => exact ⟨k + 1, by omega, by rw [HL.out, lcs_snoc]; exact own3, by rw [HS.out]; exact ((HP2.out.drewN 1).alloc _).grown hgrow (fun e => by have := hoN _ e; omega), Below.grown (below_more (Below.drew HB2.out) _) hgrow (by simp; omega) (fun j hj => by have := hoN j hj; omega)⟩
      case measure => simp [slen]; omega
    · have hkn : k = n := by omega
      subst hkn
      have k1 := hsc.c1
      have k2 := hsc.c2
      have HK : Hid (¬ ((rbS t k).bad = false ∧ (rbS t k).pos < t.size ∧ k < 200)) := fun q => by have := rbB_iff.mpr q; rw [HN.out.no] at this; cases this
      clear pl hlt hk
      obtain ⟨s, hs⟩ : ∃ s, s = rbS t k := ⟨_, rfl⟩
      rw [← hs] at k1 k2 en HK hsc HBAD HOK
      clear hs HN
      obtain ⟨f, hf⟩ : ∃ f, f = Txt.fin t s := ⟨_, rfl⟩
      rw [← hf] at en HBAD HOK
      clear hf
      cases hbd : s.bad
      · rw [badI_false hbd] at k2
        by_cases hp : s.pos < t.size
        · have hp' : (s.pos : Int) < (t.size : Int) := by omega
          have hk' : ¬ (k : Int) < 200 := fun q => HK.out ⟨hbd, hp, by omega⟩
          clear HK hbd hp
          cases hfb : f.bad
          · have HQ : Hid _ := HOK.out hfb
            rw [badI_false hfb] at en
            clear HBAD HOK
            go_wp2_with (go_at_call 25; refine (en _ hsc).mono ?_; rintro e w3 ⟨rfl, g3, s3⟩; have B3 := Below.grown hb g3 hsz (fun j hj => by cases hj; exact Nat.le_refl _); have own3 := own_grown hown g3 (by omega))
            exact bodyPost_ret (v := .tuple #[.slice a0 k cap0, .int .i64 0, .int .i64 0]) (by simp [results, Tryd.results9, go_sem]) rfl ⟨_, by rw [HQ.out.1, HQ.out.2.1], by rw [HQ.out.2.2, HLEN.out]; exact own3, B3⟩
          · have HQ : Hid _ := HBAD.out hfb
            rw [badI_true hfb] at en
            have hf0 : (0 : Int) ≤ (f.pos : Int) := by omega
            clear HBAD HOK
            go_wp2_with (go_at_call 25; refine (en _ hsc).mono ?_; rintro e w3 ⟨rfl, g3, s3⟩; have B3 := Below.grown hb g3 hsz (fun j hj => by cases hj; exact Nat.le_refl _); have own3 := own_grown hown g3 (by omega))
            exact bodyPost_ret (v := .tuple #[.slice none 0 0, .int .i64 2, .int .i64 f.pos]) (by simp [results, Tryd.results9, go_sem]) rfl ⟨_, by rw [HQ.out.1, HQ.out.2.1], by rw [HQ.out.2.2]; exact World.ownsRow_nil _ _ _ _, B3⟩
        · have hp' : ¬ (s.pos : Int) < (t.size : Int) := by omega
          clear HK hbd hp
          cases hfb : f.bad
          · have HQ : Hid _ := HOK.out hfb
            rw [badI_false hfb] at en
            clear HBAD HOK
            go_wp2_with (go_at_call 25; refine (en _ hsc).mono ?_; rintro e w3 ⟨rfl, g3, s3⟩; have B3 := Below.grown hb g3 hsz (fun j hj => by cases hj; exact Nat.le_refl _); have own3 := own_grown hown g3 (by omega))
            exact bodyPost_ret (v := .tuple #[.slice a0 k cap0, .int .i64 0, .int .i64 0]) (by simp [results, Tryd.results9, go_sem]) rfl ⟨_, by rw [HQ.out.1, HQ.out.2.1], by rw [HQ.out.2.2, HLEN.out]; exact own3, B3⟩
          · have HQ : Hid _ := HBAD.out hfb
            rw [badI_true hfb] at en
            have hf0 : (0 : Int) ≤ (f.pos : Int) := by omega
            clear HBAD HOK
            go_wp2_with (go_at_call 25; refine (en _ hsc).mono ?_; rintro e w3 ⟨rfl, g3, s3⟩; have B3 := Below.grown hb g3 hsz (fun j hj => by cases hj; exact Nat.le_refl _); have own3 := own_grown hown g3 (by omega))
            exact bodyPost_ret (v := .tuple #[.slice none 0 0, .int .i64 2, .int .i64 f.pos]) (by simp [results, Tryd.results9, go_sem]) rfl ⟨_, by rw [HQ.out.1, HQ.out.2.1], by rw [HQ.out.2.2]; exact World.ownsRow_nil _ _ _ _, B3⟩
      · rw [badI_true hbd] at k2
        have hs0 : ¬ (s.pos : Int) < 0 := by omega
        clear HK hbd
        cases hfb : f.bad
        · have HQ : Hid _ := HOK.out hfb
          rw [badI_false hfb] at en
          clear HBAD HOK
          go_wp2_with (go_at_call 25; refine (en _ hsc).mono ?_; rintro e w3 ⟨rfl, g3, s3⟩; have B3 := Below.grown hb g3 hsz (fun j hj => by cases hj; exact Nat.le_refl _); have own3 := own_grown hown g3 (by omega))
          exact bodyPost_ret (v := .tuple #[.slice a0 k cap0, .int .i64 0, .int .i64 0]) (by simp [results, Tryd.results9, go_sem]) rfl ⟨_, by rw [HQ.out.1, HQ.out.2.1], by rw [HQ.out.2.2, HLEN.out]; exact own3, B3⟩
        · have HQ : Hid _ := HBAD.out hfb
          rw [badI_true hfb] at en
          have hf0 : (0 : Int) ≤ (f.pos : Int) := by omega
          clear HBAD HOK
          go_wp2_with (go_at_call 25; refine (en _ hsc).mono ?_; rintro e w3 ⟨rfl, g3, s3⟩; have B3 := Below.grown hb g3 hsz (fun j hj => by cases hj; exact Nat.le_refl _); have own3 := own_grown hown g3 (by omega))
          exact bodyPost_ret (v := .tuple #[.slice none 0 0, .int .i64 2, .int .i64 f.pos]) (by simp [results, Tryd.results9, go_sem]) rfl ⟨_, by rw [HQ.out.1, HQ.out.2.1], by rw [HQ.out.2.2]; exact World.ownsRow_nil _ _ _ _, B3⟩

theorem refReadBill_any (t : ByteArray) (n : Nat) (hn : EndsB t n) (w : World) (ht : t.size ≤ maxLen) :
    Calls Tryd.prog 9 #[.string t] w fun e w' => ∃ v, e = .returned (.tuple #[v, .int .i64 (rbErr t n), .int .i64 (rbAt t n)]) ∧ w'.ownsRow w.heap.size 65 15 v (rbR t n).length (lcs (rbR t n)) ∧ Below w.heap.size w w' := by
  by_cases h1 : 80000 < t.size
  · obtain ⟨a, b, c⟩ := rb_long (n := n) h1
    refine (refReadBill_long t w h1 ht).mono ?_
    rintro e w' ⟨rfl, hb⟩
    exact ⟨_, by rw [a, b], by rw [c]; exact World.ownsRow_nil _ _ _ _, hb⟩
  · refine (refReadBill_short t n hn w (by omega)).mono ?_
    rintro e w' ⟨v, he, own, hb⟩
    exact ⟨v, he, own_base own (by omega), hb⟩
end rbr
end Go.Proofs.YtjaffmmocbplaabDoor
