/-
  BnkX, BilW, BilX in one text.
-/
import Derived.Test.YtjaffmmocbplaabGreatDoorJ16
import Derived.Deep.RegionHeld3
namespace Go.Proofs.YtjaffmmocbplaabGreatDoor
open Go.RowKit Bil
set_option linter.unusedVariables false
attribute [local go_sem ↓] Go.wp_at_zero Go.wp_at_succ

theorem pAt_get {ps : List Per} {k : Nat} (h : k < ps.length) : ps[k]? = some (pAt ps k) := by simp [pAt, h]

set_option maxHeartbeats 1000000 in
theorem peakAhead_any (ps : List Per) (v : Value) (i : Nat) (q : Int) (w : World) (h : PRow w v ps) (hi : i ≤ ps.length) (hl : ps.length ≤ 40000) (q0 : 0 ≤ q) (q1 : q ≤ 12) :
    Calls Tryz.prog 25 #[v, .int .i64 i, .int .i64 q] w fun e w' => e = .returned (.int .i64 (pkA ps i q)) ∧ ∃ n, w' = w.drewN n := by
  obtain ⟨a, cap, rfl⟩ := h.form
  obtain ⟨f, hf⟩ : ∃ f, f = from0 i q := ⟨_, rfl⟩
  have HP : Hid (pkA ps i q = pkR ps f (i - f)) := by rw [hf]; rfl
  have hfi : f ≤ i := by rw [hf]; unfold from0; omega
  have hmx : mx ((i : Int) - q) 0 = (f : Int) := by rw [hf]; unfold from0 mx; split <;> omega
  have lg : ∀ w, Calls Tryz.prog 26 #[.int .i64 ((i : Int) - q), .int .i64 0] w fun e w' => e = .returned (.int .i64 f) ∧ w' = w := fun w => by rw [← hmx]; exact larger_any _ _ w
  clear hf hmx
  go_enter Tryz.func25, Tryz.ntmps25
  go_wp2_with (go_at_call 26; refine (lg _).mono ?_; rintro e w7 ⟨rfl, h7⟩; have h8 := h7.symm; subst h8)
  go_loopw [7, 8] (fun x p wr => ∃ k : Nat, p = .int .i64 ((f + k : Nat) : Int) ∧ f + k ≤ i ∧ x = .int .i64 (pkR ps f k) ∧ ∃ n, wr = w.drewN n) (fun _ p _ => i - (intOf p).toNat)
  case atStart => exact ⟨0, rfl, by omega, rfl, 0, rfl⟩
  case round =>
    obtain ⟨k, rfl, hk, rfl, n, rfl⟩ := hrel
    by_cases hlt : f + k < i
    · have hlt' : ((f + k : Nat) : Int) < (i : Int) := by omega
      obtain ⟨b, rfl, hcap, hblt, c0, c1, c2, c3, c4⟩ := h.at (pAt_get (show f + k < ps.length by omega))
      have hk0 : (0 : Int) ≤ ((f + k : Nat) : Int) := by omega
      have hkl : ((f + k : Nat) : Int) < (ps.length : Int) := by omega
      have hcap' : (ps.length : Int) ≤ (cap : Int) := by omega
      have HS : Hid (pkR ps f (k + 1) = mx (pkR ps f k) (pAt ps (f + k)).pk) := rfl
      have lg2 := fun w => larger_any (pkR ps f k) (pAt ps (f + k)).pk w
      obtain ⟨K, hK⟩ : ∃ K, K = f + k := ⟨_, rfl⟩
      have HK := hideF hK
      rw [← hK] at hlt' c0 c1 c2 c3 c4 hk0 hkl HS lg2
      rw [← hK]
      clear hK lg
      go_wp2_with (go_at_call 26; refine (lg2 _).mono ?_; rintro e w7 ⟨rfl, h7⟩; have h8 := h7.symm; subst h8)
      go_roundw
      case rel => exact ⟨k + 1, by have := HK.out; go_num, by omega, by rw [HS.out], n, rfl⟩
      case measure => have := HK.out; simp [intOf]; omega
    · have hlt' : ¬ ((f + k : Nat) : Int) < (i : Int) := by omega
      have hke : k = i - f := by omega
      have HK := hideF hke
      clear hke
      go_wp2_with fail
      go_ret
      exact ⟨ret_int (by rw [HP.out, HK.out]), n, rfl⟩

def prK (t : Trf) (p : Per) : Nat → Int
  | 0 => 0
  | 1 => 0 + lowP p.i0 t.b0 + hiP p.i0 t.b0
  | 2 => 0 + lowP p.i0 t.b0 + hiP p.i0 t.b0 + lowP p.i1 t.b1 + hiP p.i1 t.b1
  | _ => enOf t p
def clsI (p : Per) (k : Nat) : Int := if k = 0 then p.i0 else if k = 1 then p.i1 else p.i2
def clsB2 (t : Trf) (k : Nat) : Blk := if k = 0 then t.b0 else if k = 1 then t.b1 else t.b2
theorem prK_succ (t : Trf) (p : Per) {k : Nat} (hk : k < 3) : prK t p (k + 1) = prK t p k + lowP (clsI p k) (clsB2 t k) + hiP (clsI p k) (clsB2 t k) := by
  rcases (by omega : k = 0 ∨ k = 1 ∨ k = 2) with rfl | rfl | rfl <;> rfl
theorem cls_ok {t : Trf} {p : Per} (ht : OkT t) (hp : okP p 200) (k : Nat) : CkB (clsI p k) (clsB2 t k) := by
  simp only [okP] at hp
  refine ckB (by unfold okI clsI; (repeat' split) <;> omega) ?_
  unfold clsB2
  split
  · exact ht.a0
  · split
    · exact ht.a1
    · exact ht.a2
theorem prK_bd {t : Trf} {p : Per} (ht : OkT t) (hp : okP p 200) : ∀ k, k ≤ 3 → 0 ≤ prK t p k ∧ prK t p k ≤ k * 20000100000002
  | 0, _ => by show (0 : Int) ≤ 0 ∧ (0 : Int) ≤ _; omega
  | k + 1, hk => by
    have a := prK_bd ht hp k (by omega)
    have b := cls_ok ht hp k
    have := b.lp
    have := b.hp
    rw [prK_succ t p (by omega)]; omega

set_option maxRecDepth 100000 in
set_option maxHeartbeats 2000000 in
theorem energyPrice_any (t : Trf) (p : Per) (w : World) (ht : OkT t) (hp : okP p 200) :
    Calls Tryz.prog 27 #[.agg #[.int .i64 p.i0, .int .i64 p.i1, .int .i64 p.i2], .agg #[.int .i64 t.b0.x, .int .i64 t.b0.y, .int .i64 t.b0.z, .int .i64 t.b1.x, .int .i64 t.b1.y, .int .i64 t.b1.z, .int .i64 t.b2.x, .int .i64 t.b2.y, .int .i64 t.b2.z]] w fun e w' => e = .returned (.int .i64 (enOf t p)) ∧ Below w.heap.size w w' := by
  have BD := hideF (fun k (hk : k ≤ 3) => prK_bd ht hp k hk)
  have CK := hideF (fun k => cls_ok ht hp k)
  have HE : Hid (enOf t p = prK t p 3) := rfl
  rw [HE.out]
  clear ht hp
  go_enter Tryz.func27, Tryz.ntmps27
  go_wp2_with fail
  obtain ⟨W0, hW0⟩ : ∃ W0, W0 = (w.alloc (.cells #[.int .i64 p.i0, .int .i64 p.i1, .int .i64 p.i2] 90)).alloc (.cells #[.int .i64 t.b0.x, .int .i64 t.b0.y, .int .i64 t.b0.z, .int .i64 t.b1.x, .int .i64 t.b1.y, .int .i64 t.b1.z, .int .i64 t.b2.x, .int .i64 t.b2.y, .int .i64 t.b2.z] 41) := ⟨_, rfl⟩
  have HW0 := hideF hW0
  have B0 : Below w.heap.size w W0 := by rw [hW0]; exact below_more (below_more (Below.refl _ _) _) _
  have z0 : W0.heap.size = w.heap.size + 2 := by rw [hW0]; simp
  have CI : Hid (∀ k, k < 3 → W0.cell? ⟨w.heap.size, k, none⟩ = some (.int .i64 (clsI p k))) := fun k hk => by
    rw [hW0]; rcases (by omega : k = 0 ∨ k = 1 ∨ k = 2) with rfl | rfl | rfl <;> simp [go_sem, clsI]
  have CB : Hid (∀ k, k < 3 → W0.cell? ⟨w.heap.size + 1, k * 3, none⟩ = some (.int .i64 (clsB2 t k).x) ∧ W0.cell? ⟨w.heap.size + 1, k * 3 + 1, none⟩ = some (.int .i64 (clsB2 t k).y) ∧ W0.cell? ⟨w.heap.size + 1, k * 3 + 2, none⟩ = some (.int .i64 (clsB2 t k).z)) := fun k hk => by
    rw [hW0]; rcases (by omega : k = 0 ∨ k = 1 ∨ k = 2) with rfl | rfl | rfl <;> simp [go_sem, clsB2]
  clear hW0
  go_loopw [5, 6] (fun x i wr => ∃ k : Nat, i = .int .i64 k ∧ k ≤ 3 ∧ x = .int .i64 (prK t p k) ∧ Below W0.heap.size W0 wr) (fun _ i _ => 3 - (intOf i).toNat)
  case atStart => exact ⟨0, rfl, by omega, rfl, by rw [HW0.out]; exact Below.refl _ _⟩
  case round =>
    obtain ⟨k, rfl, hk, rfl, hb⟩ := hrel
    have S0 := BD.out k hk
    by_cases hlt : k < 3
    · have hlt' : (k : Int) < 3 := by omega
      have hk0 : (0 : Int) ≤ (k : Int) := by omega
      have c0 := vcell_below hb (show w.heap.size < W0.heap.size by omega) (CI.out k hlt)
      obtain ⟨d0', d1', d2'⟩ := CB.out k hlt
      have d0 := vcell_below hb (show w.heap.size + 1 < W0.heap.size by omega) d0'
      have d1 := vcell_below hb (show w.heap.size + 1 < W0.heap.size by omega) d1'
      have d2 := vcell_below hb (show w.heap.size + 1 < W0.heap.size by omega) d2'
      clear d0' d1' d2'
      have HS : Hid (prK t p (k + 1) = prK t p k + rnd (mn (clsI p k) (clsB2 t k).x * (clsB2 t k).y) + rnd ((clsI p k - mn (clsI p k) (clsB2 t k).x) * (clsB2 t k).z)) := prK_succ t p hlt
      obtain ⟨ki, km, kl, kh, klp, khp⟩ := CK.out k
      unfold lowP at klp
      unfold hiP at khp
      obtain ⟨X, hX⟩ : ∃ X, X = clsI p k := ⟨_, rfl⟩
      obtain ⟨Q, hQ⟩ : ∃ Q, Q = clsB2 t k := ⟨_, rfl⟩
      rw [← hX] at c0 HS ki km kl kh klp khp
      rw [← hQ] at d0 d1 d2 HS km kl kh klp khp
      obtain ⟨qx, qy, qz⟩ := Q
      simp only at d0 d1 d2 HS km kl kh klp khp
      have sm := fun w => smaller_any X qx w
      obtain ⟨Z, hZ⟩ : ∃ Z, Z = mn X qx := ⟨_, rfl⟩
      rw [← hZ] at HS km kl kh klp khp sm
      have r1 := fun w => rounded_any (Z * qy) w kl.1 (by omega)
      have r2 := fun w => rounded_any ((X - Z) * qz) w kh.1 (by omega)
      obtain ⟨R1, hR1⟩ : ∃ R1, R1 = rnd (Z * qy) := ⟨_, rfl⟩
      obtain ⟨R2, hR2⟩ : ∃ R2, R2 = rnd ((X - Z) * qz) := ⟨_, rfl⟩
      rw [← hR1] at HS klp r1
      rw [← hR2] at HS khp r2
      obtain ⟨Y, hY⟩ : ∃ Y, Y = prK t p k := ⟨_, rfl⟩
      rw [← hY] at S0 HS
      rw [← hY]
      have kw1 : IntKind.i64.wrap (X - Z) = X - Z := Go.IntWalk.i64_in _ (by omega)
      have kw2 : IntKind.i64.wrap ((X - Z) * qz) = (X - Z) * qz := Go.IntWalk.i64_in _ (by omega)
      have kw3 : IntKind.i64.wrap (Y + R1 + R2) = Y + R1 + R2 := Go.IntWalk.i64_in _ (by omega)
      have kw4 : IntKind.i64.wrap (Z * qy) = Z * qy := Go.IntWalk.i64_in _ (by omega)
      clear hX hQ hZ hR1 hR2 hY
      go_wp2_with fail
      go_quiet ((go_at_call 67; exact Calls.quiet_of_same (sm _)))
      go_wp2_with (go_at_call 28; refine (r1 _).mono ?_; rintro e w7 ⟨rfl, h7⟩; have h8 := h7.symm; subst h8)
      have hbq := below_drewN hb nq
      obtain ⟨wx, hwx⟩ : ∃ wx, wx = wr.drewN nq := ⟨_, rfl⟩
      have e0 : wx.cell? ⟨w.heap.size, k, none⟩ = some (.int .i64 X) := by rw [hwx]; exact c0
      have e2 : wx.cell? ⟨w.heap.size + 1, k * 3 + 2, none⟩ = some (.int .i64 qz) := by rw [hwx]; exact d2
      rw [← hwx] at hbq ⊢
      clear hwx c0 d0 d1 d2 hb
      go_quiet ((go_at_call 28; exact Calls.quiet_of_same (r2 _)))
      go_wp2_with fail
      go_roundw
      case rel => exact ⟨k + 1, by go_num, by omega, by rw [HS.out], by first | exact hbq | exact below_drewN hbq _⟩
      case measure => simp [intOf]; omega
    · have hlt' : ¬ (k : Int) < 3 := by omega
      have hke : k = 3 := by omega
      have HK := hideF hke
      clear hke
      go_wp2_with fail
      go_ret
      exact ⟨ret_int (by rw [HK.out]), below_then B0 hb⟩

end Go.Proofs.YtjaffmmocbplaabGreatDoor

namespace Go.Proofs.YtjaffmmocbplaabGreatDoor
open Go.RowKit Bil
set_option linter.unusedVariables false

theorem infoLn : (Tryz.prog.info? 94).map (fun i => (i.zero, i.size, i.bytes)) = some (some (.agg #[.int .i64 0, .int .i64 0, .int .i64 0, .int .i64 0, .int .i64 0, .int .i64 0, .int .i64 0, .int .i64 0, .int .i64 0, .int .i64 0, .int .i64 0, .int .i64 0, .int .i64 0, .int .i64 0, .int .i64 0]), 15, 120) := by kernel_rfl
def lcell (x : Ln) : List Value := [.int .i64 x.i0, .int .i64 x.i1, .int .i64 x.i2, .int .i64 x.o, .int .i64 x.pk, .int .i64 x.bl, .int .i64 x.en, .int .i64 x.pw, .int .i64 x.ap, .int .i64 x.ex, .int .i64 x.pd, .int .i64 x.bk, .int .i64 x.su, .int .i64 x.tx, .int .i64 x.to]
def lcs (l : List Ln) : List Value := l.flatMap lcell
theorem lcs_snoc (l : List Ln) (x : Ln) : lcs (l ++ [x]) = lcs l ++ lcell x := by simp [lcs]
theorem lcs_length (l : List Ln) : (lcs l).length = l.length * 15 := by
  induction l with
  | nil => rfl
  | cons x l ih => show (lcell x ++ lcs l).length = _; rw [List.length_append, ih]; simp [lcell]; omega
/-- the line under way, in block b -/
def LR (w : World) (b : Nat) (x : Ln) : Prop := w.heap[b]? = some (.cells #[.int .i64 x.i0, .int .i64 x.i1, .int .i64 x.i2, .int .i64 x.o, .int .i64 x.pk, .int .i64 x.bl, .int .i64 x.en, .int .i64 x.pw, .int .i64 x.ap, .int .i64 x.ex, .int .i64 x.pd, .int .i64 x.bk, .int .i64 x.su, .int .i64 x.tx, .int .i64 x.to] 94 (0, 0))
theorem LR.put {w : World} {b : Nat} {x : Ln} (h : LR w b x) (j : Nat) (u : Value) : (w.setCell ⟨b, j, none⟩ u).heap[b]? = some (.cells ((#[.int .i64 x.i0, .int .i64 x.i1, .int .i64 x.i2, .int .i64 x.o, .int .i64 x.pk, .int .i64 x.bl, .int .i64 x.en, .int .i64 x.pw, .int .i64 x.ap, .int .i64 x.ex, .int .i64 x.pd, .int .i64 x.bk, .int .i64 x.su, .int .i64 x.tx, .int .i64 x.to] : Array Value).setIfInBounds j u) 94 (0, 0)) := heap_setCell_same w b j _ _ u h
theorem LR.i0 {w : World} {b : Nat} {x : Ln} (h : LR w b x) (v : Int) : LR (w.setCell ⟨b, 0, none⟩ (.int .i64 v)) b { x with i0 := v } := h.put 0 _
theorem LR.i1 {w : World} {b : Nat} {x : Ln} (h : LR w b x) (v : Int) : LR (w.setCell ⟨b, 1, none⟩ (.int .i64 v)) b { x with i1 := v } := h.put 1 _
theorem LR.i2 {w : World} {b : Nat} {x : Ln} (h : LR w b x) (v : Int) : LR (w.setCell ⟨b, 2, none⟩ (.int .i64 v)) b { x with i2 := v } := h.put 2 _
theorem LR.o {w : World} {b : Nat} {x : Ln} (h : LR w b x) (v : Int) : LR (w.setCell ⟨b, 3, none⟩ (.int .i64 v)) b { x with o := v } := h.put 3 _
theorem LR.pk {w : World} {b : Nat} {x : Ln} (h : LR w b x) (v : Int) : LR (w.setCell ⟨b, 4, none⟩ (.int .i64 v)) b { x with pk := v } := h.put 4 _
theorem LR.bl {w : World} {b : Nat} {x : Ln} (h : LR w b x) (v : Int) : LR (w.setCell ⟨b, 5, none⟩ (.int .i64 v)) b { x with bl := v } := h.put 5 _
theorem LR.en {w : World} {b : Nat} {x : Ln} (h : LR w b x) (v : Int) : LR (w.setCell ⟨b, 6, none⟩ (.int .i64 v)) b { x with en := v } := h.put 6 _
theorem LR.pw {w : World} {b : Nat} {x : Ln} (h : LR w b x) (v : Int) : LR (w.setCell ⟨b, 7, none⟩ (.int .i64 v)) b { x with pw := v } := h.put 7 _
theorem LR.ap {w : World} {b : Nat} {x : Ln} (h : LR w b x) (v : Int) : LR (w.setCell ⟨b, 8, none⟩ (.int .i64 v)) b { x with ap := v } := h.put 8 _
theorem LR.ex {w : World} {b : Nat} {x : Ln} (h : LR w b x) (v : Int) : LR (w.setCell ⟨b, 9, none⟩ (.int .i64 v)) b { x with ex := v } := h.put 9 _
theorem LR.pd {w : World} {b : Nat} {x : Ln} (h : LR w b x) (v : Int) : LR (w.setCell ⟨b, 10, none⟩ (.int .i64 v)) b { x with pd := v } := h.put 10 _
theorem LR.bk {w : World} {b : Nat} {x : Ln} (h : LR w b x) (v : Int) : LR (w.setCell ⟨b, 11, none⟩ (.int .i64 v)) b { x with bk := v } := h.put 11 _
theorem LR.su {w : World} {b : Nat} {x : Ln} (h : LR w b x) (v : Int) : LR (w.setCell ⟨b, 12, none⟩ (.int .i64 v)) b { x with su := v } := h.put 12 _
theorem LR.tx {w : World} {b : Nat} {x : Ln} (h : LR w b x) (v : Int) : LR (w.setCell ⟨b, 13, none⟩ (.int .i64 v)) b { x with tx := v } := h.put 13 _
theorem LR.to {w : World} {b : Nat} {x : Ln} (h : LR w b x) (v : Int) : LR (w.setCell ⟨b, 14, none⟩ (.int .i64 v)) b { x with to := v } := h.put 14 _
theorem LR.drewN {w : World} {b : Nat} {x : Ln} (h : LR w b x) (n : Nat) : LR (w.drewN n) b x := h
theorem LR.lt {w : World} {b : Nat} {x : Ln} (h : LR w b x) : b < w.heap.size := (Array.getElem?_eq_some_iff.1 h).1
theorem LR.of_block {w w' : World} {b : Nat} {x : Ln} (h : LR w b x) (e : w'.heap[b]? = w.heap[b]?) : LR w' b x := e.trans h
theorem LR.c0 {w : World} {b : Nat} {x : Ln} (h : LR w b x) : w.cell? ⟨b, 0, none⟩ = some (.int .i64 x.i0) := cell_of_row _ _ _ _ _ _ h
theorem LR.c1 {w : World} {b : Nat} {x : Ln} (h : LR w b x) : w.cell? ⟨b, 1, none⟩ = some (.int .i64 x.i1) := cell_of_row _ _ _ _ _ _ h
theorem LR.c2 {w : World} {b : Nat} {x : Ln} (h : LR w b x) : w.cell? ⟨b, 2, none⟩ = some (.int .i64 x.i2) := cell_of_row _ _ _ _ _ _ h
theorem LR.c3 {w : World} {b : Nat} {x : Ln} (h : LR w b x) : w.cell? ⟨b, 3, none⟩ = some (.int .i64 x.o) := cell_of_row _ _ _ _ _ _ h
theorem LR.c4 {w : World} {b : Nat} {x : Ln} (h : LR w b x) : w.cell? ⟨b, 4, none⟩ = some (.int .i64 x.pk) := cell_of_row _ _ _ _ _ _ h
theorem LR.c5 {w : World} {b : Nat} {x : Ln} (h : LR w b x) : w.cell? ⟨b, 5, none⟩ = some (.int .i64 x.bl) := cell_of_row _ _ _ _ _ _ h
theorem LR.c6 {w : World} {b : Nat} {x : Ln} (h : LR w b x) : w.cell? ⟨b, 6, none⟩ = some (.int .i64 x.en) := cell_of_row _ _ _ _ _ _ h
theorem LR.c7 {w : World} {b : Nat} {x : Ln} (h : LR w b x) : w.cell? ⟨b, 7, none⟩ = some (.int .i64 x.pw) := cell_of_row _ _ _ _ _ _ h
theorem LR.c8 {w : World} {b : Nat} {x : Ln} (h : LR w b x) : w.cell? ⟨b, 8, none⟩ = some (.int .i64 x.ap) := cell_of_row _ _ _ _ _ _ h
theorem LR.c9 {w : World} {b : Nat} {x : Ln} (h : LR w b x) : w.cell? ⟨b, 9, none⟩ = some (.int .i64 x.ex) := cell_of_row _ _ _ _ _ _ h
theorem LR.c10 {w : World} {b : Nat} {x : Ln} (h : LR w b x) : w.cell? ⟨b, 10, none⟩ = some (.int .i64 x.pd) := cell_of_row _ _ _ _ _ _ h
theorem LR.c11 {w : World} {b : Nat} {x : Ln} (h : LR w b x) : w.cell? ⟨b, 11, none⟩ = some (.int .i64 x.bk) := cell_of_row _ _ _ _ _ _ h
theorem LR.c12 {w : World} {b : Nat} {x : Ln} (h : LR w b x) : w.cell? ⟨b, 12, none⟩ = some (.int .i64 x.su) := cell_of_row _ _ _ _ _ _ h
theorem LR.c13 {w : World} {b : Nat} {x : Ln} (h : LR w b x) : w.cell? ⟨b, 13, none⟩ = some (.int .i64 x.tx) := cell_of_row _ _ _ _ _ _ h
theorem LR.c14 {w : World} {b : Nat} {x : Ln} (h : LR w b x) : w.cell? ⟨b, 14, none⟩ = some (.int .i64 x.to) := cell_of_row _ _ _ _ _ _ h
theorem LR.frz {w : World} {b : Nat} {x : Ln} (h : LR w b x) (j : Nat) : w.frozen? ⟨b, j, none⟩ = false := frozen_of_row _ _ _ _ _ h
theorem LR_new (w : World) (x : Ln) : LR (w.alloc (.cells #[.int .i64 x.i0, .int .i64 x.i1, .int .i64 x.i2, .int .i64 x.o, .int .i64 x.pk, .int .i64 x.bl, .int .i64 x.en, .int .i64 x.pw, .int .i64 x.ap, .int .i64 x.ex, .int .i64 x.pd, .int .i64 x.bk, .int .i64 x.su, .int .i64 x.tx, .int .i64 x.to] 94)) w.heap.size x := heap_alloc_new w _
theorem LR_cell (w : World) (x : Ln) : ∀ j u, (lcell x)[j]? = some u → (w.alloc (.cells #[.int .i64 x.i0, .int .i64 x.i1, .int .i64 x.i2, .int .i64 x.o, .int .i64 x.pk, .int .i64 x.bl, .int .i64 x.en, .int .i64 x.pw, .int .i64 x.ap, .int .i64 x.ex, .int .i64 x.pd, .int .i64 x.bk, .int .i64 x.su, .int .i64 x.tx, .int .i64 x.to] 94)).cell? ((⟨w.heap.size, 0, none⟩ : Addr).add j) = some u := by
  intro j u hj
  have hadd : (⟨w.heap.size, 0, none⟩ : Addr).add j = ⟨w.heap.size, j, none⟩ := by unfold Addr.add; split <;> simp_all
  rw [hadd, cell_of_row _ _ _ _ _ _ (heap_alloc_new _ _), ← hj]
  simp [lcell]
/-- a tariff, in block b: what a bill reads of it -/
def TR (w : World) (b : Nat) (t : Trf) : Prop := w.heap[b]? = some (.cells #[.int .i64 t.z.off, .int .i64 t.z.f.m, .int .i64 t.z.f.w, .int .i64 t.z.f.d, .int .i64 t.z.f.h, .int .i64 t.z.t.m, .int .i64 t.z.t.w, .int .i64 t.z.t.d, .int .i64 t.z.t.h, .int .i64 t.days, .int .i64 t.gap, .int .i64 t.first, .int .i64 t.last, .string t.h0, .string t.h1, .string t.h2, .string t.h3, .int .i64 t.b0.x, .int .i64 t.b0.y, .int .i64 t.b0.z, .int .i64 t.b1.x, .int .i64 t.b1.y, .int .i64 t.b1.z, .int .i64 t.b2.x, .int .i64 t.b2.y, .int .i64 t.b2.z, .int .i64 t.d.x, .int .i64 t.d.y, .int .i64 t.d.z, .int .i64 t.np, .int .i64 t.nn, .int .i64 t.fix, .int .i64 t.min, .int .i64 t.tax] 47)
theorem TR.c17 {w : World} {b : Nat} {t : Trf} (h : TR w b t) : w.cell? ⟨b, 17, none⟩ = some (.int .i64 t.b0.x) := cell_of_row _ _ _ _ _ _ h
theorem TR.c18 {w : World} {b : Nat} {t : Trf} (h : TR w b t) : w.cell? ⟨b, 18, none⟩ = some (.int .i64 t.b0.y) := cell_of_row _ _ _ _ _ _ h
theorem TR.c19 {w : World} {b : Nat} {t : Trf} (h : TR w b t) : w.cell? ⟨b, 19, none⟩ = some (.int .i64 t.b0.z) := cell_of_row _ _ _ _ _ _ h
theorem TR.c20 {w : World} {b : Nat} {t : Trf} (h : TR w b t) : w.cell? ⟨b, 20, none⟩ = some (.int .i64 t.b1.x) := cell_of_row _ _ _ _ _ _ h
theorem TR.c21 {w : World} {b : Nat} {t : Trf} (h : TR w b t) : w.cell? ⟨b, 21, none⟩ = some (.int .i64 t.b1.y) := cell_of_row _ _ _ _ _ _ h
theorem TR.c22 {w : World} {b : Nat} {t : Trf} (h : TR w b t) : w.cell? ⟨b, 22, none⟩ = some (.int .i64 t.b1.z) := cell_of_row _ _ _ _ _ _ h
theorem TR.c23 {w : World} {b : Nat} {t : Trf} (h : TR w b t) : w.cell? ⟨b, 23, none⟩ = some (.int .i64 t.b2.x) := cell_of_row _ _ _ _ _ _ h
theorem TR.c24 {w : World} {b : Nat} {t : Trf} (h : TR w b t) : w.cell? ⟨b, 24, none⟩ = some (.int .i64 t.b2.y) := cell_of_row _ _ _ _ _ _ h
theorem TR.c25 {w : World} {b : Nat} {t : Trf} (h : TR w b t) : w.cell? ⟨b, 25, none⟩ = some (.int .i64 t.b2.z) := cell_of_row _ _ _ _ _ _ h
theorem TR.c26 {w : World} {b : Nat} {t : Trf} (h : TR w b t) : w.cell? ⟨b, 26, none⟩ = some (.int .i64 t.d.x) := cell_of_row _ _ _ _ _ _ h
theorem TR.c27 {w : World} {b : Nat} {t : Trf} (h : TR w b t) : w.cell? ⟨b, 27, none⟩ = some (.int .i64 t.d.y) := cell_of_row _ _ _ _ _ _ h
theorem TR.c28 {w : World} {b : Nat} {t : Trf} (h : TR w b t) : w.cell? ⟨b, 28, none⟩ = some (.int .i64 t.d.z) := cell_of_row _ _ _ _ _ _ h
theorem TR.c29 {w : World} {b : Nat} {t : Trf} (h : TR w b t) : w.cell? ⟨b, 29, none⟩ = some (.int .i64 t.np) := cell_of_row _ _ _ _ _ _ h
theorem TR.c30 {w : World} {b : Nat} {t : Trf} (h : TR w b t) : w.cell? ⟨b, 30, none⟩ = some (.int .i64 t.nn) := cell_of_row _ _ _ _ _ _ h
theorem TR.c31 {w : World} {b : Nat} {t : Trf} (h : TR w b t) : w.cell? ⟨b, 31, none⟩ = some (.int .i64 t.fix) := cell_of_row _ _ _ _ _ _ h
theorem TR.c32 {w : World} {b : Nat} {t : Trf} (h : TR w b t) : w.cell? ⟨b, 32, none⟩ = some (.int .i64 t.min) := cell_of_row _ _ _ _ _ _ h
theorem TR.c33 {w : World} {b : Nat} {t : Trf} (h : TR w b t) : w.cell? ⟨b, 33, none⟩ = some (.int .i64 t.tax) := cell_of_row _ _ _ _ _ _ h
/-- what is owned stays where its block does -/
theorem own_blk {w w' : World} {base : Nat} {e : TypeId} {size : Nat} {v : Value} {n : Nat} {xs : List Value} (h : w.ownsRow base e size v n xs) (hb : ∀ k, v.ownBlock = some k → w'.heap[k]? = w.heap[k]?) : w'.ownsRow base e size v n xs := by
  refine ⟨h.1, ?_⟩
  rcases h.2 with hn | ⟨g, cap, cur, rfl, h1, h2, rest⟩
  · exact .inl hn
  · exact .inr ⟨g, cap, cur, rfl, h1, (hb g rfl).trans h2, rest⟩
/-- two rows of different kinds lie in different blocks -/
theorem own_apart {w : World} {base base' : Nat} {e e' : TypeId} {size size' : Nat} {v v' : Value} {n n' : Nat} {xs xs' : List Value} (h : w.ownsRow base e size v n xs) (h' : w.ownsRow base' e' size' v' n' xs') (hne : e ≠ e') : ∀ k, v.ownBlock = some k → v'.ownBlock ≠ some k := by
  intro k hk hk'
  obtain ⟨c, z, q⟩ := Lib.ownsRow_kind h k hk
  obtain ⟨c', z', q'⟩ := Lib.ownsRow_kind h' k hk'
  rw [q] at q'
  injection q' with q'
  injection q' with _ q' _
  exact hne q'
theorem own_ne {a b : Option Nat} (h : ∀ k, a = some k → b ≠ some k) : a = none ∨ a ≠ b := by
  cases a with
  | none => exact .inl rfl
  | some k => exact .inr fun e => h k rfl e.symm
theorem own_ne' {a b : Option Nat} (h : ∀ k, a = some k → b ≠ some k) : b = none ∨ b ≠ a := by
  cases b with
  | none => exact .inl rfl
  | some k => exact .inr fun e => h k e.symm rfl
theorem LR.apart {w : World} {b : Nat} {x : Ln} (h : LR w b x) {base : Nat} {e : TypeId} {size : Nat} {v : Value} {n : Nat} {xs : List Value} (h' : w.ownsRow base e size v n xs) (hne : e ≠ 94) : v.ownBlock ≠ some b := by
  intro hk
  obtain ⟨c, z, q⟩ := Lib.ownsRow_kind h' b hk
  rw [show w.heap[b]? = _ from h] at q
  injection q with q
  injection q with _ q _
  exact hne q.symm

def blL (t : Trf) (step start : Int) (l : List Txt.Val) : List Ln := if spE t step start l = 0 then lnR t (spL t step start l) (spL t step start l).length else []
theorem spA_ok {t : Trf} {step start : Int} {l : List Txt.Val} (h : spE t step start l = 0) : spA t step start l = 0 := by
  obtain ⟨hm, hb, hf, hc, _⟩ := sp_ok h
  unfold spA
  rw [hm, if_pos rfl, if_neg (by omega), if_pos hf]
  exact (pp_yes hc).2.1.symm
end Go.Proofs.YtjaffmmocbplaabGreatDoor

namespace Go.Proofs.YtjaffmmocbplaabGreatDoor
open Go.RowKit Bil
set_option linter.unusedVariables false
attribute [local go_sem ↓] Go.wp_at_zero Go.wp_at_succ

theorem grown_set (w : World) (b j : Nat) (u : Value) : w.grownBy (w.setCell ⟨b, j, none⟩ u) (some b) :=
  ⟨rfl, rfl, rfl, by simp [World.setCell], fun k _ hr => Below.heap_setCell _ _ _ _ (fun e => hr (by rw [e]))⟩
theorem BankAt.far {w : World} {base b : Nat} {v : Value} {c : List Int} (h : BankAt w base b v c) {l : Nat} (h1 : ¬ b = l) (h2 : v.ownBlock ≠ some l) (j : Nat) (u : Value) : BankAt (w.setCell ⟨l, j, none⟩ u) base b v c :=
  h.kept (grown_set w l j u) (fun e => h1 (by injection e)) (.inr h2)
theorem own_far {w : World} {base : Nat} {e : TypeId} {size : Nat} {v : Value} {n : Nat} {xs : List Value} (h : w.ownsRow base e size v n xs) {l : Nat} (h2 : v.ownBlock ≠ some l) (j : Nat) (u : Value) : (w.setCell ⟨l, j, none⟩ u).ownsRow base e size v n xs :=
  h.kept (grown_set w l j u) (.inr h2)
theorem ret_bill {v v' : Value} {a b : Int} (h : v = v') {a' b' : Int} (ha : a = a') (hb : b = b') : Ending.returned (.tuple #[v, .int .i64 a, .int .i64 b]) = .returned (.tuple #[v', .int .i64 a', .int .i64 b']) := by rw [h, ha, hb]

set_option maxRecDepth 1000000 in
set_option maxHeartbeats 1500000 in
theorem Bill_no (t : Trf) (step start : Int) (v : Value) (l : List Txt.Val) (w : World) (h : VRow w v l) (s0 : t.h0.size ≤ maxLen) (s1 : t.h1.size ≤ maxLen) (s2 : t.h2.size ≤ maxLen) (s3 : t.h3.size ≤ maxLen) (hne : ¬ spE t step start l = 0) :
    Calls Tryz.prog 9 #[.agg #[.int .i64 step, .int .i64 start, v], .agg #[.int .i64 t.z.off, .int .i64 t.z.f.m, .int .i64 t.z.f.w, .int .i64 t.z.f.d, .int .i64 t.z.f.h, .int .i64 t.z.t.m, .int .i64 t.z.t.w, .int .i64 t.z.t.d, .int .i64 t.z.t.h, .int .i64 t.days, .int .i64 t.gap, .int .i64 t.first, .int .i64 t.last, .string t.h0, .string t.h1, .string t.h2, .string t.h3, .int .i64 t.b0.x, .int .i64 t.b0.y, .int .i64 t.b0.z, .int .i64 t.b1.x, .int .i64 t.b1.y, .int .i64 t.b1.z, .int .i64 t.b2.x, .int .i64 t.b2.y, .int .i64 t.b2.z, .int .i64 t.d.x, .int .i64 t.d.y, .int .i64 t.d.z, .int .i64 t.np, .int .i64 t.nn, .int .i64 t.fix, .int .i64 t.min, .int .i64 t.tax]] w fun e w' => e = .returned (.tuple #[.slice none 0 0, .int .i64 (spE t step start l), .int .i64 (spA t step start l)]) ∧ Below w.heap.size w w' := by
  have sp := fun w1 (hb : Below w.heap.size w w1) => Split_any t step start v l w1 (h.below hb) s0 s1 s2 s3
  obtain ⟨a, cap, rfl⟩ := h.form
  rw [sp_no hne] at sp
  obtain ⟨E, hE⟩ : ∃ E, E = spE t step start l := ⟨_, rfl⟩
  obtain ⟨A, hA⟩ : ∃ A, A = spA t step start l := ⟨_, rfl⟩
  rw [← hE, ← hA] at sp
  rw [← hE] at hne
  rw [← hE, ← hA]
  have hEB : (E != 0) = true := by simpa using hne
  have B0 : Below w.heap.size w ((w.alloc (.cells #[.int .i64 step, .int .i64 start, .slice a l.length cap] 31)).alloc (.cells #[.int .i64 t.z.off, .int .i64 t.z.f.m, .int .i64 t.z.f.w, .int .i64 t.z.f.d, .int .i64 t.z.f.h, .int .i64 t.z.t.m, .int .i64 t.z.t.w, .int .i64 t.z.t.d, .int .i64 t.z.t.h, .int .i64 t.days, .int .i64 t.gap, .int .i64 t.first, .int .i64 t.last, .string t.h0, .string t.h1, .string t.h2, .string t.h3, .int .i64 t.b0.x, .int .i64 t.b0.y, .int .i64 t.b0.z, .int .i64 t.b1.x, .int .i64 t.b1.y, .int .i64 t.b1.z, .int .i64 t.b2.x, .int .i64 t.b2.y, .int .i64 t.b2.z, .int .i64 t.d.x, .int .i64 t.d.y, .int .i64 t.d.z, .int .i64 t.np, .int .i64 t.nn, .int .i64 t.fix, .int .i64 t.min, .int .i64 t.tax] 47)) := below_more (below_more (Below.refl _ _) _) _
  have MT : ((w.alloc (.cells #[.int .i64 step, .int .i64 start, .slice a l.length cap] 31)).alloc (.cells #[.int .i64 t.z.off, .int .i64 t.z.f.m, .int .i64 t.z.f.w, .int .i64 t.z.f.d, .int .i64 t.z.f.h, .int .i64 t.z.t.m, .int .i64 t.z.t.w, .int .i64 t.z.t.d, .int .i64 t.z.t.h, .int .i64 t.days, .int .i64 t.gap, .int .i64 t.first, .int .i64 t.last, .string t.h0, .string t.h1, .string t.h2, .string t.h3, .int .i64 t.b0.x, .int .i64 t.b0.y, .int .i64 t.b0.z, .int .i64 t.b1.x, .int .i64 t.b1.y, .int .i64 t.b1.z, .int .i64 t.b2.x, .int .i64 t.b2.y, .int .i64 t.b2.z, .int .i64 t.d.x, .int .i64 t.d.y, .int .i64 t.d.z, .int .i64 t.np, .int .i64 t.nn, .int .i64 t.fix, .int .i64 t.min, .int .i64 t.tax] 47)).heap[w.heap.size + 1]? = some (.cells #[.int .i64 t.z.off, .int .i64 t.z.f.m, .int .i64 t.z.f.w, .int .i64 t.z.f.d, .int .i64 t.z.f.h, .int .i64 t.z.t.m, .int .i64 t.z.t.w, .int .i64 t.z.t.d, .int .i64 t.z.t.h, .int .i64 t.days, .int .i64 t.gap, .int .i64 t.first, .int .i64 t.last, .string t.h0, .string t.h1, .string t.h2, .string t.h3, .int .i64 t.b0.x, .int .i64 t.b0.y, .int .i64 t.b0.z, .int .i64 t.b1.x, .int .i64 t.b1.y, .int .i64 t.b1.z, .int .i64 t.b2.x, .int .i64 t.b2.y, .int .i64 t.b2.z, .int .i64 t.d.x, .int .i64 t.d.y, .int .i64 t.d.z, .int .i64 t.np, .int .i64 t.nn, .int .i64 t.fix, .int .i64 t.min, .int .i64 t.tax] 47) := heap_alloc2_new _ _ _
  clear hE hA hne h
  go_enter Tryz.func9, Tryz.ntmps9
  go_wp2_with (first
    | (refine wpList_load_row rfl 47 _ rfl (w.heap.size + 1) rfl 47 _ (0, 0) _ MT Tryz.underlying47 rfl (by kernel_rfl) ?_)
    | (go_at_call 24; refine (sp _ B0).mono ?_; rintro e w1 ⟨v1, rfl, own1, hb1⟩; obtain ⟨a1, cap1, rfl⟩ := own_slice own1))
  exact bodyPost_ret (v := .tuple #[.slice none 0 0, .int .i64 E, .int .i64 A]) (by simp [results, Tryz.results9, go_sem]) rfl ⟨rfl, below_then B0 hb1⟩

set_option maxRecDepth 1000000 in
set_option maxHeartbeats 2000000 in
theorem Bill_yes (t : Trf) (step start : Int) (v : Value) (l : List Txt.Val) (w : World) (h : VRow w v l) (s0 : t.h0.size ≤ maxLen) (s1 : t.h1.size ≤ maxLen) (s2 : t.h2.size ≤ maxLen) (s3 : t.h3.size ≤ maxLen) (hz : spE t step start l = 0) :
    Calls Tryz.prog 9 #[.agg #[.int .i64 step, .int .i64 start, v], .agg #[.int .i64 t.z.off, .int .i64 t.z.f.m, .int .i64 t.z.f.w, .int .i64 t.z.f.d, .int .i64 t.z.f.h, .int .i64 t.z.t.m, .int .i64 t.z.t.w, .int .i64 t.z.t.d, .int .i64 t.z.t.h, .int .i64 t.days, .int .i64 t.gap, .int .i64 t.first, .int .i64 t.last, .string t.h0, .string t.h1, .string t.h2, .string t.h3, .int .i64 t.b0.x, .int .i64 t.b0.y, .int .i64 t.b0.z, .int .i64 t.b1.x, .int .i64 t.b1.y, .int .i64 t.b1.z, .int .i64 t.b2.x, .int .i64 t.b2.y, .int .i64 t.b2.z, .int .i64 t.d.x, .int .i64 t.d.y, .int .i64 t.d.z, .int .i64 t.np, .int .i64 t.nn, .int .i64 t.fix, .int .i64 t.min, .int .i64 t.tax]] w fun e w' => ∃ v', e = .returned (.tuple #[v', .int .i64 0, .int .i64 0]) ∧
      w'.ownsRow w.heap.size 94 15 v' (spL t step start l).length (lcs (lnR t (spL t step start l) (spL t step start l).length)) ∧ Below w.heap.size w w' := by
  obtain ⟨i0, hi, hz0, hz1, hz2⟩ := info_parts infoLn
  have sp := fun w1 (hb : Below w.heap.size w w1) => Split_any t step start v l w1 (h.below hb) s0 s1 s2 s3
  have hA := spA_ok hz
  obtain ⟨hm, hb13, hfe, hokc, hsl⟩ := sp_ok hz
  obtain ⟨hst, hsa⟩ := meterB_step hm
  obtain ⟨len1, len2, hall⟩ := meterB_fit hm
  have hLn := (fL_len step start t.gap l).2
  have hLv : (fL step start t.gap l).all valB = true := by
    unfold fL; split
    · split
      · rename_i hr; exact fl_valB hall hr
      · rfl
    · rfl
  obtain ⟨PA, PL⟩ := perL_all hb13 hst hLv hLn hokc
  rw [← hsl] at PA PL
  rw [hz, hA] at sp
  have OKT := okT hb13
  obtain ⟨ps, hps⟩ : ∃ ps, ps = spL t step start l := ⟨_, rfl⟩
  rw [← hps] at sp PA PL
  rw [← hps]
  have PK := pAt_ok PA
  clear hps hA hm hb13 hfe hokc hsl hst hsa len1 len2 hall hLn hLv PA hz
  obtain ⟨a, cap, rfl⟩ := h.form
  have B0 : Below w.heap.size w ((w.alloc (.cells #[.int .i64 step, .int .i64 start, .slice a l.length cap] 31)).alloc (.cells #[.int .i64 t.z.off, .int .i64 t.z.f.m, .int .i64 t.z.f.w, .int .i64 t.z.f.d, .int .i64 t.z.f.h, .int .i64 t.z.t.m, .int .i64 t.z.t.w, .int .i64 t.z.t.d, .int .i64 t.z.t.h, .int .i64 t.days, .int .i64 t.gap, .int .i64 t.first, .int .i64 t.last, .string t.h0, .string t.h1, .string t.h2, .string t.h3, .int .i64 t.b0.x, .int .i64 t.b0.y, .int .i64 t.b0.z, .int .i64 t.b1.x, .int .i64 t.b1.y, .int .i64 t.b1.z, .int .i64 t.b2.x, .int .i64 t.b2.y, .int .i64 t.b2.z, .int .i64 t.d.x, .int .i64 t.d.y, .int .i64 t.d.z, .int .i64 t.np, .int .i64 t.nn, .int .i64 t.fix, .int .i64 t.min, .int .i64 t.tax] 47)) := below_more (below_more (Below.refl _ _) _) _
  have MT : ((w.alloc (.cells #[.int .i64 step, .int .i64 start, .slice a l.length cap] 31)).alloc (.cells #[.int .i64 t.z.off, .int .i64 t.z.f.m, .int .i64 t.z.f.w, .int .i64 t.z.f.d, .int .i64 t.z.f.h, .int .i64 t.z.t.m, .int .i64 t.z.t.w, .int .i64 t.z.t.d, .int .i64 t.z.t.h, .int .i64 t.days, .int .i64 t.gap, .int .i64 t.first, .int .i64 t.last, .string t.h0, .string t.h1, .string t.h2, .string t.h3, .int .i64 t.b0.x, .int .i64 t.b0.y, .int .i64 t.b0.z, .int .i64 t.b1.x, .int .i64 t.b1.y, .int .i64 t.b1.z, .int .i64 t.b2.x, .int .i64 t.b2.y, .int .i64 t.b2.z, .int .i64 t.d.x, .int .i64 t.d.y, .int .i64 t.d.z, .int .i64 t.np, .int .i64 t.nn, .int .i64 t.fix, .int .i64 t.min, .int .i64 t.tax] 47)).heap[w.heap.size + 1]? = some (.cells #[.int .i64 t.z.off, .int .i64 t.z.f.m, .int .i64 t.z.f.w, .int .i64 t.z.f.d, .int .i64 t.z.f.h, .int .i64 t.z.t.m, .int .i64 t.z.t.w, .int .i64 t.z.t.d, .int .i64 t.z.t.h, .int .i64 t.days, .int .i64 t.gap, .int .i64 t.first, .int .i64 t.last, .string t.h0, .string t.h1, .string t.h2, .string t.h3, .int .i64 t.b0.x, .int .i64 t.b0.y, .int .i64 t.b0.z, .int .i64 t.b1.x, .int .i64 t.b1.y, .int .i64 t.b1.z, .int .i64 t.b2.x, .int .i64 t.b2.y, .int .i64 t.b2.z, .int .i64 t.d.x, .int .i64 t.d.y, .int .i64 t.d.z, .int .i64 t.np, .int .i64 t.nn, .int .i64 t.fix, .int .i64 t.min, .int .i64 t.tax] 47) := heap_alloc2_new _ _ _
  have HOKT := hideF OKT
  have HPK := hideF PK
  have tb1 := OKT.d
  have tb2 := OKT.n
  have tb3 := OKT.f
  clear h OKT PK
  go_enter Tryz.func9, Tryz.ntmps9
  go_wp2_with (first
    | (refine wpList_load_row rfl 47 _ rfl (w.heap.size + 1) rfl 47 _ (0, 0) _ MT Tryz.underlying47 rfl (by kernel_rfl) ?_)
    | (go_at_call 24; refine (sp _ B0).mono ?_; rintro e w1 ⟨v1, rfl, own1, hb1⟩; obtain ⟨a1, cap1, rfl⟩ := own_slice own1))
  have U1 := hideF (PRow.of_own own1 rfl)
  have BW := below_then B0 hb1
  have hs1 : w.heap.size + 2 ≤ w1.heap.size := by have := hb1.size; simp at this; omega
  have MT1 : TR w1 (w.heap.size + 1) t := (hb1.block (w.heap.size + 1) (by simp)).trans MT
  clear own1 hb1 MT B0 sp
  go_loopw [10, 12] (fun f p wr => ∃ (k : Nat) (cv : Value), p = .int .i64 k ∧ k ≤ ps.length ∧ wr.ownsRow (w1.heap.size + 1) 94 15 f k (lcs (lnR t ps k)) ∧ BankAt wr (w1.heap.size + 1) w1.heap.size cv (crR t ps k) ∧ Below w1.heap.size w1 wr) (fun _ p _ => ps.length - (intOf p).toNat)
  case atStart =>
    exact ⟨0, .slice none 0 0, rfl, by omega, World.ownsRow_nil _ _ _ _, ⟨by simp, by simp [go_sem], by simp [go_sem], World.ownsRow_nil _ _ _ _, by omega, by simp⟩, below_more (Below.refl _ _) _⟩
  case round =>
    obtain ⟨k, cv, rfl, hk, hown, hB, hb⟩ := hrel
    obtain ⟨a0, cap0, rfl⟩ := own_slice hown
    have hsz := hb.size
    by_cases hlt : k < ps.length
    · have hlt' : (k : Int) < (ps.length : Int) := by omega
      have hk0 : (0 : Int) ≤ (k : Int) := by omega
      have Ur := U1.out.below hb
      obtain ⟨gu, rfl, hcap, hglt, u0, u1, u2, u3, u4⟩ := Ur.at (pAt_get hlt)
      have hcap' : (ps.length : Int) ≤ (cap1 : Int) := by omega
      have TRr : TR wr (w.heap.size + 1) t := (hb.block (w.heap.size + 1) (by omega)).trans MT1
      have q17 := TRr.c17
      have q18 := TRr.c18
      have q19 := TRr.c19
      have q20 := TRr.c20
      have q21 := TRr.c21
      have q22 := TRr.c22
      have q23 := TRr.c23
      have q24 := TRr.c24
      have q25 := TRr.c25
      have q26 := TRr.c26
      have q27 := TRr.c27
      have q28 := TRr.c28
      have CL := crR_len t ps k
      have CO := cr_ok HOKT.out HPK.out k
      have LB := lnB HOKT.out HPK.out k
      have LC := lnC HOKT.out HPK.out CO k
      have hpx := HPK.out k
      have HL : Hid (lnAt t ps k = ⟨(pAt ps k).i0, (pAt ps k).i1, (pAt ps k).i2, (pAt ps k).o, (pAt ps k).pk, blOf t ps k, enOf t (pAt ps k), pwOf t ps k, apOf t ps (crR t ps k) k, exOf t (crR t ps k), pdOf t ps k, (c3Of t ps (crR t ps k) k).sum, suOf t ps (crR t ps k) k, rnd (suOf t ps (crR t ps k) k * t.tax), suOf t ps (crR t ps k) k + rnd (suOf t ps (crR t ps k) k * t.tax)⟩) := rfl
      have HC : Hid (crR t ps (k + 1) = c3Of t ps (crR t ps k) k) := rfl
      have ep := fun W => energyPrice_any t (pAt ps k) W HOKT.out hpx
      have pka := fun W (h : PRow W (.slice (some ⟨gu, 0, none⟩) ps.length cap1) ps) => peakAhead_any ps _ k t.d.z W h hk (by omega) tb1.2.2.2.2.1 tb1.2.2.2.2.2
      have lg1 : ∀ W, Calls Tryz.prog 26 #[.int .i64 (pAt ps k).pk, .int .i64 (pkA ps k t.d.z * t.d.y / 100)] W fun e w' => e = .returned (.int .i64 (blOf t ps k)) ∧ w' = W := fun W => larger_any _ _ W
      have ht1 : (pkA ps k t.d.z * t.d.y).tdiv 100 = pkA ps k t.d.z * t.d.y / 100 := Int.tdiv_eq_ediv_of_nonneg LB.pm.1
      have r1 : ∀ W, Calls Tryz.prog 28 #[.int .i64 (blOf t ps k * t.d.x)] W fun e w' => e = .returned (.int .i64 (pwOf t ps k)) ∧ w' = W := fun W => rounded_any _ W LB.bm.1 (by have := LB.bm.2; omega)
      have r2 : ∀ W, Calls Tryz.prog 28 #[.int .i64 ((pAt ps k).o * t.np)] W fun e w' => e = .returned (.int .i64 (pdOf t ps k)) ∧ w' = W := fun W => rounded_any _ W LB.om.1 (by have := LB.om.2; omega)
      have xp : ∀ W, BankAt W (w1.heap.size + 1) w1.heap.size cv (crR t ps k) → Calls Tryz.prog 29 #[.pointer (some ⟨w1.heap.size, 0, none⟩), .int .i64 t.nn] W fun e w' => e = .returned (.int .i64 (exOf t (crR t ps k))) ∧ W.grownBy w' cv.ownBlock ∧ BankAt w' (w1.heap.size + 1) w1.heap.size cv (c1Of t (crR t ps k)) := fun W h => expire_any _ _ _ _ _ W h CO (by omega) tb2.2.2.1 tb2.2.2.2
      have C1 : okL 20000000000001 (c1Of t (crR t ps k)) := c1_ok CO
      have C1L : (c1Of t (crR t ps k)).length ≤ 40000 := by unfold c1Of; rw [expC_len]; omega
      have ay : ∀ W, BankAt W (w1.heap.size + 1) w1.heap.size cv (c1Of t (crR t ps k)) → Calls Tryz.prog 30 #[.pointer (some ⟨w1.heap.size, 0, none⟩), .int .i64 (enOf t (pAt ps k))] W fun e w' => e = .returned (.int .i64 (apOf t ps (crR t ps k) k)) ∧ W.grownBy w' cv.ownBlock ∧ BankAt w' (w1.heap.size + 1) w1.heap.size cv (c2Of t ps (crR t ps k) k) := fun W h => apply_any _ _ _ _ _ W h C1 C1L LB.en.1 (by have := LB.en.2; omega)
      have C2L : (c2Of t ps (crR t ps k) k).length ≤ 40000 := by unfold c2Of; rw [appC_len]; exact C1L
      have ad : ∀ W, BankAt W (w1.heap.size + 1) w1.heap.size cv (c2Of t ps (crR t ps k) k) → _ := fun W h => add_any (c2Of t ps (crR t ps k) k) (pdOf t ps k) _ _ _ W h C2L
      have CO1 := cr_ok HOKT.out HPK.out (k + 1)
      have CL1 := crR_len t ps (k + 1)
      rw [HC.out] at CO1 CL1
      have lf : ∀ W cv', BankAt W (w1.heap.size + 1) w1.heap.size cv' (c3Of t ps (crR t ps k) k) → _ := fun W cv' h => left_any _ _ _ cv' W h CO1 (by omega)
      have lg2 : ∀ W, Calls Tryz.prog 26 #[.int .i64 (t.fix + enOf t (pAt ps k) - apOf t ps (crR t ps k) k + pwOf t ps k), .int .i64 t.min] W fun e w' => e = .returned (.int .i64 (suOf t ps (crR t ps k) k)) ∧ w' = W := fun W => larger_any _ _ W
      have r3 : ∀ W, Calls Tryz.prog 28 #[.int .i64 (suOf t ps (crR t ps k) k * t.tax)] W fun e w' => e = .returned (.int .i64 (rnd (suOf t ps (crR t ps k) k * t.tax))) ∧ w' = W := fun W => rounded_any _ W LC.sm.1 (by have := LC.sm.2; omega)
      have b1 := LB.pk
      have b2 := LB.pm
      have b3 := LB.bl
      have b4 := LB.bm
      have b5 := LB.pw
      have b6 := LB.en
      have b7 := LB.om
      have b8 := LB.pd
      have b9 := LC.ap
      have b10 := LC.su
      have b11 := LC.sm
      have b12 := rnd_bd LC.sm.1 LC.sm.2
      have HOO : Hid (c3Of t ps (crR t ps k) k = c2Of t ps (crR t ps k) k ++ [pdOf t ps k]) := rfl
      have HLN : Hid (lnR t ps (k + 1) = lnR t ps k ++ [lnAt t ps k]) := rfl
      simp only [okP] at hpx
      -- letters
      obtain ⟨x, hx⟩ : ∃ x, x = pAt ps k := ⟨_, rfl⟩
      rw [← hx] at u0 u1 u2 u3 u4 ep lg1 r2 b6 b7 HL b9 ay lg2 hpx
      obtain ⟨c, hc⟩ : ∃ c, c = crR t ps k := ⟨_, rfl⟩
      rw [← hc] at hB xp ay ad lf lg2 r3 b9 b10 b11 b12 HL HC HOO C1 C1L C2L CO1 CL1
      obtain ⟨c1, hc1⟩ : ∃ c1, c1 = c1Of t c := ⟨_, rfl⟩
      rw [← hc1] at xp ay
      obtain ⟨c2, hc2⟩ : ∃ c2, c2 = c2Of t ps c k := ⟨_, rfl⟩
      rw [← hc2] at ay ad HOO
      obtain ⟨c3, hc3⟩ : ∃ c3, c3 = c3Of t ps c k := ⟨_, rfl⟩
      rw [← hc3] at lf HL HC HOO
      obtain ⟨Pk, hPk⟩ : ∃ y, y = pkA ps k t.d.z := ⟨_, rfl⟩
      rw [← hPk] at pka lg1 ht1 b1 b2
      obtain ⟨Bl, hBl⟩ : ∃ y, y = blOf t ps k := ⟨_, rfl⟩
      rw [← hBl] at lg1 r1 b3 b4 HL
      obtain ⟨En, hEn⟩ : ∃ y, y = enOf t x := ⟨_, rfl⟩
      rw [← hEn] at ep ay lg2 b6 b9 HL
      obtain ⟨Pw, hPw⟩ : ∃ y, y = pwOf t ps k := ⟨_, rfl⟩
      rw [← hPw] at r1 lg2 b5 HL
      obtain ⟨Pd, hPd⟩ : ∃ y, y = pdOf t ps k := ⟨_, rfl⟩
      rw [← hPd] at r2 ad b8 HL HOO
      obtain ⟨Ex, hEx⟩ : ∃ y, y = exOf t c := ⟨_, rfl⟩
      rw [← hEx] at xp HL
      obtain ⟨Ap, hAp⟩ : ∃ y, y = apOf t ps c k := ⟨_, rfl⟩
      rw [← hAp] at ay lg2 b9 HL
      obtain ⟨Su, hSu⟩ : ∃ y, y = suOf t ps c k := ⟨_, rfl⟩
      rw [← hSu] at lg2 r3 b10 b11 b12 HL
      obtain ⟨Tx, hTx⟩ : ∃ y, y = rnd (Su * t.tax) := ⟨_, rfl⟩
      rw [← hTx] at r3 b12 HL
      obtain ⟨Bk, hBk⟩ : ∃ y, y = c3.sum := ⟨_, rfl⟩
      rw [← hBk] at lf HL
      have hcvl : ∀ j, cv.ownBlock = some j → w1.heap.size + 1 ≤ j ∧ j < wr.heap.size := hB.own.lt
      have hfl : ∀ j, (Value.ownBlock (.slice a0 k cap0)) = some j → w1.heap.size + 1 ≤ j ∧ j < wr.heap.size := hown.lt
      have hcvn : cv.ownBlock ≠ some wr.heap.size := fun e => by have := (hcvl _ e).2; omega
      have hfn : (Value.ownBlock (.slice a0 k cap0)) ≠ some wr.heap.size := fun e => by have := (hfl _ e).2; omega
      have hap := own_apart hown hB.own (by decide)
      have hBl1 := hB.lt
      have HAP := hideF hap
      have HFL := hideF hfl
      have HCVL := hideF hcvl
      have HCL := hideF CL
      have HCL1 := hideF CL1
      have HUr := hideF Ur
      have HHB := hideF hB
      have HTR := hideF TRr
      have hw0 : w.heap.size + 1 < wr.heap.size := by omega
      clear hx hc hc1 hc2 hc3 hPk hBl hEn hPw hPd hEx hAp hSu hTx hBk CO LB LC C1 C1L C2L CO1 CL CL1 hap hfl hcvl TRr Ur
      go_wp2_with fail
      go_region_held3 (fun w' => w'.cell? ⟨gu, k * 5, none⟩ = some (.int .i64 x.i0) ∧ w'.cell? ⟨gu, k * 5 + 1, none⟩ = some (.int .i64 x.i1) ∧ w'.cell? ⟨gu, k * 5 + 2, none⟩ = some (.int .i64 x.i2) ∧ w'.cell? ⟨gu, k * 5 + 3, none⟩ = some (.int .i64 x.o) ∧ w'.cell? ⟨gu, k * 5 + 4, none⟩ = some (.int .i64 x.pk))
        (simp [go_sem, *])
        (fail)
      all_goals
        go_wp2_with (first
          | (at_builtin; have _ := B5; refine wpList_append_own _ rfl _ _ 50 rfl (w1.heap.size + 1) 94 i0 (.agg #[.int .i64 0, .int .i64 0, .int .i64 0, .int .i64 0, .int .i64 0, .int .i64 0, .int .i64 0, .int .i64 0, .int .i64 0, .int .i64 0, .int .i64 0, .int .i64 0, .int .i64 0, .int .i64 0, .int .i64 0]) 15 120 Tryz.underlying50 hi hz0 hz1 hz2 rfl (by decide) _ _ _ rfl (OF.alloc _) ⟨w5.heap.size, 0, none⟩ 1 1 (lcell ⟨x.i0, x.i1, x.i2, x.o, x.pk, Bl, En, Pw, Ap, Ex, Pd, Bk, Su, Tx, Su + Tx⟩) rfl rfl (by intro j u hj; have := LR_cell ((((w5.setCell ⟨wr.heap.size, 11, none⟩ (.int .i64 Bk)).setCell ⟨wr.heap.size, 12, none⟩ (.int .i64 Su)).setCell ⟨wr.heap.size, 13, none⟩ (.int .i64 Tx)).setCell ⟨wr.heap.size, 14, none⟩ (.int .i64 (Su + Tx))) ⟨x.i0, x.i1, x.i2, x.o, x.pk, Bl, En, Pw, Ap, Ex, Pd, Bk, Su, Tx, Su + Tx⟩ j u hj; simpa using this) (fun y hy => by simp [lcell] at hy; rcases hy with rfl | rfl | rfl | rfl | rfl | rfl | rfl | rfl | rfl | rfl | rfl | rfl | rfl | rfl | rfl <;> rfl) (by unfold maxLen; omega) (by omega) (by simp; omega) ?_; intro v' w6 own6 g6 nil6; obtain ⟨a6, cap6, rfl⟩ := own_slice own6)
          | (go_at_call 32; refine (lf _ _ k5).mono ?_; rintro e w7 ⟨rfl, h7⟩; have h8 := h7.symm; subst h8)
          | (go_at_call 26; have _ := B5; refine (lg2 _).mono ?_; rintro e w7 ⟨rfl, h7⟩; have h8 := h7.symm; subst h8)
          | (go_at_call 28; have _ := B5; refine (r3 _).mono ?_; rintro e w7 ⟨rfl, h7⟩; have h8 := h7.symm; subst h8)
          | (go_at_call 31; refine (ad _ K4).mono ?_; rintro e w5 ⟨rfl, cv5, k5', s5, blk5, o5, tp5, ou5⟩; have L5 : LR w5 wr.heap.size ⟨x.i0, x.i1, x.i2, x.o, x.pk, Bl, En, Pw, Ap, Ex, Pd, 0, 0, 0, 0⟩ := (blk5 wr.heap.size L4x.lt (by omega) (fun e => hcvn e.symm)).trans L4x; have O5 := own_blk O4x (fun j hj => blk5 j (O4x.lt j hj).2 (by have := (HFL.out j hj).1; omega) (fun e => HAP.out j hj e.symm)); have B5 : Below w1.heap.size w1 w5 := B4x.trans ⟨o5, tp5, ou5, s5, fun j hj => blk5 j (by have := B4x.size; omega) (by omega) (fun e => by have := (HCVL.out j e.symm).1; omega)⟩; have k5 : BankAt w5 (w1.heap.size + 1) w1.heap.size cv5 c3 := (by rw [HOO.out]; exact k5'); have N5 : cv5.ownBlock ≠ some wr.heap.size := L5.apart k5.own (by decide); have A5 := own_apart O5 k5.own (by decide); have LF : LR ((((w5.setCell ⟨wr.heap.size, 11, none⟩ (.int .i64 Bk)).setCell ⟨wr.heap.size, 12, none⟩ (.int .i64 Su)).setCell ⟨wr.heap.size, 13, none⟩ (.int .i64 Tx)).setCell ⟨wr.heap.size, 14, none⟩ (.int .i64 (Su + Tx))) wr.heap.size ⟨x.i0, x.i1, x.i2, x.o, x.pk, Bl, En, Pw, Ap, Ex, Pd, Bk, Su, Tx, Su + Tx⟩ := LR.to (LR.tx (LR.su (LR.bk L5 Bk) Su) Tx) (Su + Tx); have OF := own_far (own_far (own_far (own_far O5 hfn 11 (.int .i64 Bk)) hfn 12 (.int .i64 Su)) hfn 13 (.int .i64 Tx)) hfn 14 (.int .i64 (Su + Tx)); have e6 : w5.cell? ⟨wr.heap.size, 6, none⟩ = some (.int .i64 En) := L5.c6; have ef6 : w5.frozen? ⟨wr.heap.size, 6, none⟩ = false := L5.frz 6; have e7 : w5.cell? ⟨wr.heap.size, 7, none⟩ = some (.int .i64 Pw) := L5.c7; have ef7 : w5.frozen? ⟨wr.heap.size, 7, none⟩ = false := L5.frz 7; have e8 : w5.cell? ⟨wr.heap.size, 8, none⟩ = some (.int .i64 Ap) := L5.c8; have ef8 : w5.frozen? ⟨wr.heap.size, 8, none⟩ = false := L5.frz 8; have e11 : w5.cell? ⟨wr.heap.size, 11, none⟩ = some (.int .i64 0) := L5.c11; have ef11 : w5.frozen? ⟨wr.heap.size, 11, none⟩ = false := L5.frz 11; have e12 : w5.cell? ⟨wr.heap.size, 12, none⟩ = some (.int .i64 0) := L5.c12; have ef12 : w5.frozen? ⟨wr.heap.size, 12, none⟩ = false := L5.frz 12; have e13 : w5.cell? ⟨wr.heap.size, 13, none⟩ = some (.int .i64 0) := L5.c13; have ef13 : w5.frozen? ⟨wr.heap.size, 13, none⟩ = false := L5.frz 13; have e14 : w5.cell? ⟨wr.heap.size, 14, none⟩ = some (.int .i64 0) := L5.c14; have ef14 : w5.frozen? ⟨wr.heap.size, 14, none⟩ = false := L5.frz 14; have T5 : TR w5 (w.heap.size + 1) t := (B5.block (w.heap.size + 1) (by omega)).trans MT1; have et31 : w5.cell? ⟨w.heap.size + 1, 31, none⟩ = some (.int .i64 t.fix) := T5.c31; have et32 : w5.cell? ⟨w.heap.size + 1, 32, none⟩ = some (.int .i64 t.min) := T5.c32; have et33 : w5.cell? ⟨w.heap.size + 1, 33, none⟩ = some (.int .i64 t.tax) := T5.c33; have e0 : w5.cell? ⟨wr.heap.size, 0, none⟩ = some (.int .i64 x.i0) := L5.c0; have e1 : w5.cell? ⟨wr.heap.size, 1, none⟩ = some (.int .i64 x.i1) := L5.c1; have e2 : w5.cell? ⟨wr.heap.size, 2, none⟩ = some (.int .i64 x.i2) := L5.c2; have e3 : w5.cell? ⟨wr.heap.size, 3, none⟩ = some (.int .i64 x.o) := L5.c3; have e4 : w5.cell? ⟨wr.heap.size, 4, none⟩ = some (.int .i64 x.pk) := L5.c4; have e5 : w5.cell? ⟨wr.heap.size, 5, none⟩ = some (.int .i64 Bl) := L5.c5; have e9 : w5.cell? ⟨wr.heap.size, 9, none⟩ = some (.int .i64 Ex) := L5.c9; have e10 : w5.cell? ⟨wr.heap.size, 10, none⟩ = some (.int .i64 Pd) := L5.c10; have hl5 := L5.lt; clear blk5 k5' L4x O4x B4x K4)
          | (go_at_call 30; refine (ay _ K3).mono ?_; rintro e w4 ⟨rfl, g4, k4⟩; have L4 : LR w4 wr.heap.size ⟨x.i0, x.i1, x.i2, x.o, x.pk, Bl, En, Pw, 0, Ex, Pd, 0, 0, 0, 0⟩ := (g4.block wr.heap.size L3x.lt (fun e => hcvn e.symm)).trans L3x; have O4 := O3x.kept g4 (own_ne HAP.out); have B4 : Below w1.heap.size w1 w4 := Below.grown B3x g4 (by have := B3x.size; omega) (fun j hj => by have := (HCVL.out j hj).1; omega); have K4 := BankAt.far k4 (show ¬ w1.heap.size = wr.heap.size by omega) hcvn 8 (.int .i64 Ap); have L4x := LR.ap L4 Ap; have O4x := own_far O4 hfn 8 (.int .i64 Ap); have B4x : Below w1.heap.size w1 (w4.setCell ⟨wr.heap.size, 8, none⟩ (.int .i64 Ap)) := Below.setCell B4 (show w1.heap.size ≤ wr.heap.size by omega) _; have d8 : w4.cell? ⟨wr.heap.size, 8, none⟩ = some (.int .i64 0) := L4.c8; have df8 : w4.frozen? ⟨wr.heap.size, 8, none⟩ = false := L4.frz 8; have d10 : w4.cell? ⟨wr.heap.size, 10, none⟩ = some (.int .i64 Pd) := L4.c10; have df10 : w4.frozen? ⟨wr.heap.size, 10, none⟩ = false := L4.frz 10; have hl4 := L4.lt; clear g4 k4 L3x O3x B3x K3)
          | (go_at_call 29; refine (xp _ (HHB.out.below E3)).mono ?_; rintro e w3 ⟨rfl, g3, k3⟩; have L3 : LR w3 wr.heap.size ⟨x.i0, x.i1, x.i2, x.o, x.pk, Bl, En, Pw, 0, 0, Pd, 0, 0, 0, 0⟩ := (g3.block wr.heap.size L2x.lt (fun e => hcvn e.symm)).trans L2x; have O3 := (own_below hown E3).kept g3 (own_ne HAP.out); have B3 : Below w1.heap.size w1 w3 := Below.grown (below_then hb E3) g3 (by have := E3.size; omega) (fun j hj => by have := (HCVL.out j hj).1; omega); have K3 := BankAt.far k3 (show ¬ w1.heap.size = wr.heap.size by omega) hcvn 9 (.int .i64 Ex); have L3x := LR.ex L3 Ex; have O3x := own_far O3 hfn 9 (.int .i64 Ex); have B3x : Below w1.heap.size w1 (w3.setCell ⟨wr.heap.size, 9, none⟩ (.int .i64 Ex)) := Below.setCell B3 (show w1.heap.size ≤ wr.heap.size by omega) _; have c6 : w3.cell? ⟨wr.heap.size, 6, none⟩ = some (.int .i64 En) := L3.c6; have cf6 : w3.frozen? ⟨wr.heap.size, 6, none⟩ = false := L3.frz 6; have c9 : w3.cell? ⟨wr.heap.size, 9, none⟩ = some (.int .i64 0) := L3.c9; have cf9 : w3.frozen? ⟨wr.heap.size, 9, none⟩ = false := L3.frz 9; have hl3 := L3.lt; clear g3 k3 E3 L2x)
          | (go_at_call 28; have _ := mk1; refine (r2 _).mono ?_; rintro e w7 ⟨rfl, h7⟩; have h8 := h7.symm; subst h8)
          | (go_at_call 28; refine (r1 _).mono ?_; rintro e w7 ⟨rfl, h7⟩; have h8 := h7.symm; subst h8; have mk1 := True.intro)
          | (go_at_call 27; refine (ep _).mono ?_; rintro e w2 ⟨rfl, hb2⟩; have L2 : LR w2 wr.heap.size ⟨x.i0, x.i1, x.i2, x.o, x.pk, Bl, 0, 0, 0, 0, 0, 0, 0, 0, 0⟩ := (hb2.block wr.heap.size (by simp)).trans (LR.bl (LR.drewN (LR_new wr ⟨x.i0, x.i1, x.i2, x.o, x.pk, 0, 0, 0, 0, 0, 0, 0, 0, 0, 0⟩) _) Bl); have R2 : Below wr.heap.size wr w2 := below_then (by repeat (first | refine Below.setCell ?_ (by simp) _ | refine below_drewN ?_ _ | refine below_more ?_ _ | refine Below.drew ?_ | exact Below.refl _ _)) hb2; clear hb2; have E3 : Below wr.heap.size wr (((w2.setCell ⟨wr.heap.size, 6, none⟩ (.int .i64 En)).setCell ⟨wr.heap.size, 7, none⟩ (.int .i64 Pw)).setCell ⟨wr.heap.size, 10, none⟩ (.int .i64 Pd)) := Below.setCell (Below.setCell (Below.setCell R2 (Nat.le_refl wr.heap.size) _) (Nat.le_refl wr.heap.size) _) (Nat.le_refl wr.heap.size) _; have L2x : LR (((w2.setCell ⟨wr.heap.size, 6, none⟩ (.int .i64 En)).setCell ⟨wr.heap.size, 7, none⟩ (.int .i64 Pw)).setCell ⟨wr.heap.size, 10, none⟩ (.int .i64 Pd)) wr.heap.size ⟨x.i0, x.i1, x.i2, x.o, x.pk, Bl, En, Pw, 0, 0, Pd, 0, 0, 0, 0⟩ := LR.pd (LR.pw (LR.en L2 En) Pw) Pd; have b3 : w2.cell? ⟨wr.heap.size, 3, none⟩ = some (.int .i64 x.o) := L2.c3; have bf3 : w2.frozen? ⟨wr.heap.size, 3, none⟩ = false := L2.frz 3; have b5 : w2.cell? ⟨wr.heap.size, 5, none⟩ = some (.int .i64 Bl) := L2.c5; have bf5 : w2.frozen? ⟨wr.heap.size, 5, none⟩ = false := L2.frz 5; have b6 : w2.cell? ⟨wr.heap.size, 6, none⟩ = some (.int .i64 0) := L2.c6; have bf6 : w2.frozen? ⟨wr.heap.size, 6, none⟩ = false := L2.frz 6; have b7 : w2.cell? ⟨wr.heap.size, 7, none⟩ = some (.int .i64 0) := L2.c7; have bf7 : w2.frozen? ⟨wr.heap.size, 7, none⟩ = false := L2.frz 7; have b10 : w2.cell? ⟨wr.heap.size, 10, none⟩ = some (.int .i64 0) := L2.c10; have bf10 : w2.frozen? ⟨wr.heap.size, 10, none⟩ = false := L2.frz 10; have T2 : TR w2 (w.heap.size + 1) t := (R2.block (w.heap.size + 1) hw0).trans HTR.out; have bt26 : w2.cell? ⟨w.heap.size + 1, 26, none⟩ = some (.int .i64 t.d.x) := T2.c26; have bt29 : w2.cell? ⟨w.heap.size + 1, 29, none⟩ = some (.int .i64 t.np) := T2.c29; have bt30 : w2.cell? ⟨w.heap.size + 1, 30, none⟩ = some (.int .i64 t.nn) := T2.c30; have hl2 := L2.lt)
          | (go_at_call 26; refine (lg1 _).mono ?_; rintro e w7 ⟨rfl, h7⟩; have h8 := h7.symm; subst h8)
          | (go_at_call 25; refine (pka _ (HUr.out.below (by repeat (first | refine Below.setCell ?_ (by simp) _ | refine below_drewN ?_ _ | refine below_more ?_ _ | refine Below.drew ?_ | exact Below.refl _ _)))).mono ?_; rintro e w9 ⟨rfl, n1, rfl⟩))
        go_roundw
        case rel =>
          refine ⟨k + 1, cv5, by go_num, by omega, ?_, ?_, ?_⟩
          · rw [HLN.out, lcs_snoc, HL.out]; exact own6
          · rw [HC.out]
            exact (BankAt.below (BankAt.far (BankAt.far (BankAt.far (BankAt.far k5 (show ¬ w1.heap.size = wr.heap.size by omega) N5 11 (.int .i64 Bk)) (show ¬ w1.heap.size = wr.heap.size by omega) N5 12 (.int .i64 Su)) (show ¬ w1.heap.size = wr.heap.size by omega) N5 13 (.int .i64 Tx)) (show ¬ w1.heap.size = wr.heap.size by omega) N5 14 (.int .i64 (Su + Tx))) (below_more (Below.refl _ _) _)).kept g6 (fun e => by have := (HFL.out _ e.symm).1; omega) (own_ne' A5)
          · exact Below.grown (below_more (Below.setCell (Below.setCell (Below.setCell (Below.setCell B5 (show w1.heap.size ≤ wr.heap.size by omega) _) (show w1.heap.size ≤ wr.heap.size by omega) _) (show w1.heap.size ≤ wr.heap.size by omega) _) (show w1.heap.size ≤ wr.heap.size by omega) _) _) g6 (by simp; omega) (fun j hj => by have := (HFL.out j hj).1; omega)
        case measure => simp [intOf]; omega
    · have hlt' : ¬ (k : Int) < (ps.length : Int) := by omega
      have hke : k = ps.length := by omega
      subst hke
      go_wp2_with fail
      exact bodyPost_ret (v := .tuple #[.slice a0 ps.length cap0, .int .i64 0, .int .i64 0]) (by simp [results, Tryz.results9, go_sem]) rfl ⟨_, rfl, own_base hown (by omega), below_then BW hb⟩

end Go.Proofs.YtjaffmmocbplaabGreatDoor
