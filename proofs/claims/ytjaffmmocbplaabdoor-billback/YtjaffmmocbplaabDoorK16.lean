/-
  BnkX, BilW in one text.
-/
import Derived.Test.YtjaffmmocbplaabDoorK15
import Derived.Deep.RegionHeld3
namespace Go.Proofs.YtjaffmmocbplaabDoor
open Go.RowKit Bil
set_option linter.unusedVariables false
attribute [local go_sem ↓] Go.wp_at_zero Go.wp_at_succ

theorem pAt_get {ps : List Per} {k : Nat} (h : k < ps.length) : ps[k]? = some (pAt ps k) := by simp [pAt, h]

set_option maxHeartbeats 1000000 in
theorem peakAhead_any (ps : List Per) (v : Value) (i : Nat) (q : Int) (w : World) (h : PRow w v ps) (hi : i ≤ ps.length) (hl : ps.length ≤ 40000) (q0 : 0 ≤ q) (q1 : q ≤ 12) :
    Calls Tryd.prog 36 #[v, .int .i64 i, .int .i64 q] w fun e w' => e = .returned (.int .i64 (pkA ps i q)) ∧ ∃ n, w' = w.drewN n := by
  obtain ⟨a, cap, rfl⟩ := h.form
  obtain ⟨f, hf⟩ : ∃ f, f = from0 i q := ⟨_, rfl⟩
  have HP : Hid (pkA ps i q = pkR ps f (i - f)) := by rw [hf]; rfl
  have hfi : f ≤ i := by rw [hf]; unfold from0; omega
  have hmx : mx ((i : Int) - q) 0 = (f : Int) := by rw [hf]; unfold from0 mx; split <;> omega
  have lg : ∀ w, Calls Tryd.prog 37 #[.int .i64 ((i : Int) - q), .int .i64 0] w fun e w' => e = .returned (.int .i64 f) ∧ w' = w := fun w => by rw [← hmx]; exact larger_any _ _ w
  clear hf hmx
  go_enter Tryd.func36, Tryd.ntmps36
  go_wp2_with (go_at_call 37; refine (lg _).mono ?_; rintro e w7 ⟨rfl, h7⟩; have h8 := h7.symm; subst h8)
  go_loopw [7, 8] (fun x p wr => ∃ k : Nat, p = .int .i64 ((f + k : Nat) : Int) ∧ f + k ≤ i ∧ x = .int .i64 (pkR ps f k) ∧ ∃ n, wr = w.drewN n) (fun _ p _ => i - (intOf p).toNat)
  case atStart => exact ⟨0, rfl, by omega, rfl, 0, rfl⟩
  case round =>
    obtain ⟨k, rfl, hk, rfl, n, rfl⟩ := hrel
    by_cases hlt : f + k < i
    · have hlt' : ((f + k : Nat) : Int) < (i : Int) := by omega
      obtain ⟨b, rfl, hcap, hblt, c0, c1, c2, c3, c4⟩ := h.at (pAt_get (show f + k < ps.length by omega))
      have hk0 : (0 : Int) ≤ ((f + k : Nat) : Int) := by omega
      have hkl : ((f + k : Nat) : Int) < (ps.length : Int) := by omega
      have hcap' : (ps.length : Int) ≤ (cap : Int) := by omega
      have HS : Hid (pkR ps f (k + 1) = mx (pkR ps f k) (pAt ps (f + k)).pk) := rfl
      have lg2 := fun w => larger_any (pkR ps f k) (pAt ps (f + k)).pk w
      obtain ⟨K, hK⟩ : ∃ K, K = f + k := ⟨_, rfl⟩
      have HK := hideF hK
      rw [← hK] at hlt' c0 c1 c2 c3 c4 hk0 hkl HS lg2
      rw [← hK]
      clear hK lg
      go_wp2_with (go_at_call 37; refine (lg2 _).mono ?_; rintro e w7 ⟨rfl, h7⟩; have h8 := h7.symm; subst h8)
      go_roundw
      case rel => exact ⟨k + 1, by have := HK.out; go_num, by omega, by rw [HS.out], n, rfl⟩
      case measure => have := HK.out; simp [intOf]; omega
    · have hlt' : ¬ ((f + k : Nat) : Int) < (i : Int) := by omega
      have hke : k = i - f := by omega
      have HK := hideF hke
      clear hke
      go_wp2_with fail
      go_ret
      exact ⟨ret_int (by rw [HP.out, HK.out]), n, rfl⟩

def prK (t : Trf) (p : Per) : Nat → Int
  | 0 => 0
  | 1 => 0 + lowP p.i0 t.b0 + hiP p.i0 t.b0
  | 2 => 0 + lowP p.i0 t.b0 + hiP p.i0 t.b0 + lowP p.i1 t.b1 + hiP p.i1 t.b1
  | _ => enOf t p
def clsI (p : Per) (k : Nat) : Int := if k = 0 then p.i0 else if k = 1 then p.i1 else p.i2
def clsB2 (t : Trf) (k : Nat) : Blk := if k = 0 then t.b0 else if k = 1 then t.b1 else t.b2
theorem prK_succ (t : Trf) (p : Per) {k : Nat} (hk : k < 3) : prK t p (k + 1) = prK t p k + lowP (clsI p k) (clsB2 t k) + hiP (clsI p k) (clsB2 t k) := by
  rcases (by omega : k = 0 ∨ k = 1 ∨ k = 2) with rfl | rfl | rfl <;> rfl
theorem cls_ok {t : Trf} {p : Per} (ht : OkT t) (hp : okP p 200) (k : Nat) : CkB (clsI p k) (clsB2 t k) := by
  simp only [okP] at hp
  refine ckB (by unfold okI clsI; (repeat' split) <;> omega) ?_
  unfold clsB2
  split
  · exact ht.a0
  · split
    · exact ht.a1
    · exact ht.a2
theorem prK_bd {t : Trf} {p : Per} (ht : OkT t) (hp : okP p 200) : ∀ k, k ≤ 3 → 0 ≤ prK t p k ∧ prK t p k ≤ k * 20000100000002
  | 0, _ => by show (0 : Int) ≤ 0 ∧ (0 : Int) ≤ _; omega
  | k + 1, hk => by
    have a := prK_bd ht hp k (by omega)
    have b := cls_ok ht hp k
    have := b.lp
    have := b.hp
    rw [prK_succ t p (by omega)]; omega

set_option maxRecDepth 100000 in
set_option maxHeartbeats 2000000 in
theorem energyPrice_any (t : Trf) (p : Per) (w : World) (ht : OkT t) (hp : okP p 200) :
    Calls Tryd.prog 38 #[.agg #[.int .i64 p.i0, .int .i64 p.i1, .int .i64 p.i2], .agg #[.int .i64 t.b0.x, .int .i64 t.b0.y, .int .i64 t.b0.z, .int .i64 t.b1.x, .int .i64 t.b1.y, .int .i64 t.b1.z, .int .i64 t.b2.x, .int .i64 t.b2.y, .int .i64 t.b2.z]] w fun e w' => e = .returned (.int .i64 (enOf t p)) ∧ Below w.heap.size w w' := by
  have BD := hideF (fun k (hk : k ≤ 3) => prK_bd ht hp k hk)
  have CK := hideF (fun k => cls_ok ht hp k)
  have HE : Hid (enOf t p = prK t p 3) := rfl
  rw [HE.out]
  clear ht hp
  go_enter Tryd.func38, Tryd.ntmps38
  go_wp2_with fail
  obtain ⟨W0, hW0⟩ : ∃ W0, W0 = (w.alloc (.cells #[.int .i64 p.i0, .int .i64 p.i1, .int .i64 p.i2] 30)).alloc (.cells #[.int .i64 t.b0.x, .int .i64 t.b0.y, .int .i64 t.b0.z, .int .i64 t.b1.x, .int .i64 t.b1.y, .int .i64 t.b1.z, .int .i64 t.b2.x, .int .i64 t.b2.y, .int .i64 t.b2.z] 48) := ⟨_, rfl⟩
  have HW0 := hideF hW0
  have B0 : Below w.heap.size w W0 := by rw [hW0]; exact below_more (below_more (Below.refl _ _) _) _
  have z0 : W0.heap.size = w.heap.size + 2 := by rw [hW0]; simp
  have CI : Hid (∀ k, k < 3 → W0.cell? ⟨w.heap.size, k, none⟩ = some (.int .i64 (clsI p k))) := fun k hk => by
    rw [hW0]; rcases (by omega : k = 0 ∨ k = 1 ∨ k = 2) with rfl | rfl | rfl <;> simp [go_sem, clsI]
  have CB : Hid (∀ k, k < 3 → W0.cell? ⟨w.heap.size + 1, k * 3, none⟩ = some (.int .i64 (clsB2 t k).x) ∧ W0.cell? ⟨w.heap.size + 1, k * 3 + 1, none⟩ = some (.int .i64 (clsB2 t k).y) ∧ W0.cell? ⟨w.heap.size + 1, k * 3 + 2, none⟩ = some (.int .i64 (clsB2 t k).z)) := fun k hk => by
    rw [hW0]; rcases (by omega : k = 0 ∨ k = 1 ∨ k = 2) with rfl | rfl | rfl <;> simp [go_sem, clsB2]
  clear hW0
  go_loopw [5, 6] (fun x i wr => ∃ k : Nat, i = .int .i64 k ∧ k ≤ 3 ∧ x = .int .i64 (prK t p k) ∧ Below W0.heap.size W0 wr) (fun _ i _ => 3 - (intOf i).toNat)
  case atStart => exact ⟨0, rfl, by omega, rfl, by rw [HW0.out]; exact Below.refl _ _⟩
  case round =>
    obtain ⟨k, rfl, hk, rfl, hb⟩ := hrel
    have S0 := BD.out k hk
    by_cases hlt : k < 3
    · have hlt' : (k : Int) < 3 := by omega
      have hk0 : (0 : Int) ≤ (k : Int) := by omega
      have c0 := vcell_below hb (show w.heap.size < W0.heap.size by omega) (CI.out k hlt)
      obtain ⟨d0', d1', d2'⟩ := CB.out k hlt
      have d0 := vcell_below hb (show w.heap.size + 1 < W0.heap.size by omega) d0'
      have d1 := vcell_below hb (show w.heap.size + 1 < W0.heap.size by omega) d1'
      have d2 := vcell_below hb (show w.heap.size + 1 < W0.heap.size by omega) d2'
      clear d0' d1' d2'
      have HS : Hid (prK t p (k + 1) = prK t p k + rnd (mn (clsI p k) (clsB2 t k).x * (clsB2 t k).y) + rnd ((clsI p k - mn (clsI p k) (clsB2 t k).x) * (clsB2 t k).z)) := prK_succ t p hlt
      obtain ⟨ki, km, kl, kh, klp, khp⟩ := CK.out k
      unfold lowP at klp
      unfold hiP at khp
      obtain ⟨X, hX⟩ : ∃ X, X = clsI p k := ⟨_, rfl⟩
      obtain ⟨Q, hQ⟩ : ∃ Q, Q = clsB2 t k := ⟨_, rfl⟩
      rw [← hX] at c0 HS ki km kl kh klp khp
      rw [← hQ] at d0 d1 d2 HS km kl kh klp khp
      obtain ⟨qx, qy, qz⟩ := Q
      simp only at d0 d1 d2 HS km kl kh klp khp
      have sm := fun w => smaller_any X qx w
      obtain ⟨Z, hZ⟩ : ∃ Z, Z = mn X qx := ⟨_, rfl⟩
      rw [← hZ] at HS km kl kh klp khp sm
      have r1 := fun w => rounded_any (Z * qy) w kl.1 (by omega)
      have r2 := fun w => rounded_any ((X - Z) * qz) w kh.1 (by omega)
      obtain ⟨R1, hR1⟩ : ∃ R1, R1 = rnd (Z * qy) := ⟨_, rfl⟩
      obtain ⟨R2, hR2⟩ : ∃ R2, R2 = rnd ((X - Z) * qz) := ⟨_, rfl⟩
      rw [← hR1] at HS klp r1
      rw [← hR2] at HS khp r2
      obtain ⟨Y, hY⟩ : ∃ Y, Y = prK t p k := ⟨_, rfl⟩
      rw [← hY] at S0 HS
      rw [← hY]
      have kw1 : IntKind.i64.wrap (X - Z) = X - Z := Go.IntWalk.i64_in _ (by omega)
      have kw2 : IntKind.i64.wrap ((X - Z) * qz) = (X - Z) * qz := Go.IntWalk.i64_in _ (by omega)
      have kw3 : IntKind.i64.wrap (Y + R1 + R2) = Y + R1 + R2 := Go.IntWalk.i64_in _ (by omega)
      have kw4 : IntKind.i64.wrap (Z * qy) = Z * qy := Go.IntWalk.i64_in _ (by omega)
      clear hX hQ hZ hR1 hR2 hY
      go_wp2_with fail
      go_quiet ((go_at_call 64; exact Calls.quiet_of_same (sm _)))
      go_wp2_with (go_at_call 39; refine (r1 _).mono ?_; rintro e w7 ⟨rfl, h7⟩; have h8 := h7.symm; subst h8)
      have hbq := below_drewN hb nq
      obtain ⟨wx, hwx⟩ : ∃ wx, wx = wr.drewN nq := ⟨_, rfl⟩
      have e0 : wx.cell? ⟨w.heap.size, k, none⟩ = some (.int .i64 X) := by rw [hwx]; exact c0
      have e2 : wx.cell? ⟨w.heap.size + 1, k * 3 + 2, none⟩ = some (.int .i64 qz) := by rw [hwx]; exact d2
      rw [← hwx] at hbq ⊢
      clear hwx c0 d0 d1 d2 hb
      go_quiet ((go_at_call 39; exact Calls.quiet_of_same (r2 _)))
      go_wp2_with fail
      go_roundw
      case rel => exact ⟨k + 1, by go_num, by omega, by rw [HS.out], by first | exact hbq | exact below_drewN hbq _⟩
      case measure => simp [intOf]; omega
    · have hlt' : ¬ (k : Int) < 3 := by omega
      have hke : k = 3 := by omega
      have HK := hideF hke
      clear hke
      go_wp2_with fail
      go_ret
      exact ⟨ret_int (by rw [HK.out]), below_then B0 hb⟩

end Go.Proofs.YtjaffmmocbplaabDoor

namespace Go.Proofs.YtjaffmmocbplaabDoor
open Go.RowKit Bil
set_option linter.unusedVariables false

theorem infoLn : (Tryd.prog.info? 32).map (fun i => (i.zero, i.size, i.bytes)) = some (some (.agg #[.int .i64 0, .int .i64 0, .int .i64 0, .int .i64 0, .int .i64 0, .int .i64 0, .int .i64 0, .int .i64 0, .int .i64 0, .int .i64 0, .int .i64 0, .int .i64 0, .int .i64 0, .int .i64 0, .int .i64 0]), 15, 120) := by kernel_rfl
def lcell (x : Ln) : List Value := [.int .i64 x.i0, .int .i64 x.i1, .int .i64 x.i2, .int .i64 x.o, .int .i64 x.pk, .int .i64 x.bl, .int .i64 x.en, .int .i64 x.pw, .int .i64 x.ap, .int .i64 x.ex, .int .i64 x.pd, .int .i64 x.bk, .int .i64 x.su, .int .i64 x.tx, .int .i64 x.to]
def lcs (l : List Ln) : List Value := l.flatMap lcell
theorem lcs_snoc (l : List Ln) (x : Ln) : lcs (l ++ [x]) = lcs l ++ lcell x := by simp [lcs]
theorem lcs_length (l : List Ln) : (lcs l).length = l.length * 15 := by
  induction l with
  | nil => rfl
  | cons x l ih => show (lcell x ++ lcs l).length = _; rw [List.length_append, ih]; simp [lcell]; omega
/-- the line under way, in block b -/
def LR (w : World) (b : Nat) (x : Ln) : Prop := w.heap[b]? = some (.cells #[.int .i64 x.i0, .int .i64 x.i1, .int .i64 x.i2, .int .i64 x.o, .int .i64 x.pk, .int .i64 x.bl, .int .i64 x.en, .int .i64 x.pw, .int .i64 x.ap, .int .i64 x.ex, .int .i64 x.pd, .int .i64 x.bk, .int .i64 x.su, .int .i64 x.tx, .int .i64 x.to] 32 (0, 0))
theorem LR.put {w : World} {b : Nat} {x : Ln} (h : LR w b x) (j : Nat) (u : Value) : (w.setCell ⟨b, j, none⟩ u).heap[b]? = some (.cells ((#[.int .i64 x.i0, .int .i64 x.i1, .int .i64 x.i2, .int .i64 x.o, .int .i64 x.pk, .int .i64 x.bl, .int .i64 x.en, .int .i64 x.pw, .int .i64 x.ap, .int .i64 x.ex, .int .i64 x.pd, .int .i64 x.bk, .int .i64 x.su, .int .i64 x.tx, .int .i64 x.to] : Array Value).setIfInBounds j u) 32 (0, 0)) := heap_setCell_same w b j _ _ u h
theorem LR.i0 {w : World} {b : Nat} {x : Ln} (h : LR w b x) (v : Int) : LR (w.setCell ⟨b, 0, none⟩ (.int .i64 v)) b { x with i0 := v } := h.put 0 _
theorem LR.i1 {w : World} {b : Nat} {x : Ln} (h : LR w b x) (v : Int) : LR (w.setCell ⟨b, 1, none⟩ (.int .i64 v)) b { x with i1 := v } := h.put 1 _
theorem LR.i2 {w : World} {b : Nat} {x : Ln} (h : LR w b x) (v : Int) : LR (w.setCell ⟨b, 2, none⟩ (.int .i64 v)) b { x with i2 := v } := h.put 2 _
theorem LR.o {w : World} {b : Nat} {x : Ln} (h : LR w b x) (v : Int) : LR (w.setCell ⟨b, 3, none⟩ (.int .i64 v)) b { x with o := v } := h.put 3 _
theorem LR.pk {w : World} {b : Nat} {x : Ln} (h : LR w b x) (v : Int) : LR (w.setCell ⟨b, 4, none⟩ (.int .i64 v)) b { x with pk := v } := h.put 4 _
theorem LR.bl {w : World} {b : Nat} {x : Ln} (h : LR w b x) (v : Int) : LR (w.setCell ⟨b, 5, none⟩ (.int .i64 v)) b { x with bl := v } := h.put 5 _
theorem LR.en {w : World} {b : Nat} {x : Ln} (h : LR w b x) (v : Int) : LR (w.setCell ⟨b, 6, none⟩ (.int .i64 v)) b { x with en := v } := h.put 6 _
theorem LR.pw {w : World} {b : Nat} {x : Ln} (h : LR w b x) (v : Int) : LR (w.setCell ⟨b, 7, none⟩ (.int .i64 v)) b { x with pw := v } := h.put 7 _
theorem LR.ap {w : World} {b : Nat} {x : Ln} (h : LR w b x) (v : Int) : LR (w.setCell ⟨b, 8, none⟩ (.int .i64 v)) b { x with ap := v } := h.put 8 _
theorem LR.ex {w : World} {b : Nat} {x : Ln} (h : LR w b x) (v : Int) : LR (w.setCell ⟨b, 9, none⟩ (.int .i64 v)) b { x with ex := v } := h.put 9 _
theorem LR.pd {w : World} {b : Nat} {x : Ln} (h : LR w b x) (v : Int) : LR (w.setCell ⟨b, 10, none⟩ (.int .i64 v)) b { x with pd := v } := h.put 10 _
theorem LR.bk {w : World} {b : Nat} {x : Ln} (h : LR w b x) (v : Int) : LR (w.setCell ⟨b, 11, none⟩ (.int .i64 v)) b { x with bk := v } := h.put 11 _
theorem LR.su {w : World} {b : Nat} {x : Ln} (h : LR w b x) (v : Int) : LR (w.setCell ⟨b, 12, none⟩ (.int .i64 v)) b { x with su := v } := h.put 12 _
theorem LR.tx {w : World} {b : Nat} {x : Ln} (h : LR w b x) (v : Int) : LR (w.setCell ⟨b, 13, none⟩ (.int .i64 v)) b { x with tx := v } := h.put 13 _
theorem LR.to {w : World} {b : Nat} {x : Ln} (h : LR w b x) (v : Int) : LR (w.setCell ⟨b, 14, none⟩ (.int .i64 v)) b { x with to := v } := h.put 14 _
theorem LR.drewN {w : World} {b : Nat} {x : Ln} (h : LR w b x) (n : Nat) : LR (w.drewN n) b x := h
theorem LR.lt {w : World} {b : Nat} {x : Ln} (h : LR w b x) : b < w.heap.size := (Array.getElem?_eq_some_iff.1 h).1
theorem LR.of_block {w w' : World} {b : Nat} {x : Ln} (h : LR w b x) (e : w'.heap[b]? = w.heap[b]?) : LR w' b x := e.trans h
theorem LR.c0 {w : World} {b : Nat} {x : Ln} (h : LR w b x) : w.cell? ⟨b, 0, none⟩ = some (.int .i64 x.i0) := cell_of_row _ _ _ _ _ _ h
theorem LR.c1 {w : World} {b : Nat} {x : Ln} (h : LR w b x) : w.cell? ⟨b, 1, none⟩ = some (.int .i64 x.i1) := cell_of_row _ _ _ _ _ _ h
theorem LR.c2 {w : World} {b : Nat} {x : Ln} (h : LR w b x) : w.cell? ⟨b, 2, none⟩ = some (.int .i64 x.i2) := cell_of_row _ _ _ _ _ _ h
theorem LR.c3 {w : World} {b : Nat} {x : Ln} (h : LR w b x) : w.cell? ⟨b, 3, none⟩ = some (.int .i64 x.o) := cell_of_row _ _ _ _ _ _ h
theorem LR.c4 {w : World} {b : Nat} {x : Ln} (h : LR w b x) : w.cell? ⟨b, 4, none⟩ = some (.int .i64 x.pk) := cell_of_row _ _ _ _ _ _ h
theorem LR.c5 {w : World} {b : Nat} {x : Ln} (h : LR w b x) : w.cell? ⟨b, 5, none⟩ = some (.int .i64 x.bl) := cell_of_row _ _ _ _ _ _ h
theorem LR.c6 {w : World} {b : Nat} {x : Ln} (h : LR w b x) : w.cell? ⟨b, 6, none⟩ = some (.int .i64 x.en) := cell_of_row _ _ _ _ _ _ h
theorem LR.c7 {w : World} {b : Nat} {x : Ln} (h : LR w b x) : w.cell? ⟨b, 7, none⟩ = some (.int .i64 x.pw) := cell_of_row _ _ _ _ _ _ h
theorem LR.c8 {w : World} {b : Nat} {x : Ln} (h : LR w b x) : w.cell? ⟨b, 8, none⟩ = some (.int .i64 x.ap) := cell_of_row _ _ _ _ _ _ h
theorem LR.c9 {w : World} {b : Nat} {x : Ln} (h : LR w b x) : w.cell? ⟨b, 9, none⟩ = some (.int .i64 x.ex) := cell_of_row _ _ _ _ _ _ h
theorem LR.c10 {w : World} {b : Nat} {x : Ln} (h : LR w b x) : w.cell? ⟨b, 10, none⟩ = some (.int .i64 x.pd) := cell_of_row _ _ _ _ _ _ h
theorem LR.c11 {w : World} {b : Nat} {x : Ln} (h : LR w b x) : w.cell? ⟨b, 11, none⟩ = some (.int .i64 x.bk) := cell_of_row _ _ _ _ _ _ h
theorem LR.c12 {w : World} {b : Nat} {x : Ln} (h : LR w b x) : w.cell? ⟨b, 12, none⟩ = some (.int .i64 x.su) := cell_of_row _ _ _ _ _ _ h
theorem LR.c13 {w : World} {b : Nat} {x : Ln} (h : LR w b x) : w.cell? ⟨b, 13, none⟩ = some (.int .i64 x.tx) := cell_of_row _ _ _ _ _ _ h
theorem LR.c14 {w : World} {b : Nat} {x : Ln} (h : LR w b x) : w.cell? ⟨b, 14, none⟩ = some (.int .i64 x.to) := cell_of_row _ _ _ _ _ _ h
theorem LR.frz {w : World} {b : Nat} {x : Ln} (h : LR w b x) (j : Nat) : w.frozen? ⟨b, j, none⟩ = false := frozen_of_row _ _ _ _ _ h
theorem LR_new (w : World) (x : Ln) : LR (w.alloc (.cells #[.int .i64 x.i0, .int .i64 x.i1, .int .i64 x.i2, .int .i64 x.o, .int .i64 x.pk, .int .i64 x.bl, .int .i64 x.en, .int .i64 x.pw, .int .i64 x.ap, .int .i64 x.ex, .int .i64 x.pd, .int .i64 x.bk, .int .i64 x.su, .int .i64 x.tx, .int .i64 x.to] 32)) w.heap.size x := heap_alloc_new w _
theorem LR_cell (w : World) (x : Ln) : ∀ j u, (lcell x)[j]? = some u → (w.alloc (.cells #[.int .i64 x.i0, .int .i64 x.i1, .int .i64 x.i2, .int .i64 x.o, .int .i64 x.pk, .int .i64 x.bl, .int .i64 x.en, .int .i64 x.pw, .int .i64 x.ap, .int .i64 x.ex, .int .i64 x.pd, .int .i64 x.bk, .int .i64 x.su, .int .i64 x.tx, .int .i64 x.to] 32)).cell? ((⟨w.heap.size, 0, none⟩ : Addr).add j) = some u := by
  intro j u hj
  have hadd : (⟨w.heap.size, 0, none⟩ : Addr).add j = ⟨w.heap.size, j, none⟩ := by unfold Addr.add; split <;> simp_all
  rw [hadd, cell_of_row _ _ _ _ _ _ (heap_alloc_new _ _), ← hj]
  simp [lcell]
/-- a tariff, in block b: what a bill reads of it -/
def TR (w : World) (b : Nat) (t : Trf) : Prop := w.heap[b]? = some (.cells #[.int .i64 t.z.off, .int .i64 t.z.f.m, .int .i64 t.z.f.w, .int .i64 t.z.f.d, .int .i64 t.z.f.h, .int .i64 t.z.t.m, .int .i64 t.z.t.w, .int .i64 t.z.t.d, .int .i64 t.z.t.h, .int .i64 t.days, .int .i64 t.gap, .int .i64 t.first, .int .i64 t.last, .string t.h0, .string t.h1, .string t.h2, .string t.h3, .int .i64 t.b0.x, .int .i64 t.b0.y, .int .i64 t.b0.z, .int .i64 t.b1.x, .int .i64 t.b1.y, .int .i64 t.b1.z, .int .i64 t.b2.x, .int .i64 t.b2.y, .int .i64 t.b2.z, .int .i64 t.d.x, .int .i64 t.d.y, .int .i64 t.d.z, .int .i64 t.np, .int .i64 t.nn, .int .i64 t.fix, .int .i64 t.min, .int .i64 t.tax] 54)
theorem TR.c17 {w : World} {b : Nat} {t : Trf} (h : TR w b t) : w.cell? ⟨b, 17, none⟩ = some (.int .i64 t.b0.x) := cell_of_row _ _ _ _ _ _ h
theorem TR.c18 {w : World} {b : Nat} {t : Trf} (h : TR w b t) : w.cell? ⟨b, 18, none⟩ = some (.int .i64 t.b0.y) := cell_of_row _ _ _ _ _ _ h
theorem TR.c19 {w : World} {b : Nat} {t : Trf} (h : TR w b t) : w.cell? ⟨b, 19, none⟩ = some (.int .i64 t.b0.z) := cell_of_row _ _ _ _ _ _ h
theorem TR.c20 {w : World} {b : Nat} {t : Trf} (h : TR w b t) : w.cell? ⟨b, 20, none⟩ = some (.int .i64 t.b1.x) := cell_of_row _ _ _ _ _ _ h
theorem TR.c21 {w : World} {b : Nat} {t : Trf} (h : TR w b t) : w.cell? ⟨b, 21, none⟩ = some (.int .i64 t.b1.y) := cell_of_row _ _ _ _ _ _ h
theorem TR.c22 {w : World} {b : Nat} {t : Trf} (h : TR w b t) : w.cell? ⟨b, 22, none⟩ = some (.int .i64 t.b1.z) := cell_of_row _ _ _ _ _ _ h
theorem TR.c23 {w : World} {b : Nat} {t : Trf} (h : TR w b t) : w.cell? ⟨b, 23, none⟩ = some (.int .i64 t.b2.x) := cell_of_row _ _ _ _ _ _ h
theorem TR.c24 {w : World} {b : Nat} {t : Trf} (h : TR w b t) : w.cell? ⟨b, 24, none⟩ = some (.int .i64 t.b2.y) := cell_of_row _ _ _ _ _ _ h
theorem TR.c25 {w : World} {b : Nat} {t : Trf} (h : TR w b t) : w.cell? ⟨b, 25, none⟩ = some (.int .i64 t.b2.z) := cell_of_row _ _ _ _ _ _ h
theorem TR.c26 {w : World} {b : Nat} {t : Trf} (h : TR w b t) : w.cell? ⟨b, 26, none⟩ = some (.int .i64 t.d.x) := cell_of_row _ _ _ _ _ _ h
theorem TR.c27 {w : World} {b : Nat} {t : Trf} (h : TR w b t) : w.cell? ⟨b, 27, none⟩ = some (.int .i64 t.d.y) := cell_of_row _ _ _ _ _ _ h
theorem TR.c28 {w : World} {b : Nat} {t : Trf} (h : TR w b t) : w.cell? ⟨b, 28, none⟩ = some (.int .i64 t.d.z) := cell_of_row _ _ _ _ _ _ h
theorem TR.c29 {w : World} {b : Nat} {t : Trf} (h : TR w b t) : w.cell? ⟨b, 29, none⟩ = some (.int .i64 t.np) := cell_of_row _ _ _ _ _ _ h
theorem TR.c30 {w : World} {b : Nat} {t : Trf} (h : TR w b t) : w.cell? ⟨b, 30, none⟩ = some (.int .i64 t.nn) := cell_of_row _ _ _ _ _ _ h
theorem TR.c31 {w : World} {b : Nat} {t : Trf} (h : TR w b t) : w.cell? ⟨b, 31, none⟩ = some (.int .i64 t.fix) := cell_of_row _ _ _ _ _ _ h
theorem TR.c32 {w : World} {b : Nat} {t : Trf} (h : TR w b t) : w.cell? ⟨b, 32, none⟩ = some (.int .i64 t.min) := cell_of_row _ _ _ _ _ _ h
theorem TR.c33 {w : World} {b : Nat} {t : Trf} (h : TR w b t) : w.cell? ⟨b, 33, none⟩ = some (.int .i64 t.tax) := cell_of_row _ _ _ _ _ _ h
/-- what is owned stays where its block does -/
theorem own_blk {w w' : World} {base : Nat} {e : TypeId} {size : Nat} {v : Value} {n : Nat} {xs : List Value} (h : w.ownsRow base e size v n xs) (hb : ∀ k, v.ownBlock = some k → w'.heap[k]? = w.heap[k]?) : w'.ownsRow base e size v n xs := by
  refine ⟨h.1, ?_⟩
  rcases h.2 with hn | ⟨g, cap, cur, rfl, h1, h2, rest⟩
  · exact .inl hn
  · exact .inr ⟨g, cap, cur, rfl, h1, (hb g rfl).trans h2, rest⟩
/-- two rows of different kinds lie in different blocks -/
theorem own_apart {w : World} {base base' : Nat} {e e' : TypeId} {size size' : Nat} {v v' : Value} {n n' : Nat} {xs xs' : List Value} (h : w.ownsRow base e size v n xs) (h' : w.ownsRow base' e' size' v' n' xs') (hne : e ≠ e') : ∀ k, v.ownBlock = some k → v'.ownBlock ≠ some k := by
  intro k hk hk'
  obtain ⟨c, z, q⟩ := Lib.ownsRow_kind h k hk
  obtain ⟨c', z', q'⟩ := Lib.ownsRow_kind h' k hk'
  rw [q] at q'
  injection q' with q'
  injection q' with _ q' _
  exact hne q'
theorem own_ne {a b : Option Nat} (h : ∀ k, a = some k → b ≠ some k) : a = none ∨ a ≠ b := by
  cases a with
  | none => exact .inl rfl
  | some k => exact .inr fun e => h k rfl e.symm
theorem own_ne' {a b : Option Nat} (h : ∀ k, a = some k → b ≠ some k) : b = none ∨ b ≠ a := by
  cases b with
  | none => exact .inl rfl
  | some k => exact .inr fun e => h k e.symm rfl
theorem LR.apart {w : World} {b : Nat} {x : Ln} (h : LR w b x) {base : Nat} {e : TypeId} {size : Nat} {v : Value} {n : Nat} {xs : List Value} (h' : w.ownsRow base e size v n xs) (hne : e ≠ 32) : v.ownBlock ≠ some b := by
  intro hk
  obtain ⟨c, z, q⟩ := Lib.ownsRow_kind h' b hk
  rw [show w.heap[b]? = _ from h] at q
  injection q with q
  injection q with _ q _
  exact hne q.symm

def blL (t : Trf) (step start : Int) (l : List Txt.Val) : List Ln := if spE t step start l = 0 then lnR t (spL t step start l) (spL t step start l).length else []
theorem spA_ok {t : Trf} {step start : Int} {l : List Txt.Val} (h : spE t step start l = 0) : spA t step start l = 0 := by
  obtain ⟨hm, hb, hf, hc, _⟩ := sp_ok h
  unfold spA
  rw [hm, if_pos rfl, if_neg (by omega), if_pos hf]
  exact (pp_yes hc).2.1.symm
end Go.Proofs.YtjaffmmocbplaabDoor
