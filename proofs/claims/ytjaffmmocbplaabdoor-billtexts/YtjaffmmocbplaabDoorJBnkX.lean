/-
  The program's peakAhead and energyPrice.
-/
import Derived.Test.YtjaffmmocbplaabDoorJBnkW
namespace Go.Proofs.YtjaffmmocbplaabDoor
open Go.RowKit Bil
set_option linter.unusedVariables false
attribute [local go_sem ↓] Go.wp_at_zero Go.wp_at_succ

theorem pAt_get {ps : List Per} {k : Nat} (h : k < ps.length) : ps[k]? = some (pAt ps k) := by simp [pAt, h]

set_option maxHeartbeats 1000000 in
theorem peakAhead_any (ps : List Per) (v : Value) (i : Nat) (q : Int) (w : World) (h : PRow w v ps) (hi : i ≤ ps.length) (hl : ps.length ≤ 40000) (q0 : 0 ≤ q) (q1 : q ≤ 12) :
    Calls Tryd.prog 36 #[v, .int .i64 i, .int .i64 q] w fun e w' => e = .returned (.int .i64 (pkA ps i q)) ∧ ∃ n, w' = w.drewN n := by
  obtain ⟨a, cap, rfl⟩ := h.form
  obtain ⟨f, hf⟩ : ∃ f, f = from0 i q := ⟨_, rfl⟩
  have HP : Hid (pkA ps i q = pkR ps f (i - f)) := by rw [hf]; rfl
  have hfi : f ≤ i := by rw [hf]; unfold from0; omega
  have hmx : mx ((i : Int) - q) 0 = (f : Int) := by rw [hf]; unfold from0 mx; split <;> omega
  have lg : ∀ w, Calls Tryd.prog 37 #[.int .i64 ((i : Int) - q), .int .i64 0] w fun e w' => e = .returned (.int .i64 f) ∧ w' = w := fun w => by rw [← hmx]; exact larger_any _ _ w
  clear hf hmx
  go_enter Tryd.func36, Tryd.ntmps36
  go_wp2_with (go_at_call 37; refine (lg _).mono ?_; rintro e w7 ⟨rfl, h7⟩; have h8 := h7.symm; subst h8)
  go_loopw [7, 8] (fun x p wr => ∃ k : Nat, p = .int .i64 ((f + k : Nat) : Int) ∧ f + k ≤ i ∧ x = .int .i64 (pkR ps f k) ∧ ∃ n, wr = w.drewN n) (fun _ p _ => i - (intOf p).toNat)
  case atStart => exact ⟨0, rfl, by omega, rfl, 0, rfl⟩
  case round =>
    obtain ⟨k, rfl, hk, rfl, n, rfl⟩ := hrel
    by_cases hlt : f + k < i
    · have hlt' : ((f + k : Nat) : Int) < (i : Int) := by omega
      obtain ⟨b, rfl, hcap, hblt, c0, c1, c2, c3, c4⟩ := h.at (pAt_get (show f + k < ps.length by omega))
      have hk0 : (0 : Int) ≤ ((f + k : Nat) : Int) := by omega
      have hkl : ((f + k : Nat) : Int) < (ps.length : Int) := by omega
      have hcap' : (ps.length : Int) ≤ (cap : Int) := by omega
      have HS : Hid (pkR ps f (k + 1) = mx (pkR ps f k) (pAt ps (f + k)).pk) := rfl
      have lg2 := fun w => larger_any (pkR ps f k) (pAt ps (f + k)).pk w
      obtain ⟨K, hK⟩ : ∃ K, K = f + k := ⟨_, rfl⟩
      have HK := hideF hK
      rw [← hK] at hlt' c0 c1 c2 c3 c4 hk0 hkl HS lg2
      rw [← hK]
      clear hK lg
      go_wp2_with (go_at_call 37; refine (lg2 _).mono ?_; rintro e w7 ⟨rfl, h7⟩; have h8 := h7.symm; subst h8)
      go_roundw
      case rel => exact ⟨k + 1, by have := HK.out; go_num, by omega, by rw [HS.out], n, rfl⟩
      case measure => have := HK.out; simp [intOf]; omega
    · have hlt' : ¬ ((f + k : Nat) : Int) < (i : Int) := by omega
      have hke : k = i - f := by omega
      have HK := hideF hke
      clear hke
      go_wp2_with fail
      go_ret
      exact ⟨ret_int (by rw [HP.out, HK.out]), n, rfl⟩

def prK (t : Trf) (p : Per) : Nat → Int
  | 0 => 0
  | 1 => 0 + lowP p.i0 t.b0 + hiP p.i0 t.b0
  | 2 => 0 + lowP p.i0 t.b0 + hiP p.i0 t.b0 + lowP p.i1 t.b1 + hiP p.i1 t.b1
  | _ => enOf t p
def clsI (p : Per) (k : Nat) : Int := if k = 0 then p.i0 else if k = 1 then p.i1 else p.i2
def clsB2 (t : Trf) (k : Nat) : Blk := if k = 0 then t.b0 else if k = 1 then t.b1 else t.b2
theorem prK_succ (t : Trf) (p : Per) {k : Nat} (hk : k < 3) : prK t p (k + 1) = prK t p k + lowP (clsI p k) (clsB2 t k) + hiP (clsI p k) (clsB2 t k) := by
  rcases (by omega : k = 0 ∨ k = 1 ∨ k = 2) with rfl | rfl | rfl <;> rfl
theorem cls_ok {t : Trf} {p : Per} (ht : OkT t) (hp : okP p 200) (k : Nat) : CkB (clsI p k) (clsB2 t k) := by
  simp only [okP] at hp
  refine ckB (by unfold okI clsI; (repeat' split) <;> omega) ?_
  unfold clsB2
  split
  · exact ht.a0
  · split
    · exact ht.a1
    · exact ht.a2
theorem prK_bd {t : Trf} {p : Per} (ht : OkT t) (hp : okP p 200) : ∀ k, k ≤ 3 → 0 ≤ prK t p k ∧ prK t p k ≤ k * 20000100000002
  | 0, _ => by show (0 : Int) ≤ 0 ∧ (0 : Int) ≤ _; omega
  | k + 1, hk => by
    have a := prK_bd ht hp k (by omega)
    have b := cls_ok ht hp k
    have := b.lp
    have := b.hp
    rw [prK_succ t p (by omega)]; omega

set_option maxRecDepth 100000 in
set_option maxHeartbeats 2000000 in
theorem energyPrice_any (t : Trf) (p : Per) (w : World) (ht : OkT t) (hp : okP p 200) :
    Calls Tryd.prog 38 #[.agg #[.int .i64 p.i0, .int .i64 p.i1, .int .i64 p.i2], .agg #[.int .i64 t.b0.x, .int .i64 t.b0.y, .int .i64 t.b0.z, .int .i64 t.b1.x, .int .i64 t.b1.y, .int .i64 t.b1.z, .int .i64 t.b2.x, .int .i64 t.b2.y, .int .i64 t.b2.z]] w fun e w' => e = .returned (.int .i64 (enOf t p)) ∧ Below w.heap.size w w' := by
  have BD := hideF (fun k (hk : k ≤ 3) => prK_bd ht hp k hk)
  have CK := hideF (fun k => cls_ok ht hp k)
  have HE : Hid (enOf t p = prK t p 3) := rfl
  rw [HE.out]
  clear ht hp
  go_enter Tryd.func38, Tryd.ntmps38
  go_wp2_with fail
  obtain ⟨W0, hW0⟩ : ∃ W0, W0 = (w.alloc (.cells #[.int .i64 p.i0, .int .i64 p.i1, .int .i64 p.i2] 30)).alloc (.cells #[.int .i64 t.b0.x, .int .i64 t.b0.y, .int .i64 t.b0.z, .int .i64 t.b1.x, .int .i64 t.b1.y, .int .i64 t.b1.z, .int .i64 t.b2.x, .int .i64 t.b2.y, .int .i64 t.b2.z] 48) := ⟨_, rfl⟩
  have HW0 := hideF hW0
  have B0 : Below w.heap.size w W0 := by rw [hW0]; exact below_more (below_more (Below.refl _ _) _) _
  have z0 : W0.heap.size = w.heap.size + 2 := by rw [hW0]; simp
  have CI : Hid (∀ k, k < 3 → W0.cell? ⟨w.heap.size, k, none⟩ = some (.int .i64 (clsI p k))) := fun k hk => by
    rw [hW0]; rcases (by omega : k = 0 ∨ k = 1 ∨ k = 2) with rfl | rfl | rfl <;> simp [go_sem, clsI]
  have CB : Hid (∀ k, k < 3 → W0.cell? ⟨w.heap.size + 1, k * 3, none⟩ = some (.int .i64 (clsB2 t k).x) ∧ W0.cell? ⟨w.heap.size + 1, k * 3 + 1, none⟩ = some (.int .i64 (clsB2 t k).y) ∧ W0.cell? ⟨w.heap.size + 1, k * 3 + 2, none⟩ = some (.int .i64 (clsB2 t k).z)) := fun k hk => by
    rw [hW0]; rcases (by omega : k = 0 ∨ k = 1 ∨ k = 2) with rfl | rfl | rfl <;> simp [go_sem, clsB2]
  clear hW0
  go_loopw [5, 6] (fun x i wr => ∃ k : Nat, i = .int .i64 k ∧ k ≤ 3 ∧ x = .int .i64 (prK t p k) ∧ Below W0.heap.size W0 wr) (fun _ i _ => 3 - (intOf i).toNat)
  case atStart => exact ⟨0, rfl, by omega, rfl, by rw [HW0.out]; exact Below.refl _ _⟩
  case round =>
    obtain ⟨k, rfl, hk, rfl, hb⟩ := hrel
    have S0 := BD.out k hk
    by_cases hlt : k < 3
    · have hlt' : (k : Int) < 3 := by omega
      have hk0 : (0 : Int) ≤ (k : Int) := by omega
      have c0 := vcell_below hb (show w.heap.size < W0.heap.size by omega) (CI.out k hlt)
      obtain ⟨d0', d1', d2'⟩ := CB.out k hlt
      have d0 := vcell_below hb (show w.heap.size + 1 < W0.heap.size by omega) d0'
      have d1 := vcell_below hb (show w.heap.size + 1 < W0.heap.size by omega) d1'
      have d2 := vcell_below hb (show w.heap.size + 1 < W0.heap.size by omega) d2'
      clear d0' d1' d2'
      have HS : Hid (prK t p (k + 1) = prK t p k + rnd (mn (clsI p k) (clsB2 t k).x * (clsB2 t k).y) + rnd ((clsI p k - mn (clsI p k) (clsB2 t k).x) * (clsB2 t k).z)) := prK_succ t p hlt
      obtain ⟨ki, km, kl, kh, klp, khp⟩ := CK.out k
      unfold lowP at klp
      unfold hiP at khp
      obtain ⟨X, hX⟩ : ∃ X, X = clsI p k := ⟨_, rfl⟩
      obtain ⟨Q, hQ⟩ : ∃ Q, Q = clsB2 t k := ⟨_, rfl⟩
      rw [← hX] at c0 HS ki km kl kh klp khp
      rw [← hQ] at d0 d1 d2 HS km kl kh klp khp
      obtain ⟨qx, qy, qz⟩ := Q
      simp only at d0 d1 d2 HS km kl kh klp khp
      have sm := fun w => smaller_any X qx w
      obtain ⟨Z, hZ⟩ : ∃ Z, Z = mn X qx := ⟨_, rfl⟩
      rw [← hZ] at HS km kl kh klp khp sm
      have r1 := fun w => rounded_any (Z * qy) w kl.1 (by omega)
      have r2 := fun w => rounded_any ((X - Z) * qz) w kh.1 (by omega)
      obtain ⟨R1, hR1⟩ : ∃ R1, R1 = rnd (Z * qy) := ⟨_, rfl⟩
      obtain ⟨R2, hR2⟩ : ∃ R2, R2 = rnd ((X - Z) * qz) := ⟨_, rfl⟩
      rw [← hR1] at HS klp r1
      rw [← hR2] at HS khp r2
      obtain ⟨Y, hY⟩ : ∃ Y, Y = prK t p k := ⟨_, rfl⟩
      rw [← hY] at S0 HS
      rw [← hY]
      have kw1 : IntKind.i64.wrap (X - Z) = X - Z := Go.IntWalk.i64_in _ (by omega)
      have kw2 : IntKind.i64.wrap ((X - Z) * qz) = (X - Z) * qz := Go.IntWalk.i64_in _ (by omega)
      have kw3 : IntKind.i64.wrap (Y + R1 + R2) = Y + R1 + R2 := Go.IntWalk.i64_in _ (by omega)
      have kw4 : IntKind.i64.wrap (Z * qy) = Z * qy := Go.IntWalk.i64_in _ (by omega)
      clear hX hQ hZ hR1 hR2 hY
      go_wp2_with fail
      go_quiet ((go_at_call 64; exact Calls.quiet_of_same (sm _)))
      go_wp2_with (go_at_call 39; refine (r1 _).mono ?_; rintro e w7 ⟨rfl, h7⟩; have h8 := h7.symm; subst h8)
      have hbq := below_drewN hb nq
      obtain ⟨wx, hwx⟩ : ∃ wx, wx = wr.drewN nq := ⟨_, rfl⟩
      have e0 : wx.cell? ⟨w.heap.size, k, none⟩ = some (.int .i64 X) := by rw [hwx]; exact c0
      have e2 : wx.cell? ⟨w.heap.size + 1, k * 3 + 2, none⟩ = some (.int .i64 qz) := by rw [hwx]; exact d2
      rw [← hwx] at hbq ⊢
      clear hwx c0 d0 d1 d2 hb
      go_quiet ((go_at_call 39; exact Calls.quiet_of_same (r2 _)))
      go_wp2_with fail
      go_roundw
      case rel => exact ⟨k + 1, by go_num, by omega, by rw [HS.out], by first | exact hbq | exact below_drewN hbq _⟩
      case measure => simp [intOf]; omega
    · have hlt' : ¬ (k : Int) < 3 := by omega
      have hke : k = 3 := by omega
      have HK := hideF hke
      clear hke
      go_wp2_with fail
      go_ret
      exact ⟨ret_int (by rw [HK.out]), below_then B0 hb⟩

end Go.Proofs.YtjaffmmocbplaabDoor
