/-
  NotM, BilM in one text.
-/
import Derived.Test.YtjaffmmocbplaabGreatDoorJSplW
import Derived.Test.YtjaffmmocbplaabGreatDoorJ14
namespace Go.Proofs.YtjaffmmocbplaabGreatDoor
open Txt (Val)
open Go.RowKit
set_option linter.unusedVariables false

theorem okP_le {p : Per} {k n : Nat} (h : okP p k) (hn : k ≤ n) : okP p n := by simp only [okP] at h ⊢; omega
theorem push_all {days day : Int} {k : Nat} (hd : 1 ≤ days) : ∀ (n : Nat) (s : PSt), (day + 1 - s.en).toNat ≤ n → okP s.p k → (∀ p ∈ s.dn, okP p k) → ∀ p ∈ (pushP days day s).dn, okP p k
  | n, s, hn, h, ha => by
    by_cases g : s.en ≤ day
    · cases n with
      | zero => omega
      | succ n =>
        rw [push_go hd g]
        refine push_all (day := day) hd n ⟨s.dn ++ [s.p], per0, s.en + days⟩ (by simp only; omega) (okP_zero k) ?_
        intro p hp
        simp only [List.mem_append, List.mem_singleton] at hp
        rcases hp with hp | rfl
        · exact ha p hp
        · exact h
    · rw [push_stop g]; exact ha
theorem run_all {t : Trf} {step start : Int} {l : List Val} (ht : badN t = 13) (hs : step = 15 ∨ step = 30 ∨ step = 60) (hall : l.all valB = true) : ∀ k, k ≤ l.length → (∀ j, j < k → okC t step start j = true) → ∀ p ∈ (runP t step start l k).dn, okP p k
  | 0, _, _ => fun p hp => by cases hp
  | k + 1, hk, hc => by
    have ih := run_all (step := step) (start := start) (l := l) ht hs hall k (by omega) (fun j hj => hc j (by omega))
    have ok := run_ok (step := step) (start := start) (l := l) ht hs hall k (by omega) (fun j hj => hc j (by omega))
    have hb : (begP t step start (runP t step start l k) k).dn = (runP t step start l k).dn ∧ (begP t step start (runP t step start l k) k).p = (runP t step start l k).p := by unfold begP; split <;> exact ⟨rfl, rfl⟩
    intro p hp
    have := push_all (day := dayAt t step start k) (k := k) (days_ok ht).1 _ (begP t step start (runP t step start l k) k) (Nat.le_refl _) (by rw [hb.2]; exact ok.1) (by rw [hb.1]; exact ih) p hp
    exact okP_more this
theorem perL_all {t : Trf} {step start : Int} {l : List Val} (ht : badN t = 13) (hs : step = 15 ∨ step = 30 ∨ step = 60) (hall : l.all valB = true) (hl : l.length ≤ 200) (hc : ∀ j, j < l.length → okC t step start j = true) : (∀ p ∈ perL t step start l, okP p 200) ∧ (perL t step start l).length ≤ 36556 := by
  have ok := run_ok (step := step) (start := start) (l := l) ht hs hall l.length (Nat.le_refl _) hc
  refine ⟨fun p hp => ?_, ?_⟩
  · unfold perL at hp
    simp only [List.mem_append, List.mem_singleton] at hp
    rcases hp with hp | rfl
    · exact okP_le (run_all ht hs hall l.length (Nat.le_refl _) hc p hp) hl
    · exact okP_le ok.1 hl
  · unfold perL
    simp only [List.length_append, List.length_singleton]
    obtain ⟨_, a, b⟩ := ok
    omega
theorem take_snoc {α : Type} {l : List α} {k : Nat} {x : α} (h : l[k]? = some x) : l.take (k + 1) = l.take k ++ [x] := by rw [List.take_add_one, h]; rfl
theorem v_bd {step : Int} {l : List Val} (hall : l.all valB = true) (hs : step = 15 ∨ step = 30 ∨ step = 60) : ∀ k, k ≤ l.length → (0 ≤ vI (l.take k) ∧ vI (l.take k) ≤ k * 999999999) ∧ (0 ≤ vO (l.take k) ∧ vO (l.take k) ≤ k * 999999999) ∧ (0 ≤ vP step (l.take k) ∧ vP step (l.take k) ≤ 4000000000)
  | 0, _ => by simp [vI, vO, vP]
  | k + 1, hk => by
    obtain ⟨a, b, c⟩ := v_bd (step := step) hall hs k (by omega)
    have hg := Fil.get_ex (show k < l.length by omega)
    obtain ⟨d1, d2⟩ := valB_bd (List.all_eq_true.mp hall _ (List.mem_of_getElem? hg))
    have e := pw_bd d1 hs
    rw [take_snoc hg, vI_snoc, vO_snoc, vP_snoc]
    refine ⟨by omega, by omega, ?_⟩
    unfold mx; split <;> omega
theorem t_bd {ps : List Per} (hall : ∀ p ∈ ps, okP p 200) : ∀ k, k ≤ ps.length → (0 ≤ tI (ps.take k) ∧ tI (ps.take k) ≤ k * 600000000000) ∧ (0 ≤ tO (ps.take k) ∧ tO (ps.take k) ≤ k * 600000000000)
  | 0, _ => by simp [tI, tO]
  | k + 1, hk => by
    obtain ⟨a, b⟩ := t_bd hall k (by omega)
    have hg : ps[k]? = some ps[k] := List.getElem?_eq_getElem (by omega)
    have ok := hall ps[k] (List.getElem_mem _)
    rw [take_snoc hg, tI_snoc, tO_snoc]
    simp only [okP] at ok
    simp only [pI]
    omega
theorem pcs_get (l : List Per) : ∀ i x, l[i]? = some x → (pcs l)[i * 5]? = some (.int .i64 x.i0) ∧ (pcs l)[i * 5 + 1]? = some (.int .i64 x.i1) ∧ (pcs l)[i * 5 + 2]? = some (.int .i64 x.i2) ∧ (pcs l)[i * 5 + 3]? = some (.int .i64 x.o) ∧ (pcs l)[i * 5 + 4]? = some (.int .i64 x.pk) := by
  induction l with
  | nil => intro i x h; simp at h
  | cons y l ih =>
    intro i x h
    have e : pcs (y :: l) = .int .i64 y.i0 :: .int .i64 y.i1 :: .int .i64 y.i2 :: .int .i64 y.o :: .int .i64 y.pk :: pcs l := rfl
    rw [e]
    cases i with
    | zero => simp at h; subst h; simp
    | succ i =>
      simp at h
      obtain ⟨h1, h2, h3, h4, h5⟩ := ih i x h
      rw [show (i + 1) * 5 = i * 5 + 1 + 1 + 1 + 1 + 1 by omega]
      refine ⟨by simpa using h1, ?_, ?_, ?_, ?_⟩
      · rw [show i * 5 + 1 + 1 + 1 + 1 + 1 + 1 = (i * 5 + 1) + 1 + 1 + 1 + 1 + 1 by omega]; simpa using h2
      · rw [show i * 5 + 1 + 1 + 1 + 1 + 1 + 2 = (i * 5 + 2) + 1 + 1 + 1 + 1 + 1 by omega]; simpa using h3
      · rw [show i * 5 + 1 + 1 + 1 + 1 + 1 + 3 = (i * 5 + 3) + 1 + 1 + 1 + 1 + 1 by omega]; simpa using h4
      · rw [show i * 5 + 1 + 1 + 1 + 1 + 1 + 4 = (i * 5 + 4) + 1 + 1 + 1 + 1 + 1 by omega]; simpa using h5
/-- where Split answers -/
theorem sp_ok {t : Trf} {step start : Int} {l : List Val} (h : spE t step start l = 0) : meterB step start l = true ∧ badN t = 13 ∧ fE step start t.gap l = 0 ∧ (∀ j, j < (fL step start t.gap l).length → okC t step start j = true) ∧ spL t step start l = perL t step start (fL step start t.gap l) := by
  unfold spE at h
  cases hm : meterB step start l
  · rw [hm] at h; simp at h
  · rw [hm] at h
    simp only [if_true] at h
    by_cases hb : badN t < 13
    · rw [if_pos hb] at h; omega
    · rw [if_neg hb] at h
      by_cases hf : fE step start t.gap l = 0
      · rw [if_pos hf] at h
        have hp : ¬ ppN t step start (fL step start t.gap l) < (fL step start t.gap l).length := by
          intro g; unfold ppE at h; rw [if_pos g] at h; omega
        refine ⟨rfl, by have := badN_le t; omega, hf, fun j hj => ?_, ?_⟩
        · obtain ⟨_, b, c, _⟩ := firstBad_facts (p := okC t step start) (fL step start t.gap l).length 0
          exact c j (by omega) (by unfold ppN at hp; omega)
        · unfold spL; rw [hm, if_pos rfl, if_neg hb, if_pos hf]; unfold ppL; rw [if_neg hp]
      · rw [if_neg hf] at h; exact absurd h hf
theorem sp_no {t : Trf} {step start : Int} {l : List Val} (h : ¬ spE t step start l = 0) : spL t step start l = [] := by
  unfold spL
  unfold spE at h
  split
  · rename_i hm
    rw [hm, if_pos rfl] at h
    split
    · rfl
    · rename_i hb
      rw [if_neg hb] at h
      split
      · rename_i hf
        rw [if_pos hf] at h
        unfold ppL
        split
        · rfl
        · rename_i hp; unfold ppE at h; rw [if_neg hp] at h; exact absurd rfl h
      · rfl
  · rfl
end Go.Proofs.YtjaffmmocbplaabGreatDoor

namespace Go.Proofs.YtjaffmmocbplaabGreatDoor
set_option linter.unusedVariables false

namespace Bil
def rnd (n : Int) : Int := (n + 500) / 1000
def mn (a b : Int) : Int := if a < b then a else b
theorem mn_le (a b : Int) : mn a b ≤ a ∧ mn a b ≤ b := by unfold mn; split <;> omega
theorem mn_or (a b : Int) : mn a b = a ∨ mn a b = b := by unfold mn; split <;> omega
theorem mx_ge (a b : Int) : a ≤ mx a b ∧ b ≤ mx a b := by unfold mx; split <;> omega
theorem mx_or (a b : Int) : mx a b = a ∨ mx a b = b := by unfold mx; split <;> omega
theorem rnd_bd {n B : Int} (h0 : 0 ≤ n) (h1 : n ≤ B) : 0 ≤ rnd n ∧ rnd n * 1000 ≤ B + 500 := by unfold rnd; omega
theorem rnd_mono {a b : Int} (h : a ≤ b) : rnd a ≤ rnd b := by unfold rnd; omega

/-! ### lists of credits -/
def cAt (c : List Int) (k : Nat) : Int := c.getD k 0
theorem cAt_get {c : List Int} {k : Nat} (h : k < c.length) : c[k]? = some (cAt c k) := by simp [cAt, h]
theorem cAt_some {c : List Int} {k : Nat} {x : Int} (h : c[k]? = some x) : cAt c k = x := by simp [cAt, h]
theorem sum_snoc (c : List Int) (x : Int) : (c ++ [x]).sum = c.sum + x := by simp
theorem sum_take {c : List Int} {k : Nat} (h : k < c.length) : (c.take (k + 1)).sum = (c.take k).sum + cAt c k := by rw [take_snoc (cAt_get h), sum_snoc]
theorem sum_set : ∀ (c : List Int) (k : Nat) (v : Int), k < c.length → (c.set k v).sum = c.sum - cAt c k + v
  | [], k, v, h => by simp at h
  | x :: c, 0, v, h => by simp [cAt]; omega
  | x :: c, k + 1, v, h => by
    have := sum_set c k v (by simpa using h)
    have e : cAt (x :: c) (k + 1) = cAt c k := by simp [cAt]
    simp only [List.set_cons_succ, List.sum_cons, this, e]; omega
def okL (B : Int) (c : List Int) : Prop := ∀ k, k < c.length → 0 ≤ cAt c k ∧ cAt c k ≤ B
theorem okL_set {B : Int} {c : List Int} (h : okL B c) {k : Nat} {v : Int} (h0 : 0 ≤ v) (h1 : v ≤ B) : okL B (c.set k v) := by
  intro j hj
  rw [List.length_set] at hj
  unfold cAt
  rw [List.getD_eq_getElem?_getD, List.getElem?_set]
  by_cases e : k = j
  · subst e; rw [if_pos rfl, if_pos hj]; exact ⟨h0, h1⟩
  · rw [if_neg e]; exact h j hj
theorem okL_snoc {B : Int} {c : List Int} (h : okL B c) {v : Int} (h0 : 0 ≤ v) (h1 : v ≤ B) : okL B (c ++ [v]) := by
  intro j hj
  rw [List.length_append, List.length_singleton] at hj
  by_cases e : j < c.length
  · have : cAt (c ++ [v]) j = cAt c j := by simp [cAt, List.getElem?_append_left e]
    rw [this]; exact h j e
  · have e' : j = c.length := by omega
    subst e'
    have : cAt (c ++ [v]) c.length = v := by simp [cAt]
    rw [this]; exact ⟨h0, h1⟩
theorem okL_sum {B : Int} {c : List Int} (h : okL B c) : ∀ k, k ≤ c.length → 0 ≤ (c.take k).sum ∧ (c.take k).sum ≤ k * B
  | 0, _ => by simp
  | k + 1, hk => by
    obtain ⟨a, b⟩ := okL_sum h k (by omega)
    obtain ⟨d, e⟩ := h k (by omega)
    rw [sum_take (by omega)]
    have : ((k + 1 : Nat) : Int) * B = k * B + B := by rw [Int.natCast_add, Int.add_mul]; omega
    omega

/-! ### what expires -/
def expC (c : List Int) : Nat → List Int
  | 0 => c
  | k + 1 => (expC c k).set k 0
theorem expC_len (c : List Int) : ∀ k, (expC c k).length = c.length
  | 0 => rfl
  | k + 1 => by show ((expC c k).set k 0).length = _; rw [List.length_set, expC_len c k]
theorem expC_get (c : List Int) : ∀ k j, k ≤ j → cAt (expC c k) j = cAt c j
  | 0, j, _ => rfl
  | k + 1, j, h => by
    show cAt ((expC c k).set k 0) j = _
    unfold cAt
    rw [List.getD_eq_getElem?_getD, List.getElem?_set, if_neg (by omega)]
    exact expC_get c k j (by omega)
theorem expC_sum (c : List Int) : ∀ k, k ≤ c.length → (expC c k).sum = c.sum - (c.take k).sum
  | 0, _ => by simp [expC]
  | k + 1, h => by
    show ((expC c k).set k 0).sum = _
    rw [sum_set _ _ _ (by rw [expC_len]; omega), expC_sum c k (by omega), expC_get c k k (Nat.le_refl _), sum_take (by omega)]; omega
theorem expC_ok {B : Int} {c : List Int} (h : okL B c) (hB : 0 ≤ B) : ∀ k, okL B (expC c k)
  | 0 => h
  | k + 1 => okL_set (expC_ok h hB k) (Int.le_refl _) hB

/-! ### what is applied -/
def appA (m : Int) (c : List Int) : Nat → Int
  | 0 => 0
  | k + 1 => appA m c k + mn (cAt c k) (m - appA m c k)
def appC (m : Int) (c : List Int) : Nat → List Int
  | 0 => c
  | k + 1 => (appC m c k).set k (cAt c k - mn (cAt c k) (m - appA m c k))
theorem appC_len (m : Int) (c : List Int) : ∀ k, (appC m c k).length = c.length
  | 0 => rfl
  | k + 1 => by show ((appC m c k).set k _).length = _; rw [List.length_set, appC_len m c k]
theorem appC_get (m : Int) (c : List Int) : ∀ k j, k ≤ j → cAt (appC m c k) j = cAt c j
  | 0, j, _ => rfl
  | k + 1, j, h => by
    show cAt ((appC m c k).set k _) j = _
    unfold cAt
    rw [List.getD_eq_getElem?_getD, List.getElem?_set, if_neg (by omega)]
    exact appC_get m c k j (by omega)
theorem appC_sum (m : Int) (c : List Int) : ∀ k, k ≤ c.length → (appC m c k).sum = c.sum - appA m c k
  | 0, _ => by simp [appC, appA]
  | k + 1, h => by
    show ((appC m c k).set k _).sum = c.sum - (appA m c k + _)
    rw [sum_set _ _ _ (by rw [appC_len]; omega), appC_sum m c k (by omega), appC_get m c k k (Nat.le_refl _)]; omega
theorem appA_bd {m B : Int} {c : List Int} (h : okL B c) (hm : 0 ≤ m) : ∀ k, k ≤ c.length → 0 ≤ appA m c k ∧ appA m c k ≤ m
  | 0, _ => ⟨Int.le_refl _, hm⟩
  | k + 1, hk => by
    obtain ⟨a, b⟩ := appA_bd h hm k (by omega)
    obtain ⟨d, _⟩ := h k (by omega)
    obtain ⟨e, f⟩ := mn_le (cAt c k) (m - appA m c k)
    have := mn_or (cAt c k) (m - appA m c k)
    show 0 ≤ appA m c k + mn (cAt c k) (m - appA m c k) ∧ appA m c k + mn (cAt c k) (m - appA m c k) ≤ m
    omega
theorem appC_ok {m B : Int} {c : List Int} (h : okL B c) (hm : 0 ≤ m) : ∀ k, k ≤ c.length → okL B (appC m c k)
  | 0, _ => h
  | k + 1, hk => by
    obtain ⟨a, b⟩ := appA_bd h hm k (by omega)
    obtain ⟨d, g⟩ := h k (by omega)
    obtain ⟨e, f⟩ := mn_le (cAt c k) (m - appA m c k)
    have := mn_or (cAt c k) (m - appA m c k)
    exact okL_set (appC_ok h hm k (by omega)) (by omega) (by omega)

/-! ### the line -/
structure Ln where
  i0 : Int
  i1 : Int
  i2 : Int
  o : Int
  pk : Int
  bl : Int
  en : Int
  pw : Int
  ap : Int
  ex : Int
  pd : Int
  bk : Int
  su : Int
  tx : Int
  to : Int
def pAt (ps : List Per) (k : Nat) : Per := ps.getD k per0
theorem pAt_some {ps : List Per} {k : Nat} {x : Per} (h : ps[k]? = some x) : pAt ps k = x := by simp [pAt, h]
/-- the largest peak of n periods from a on -/
def pkR (ps : List Per) (a : Nat) : Nat → Int
  | 0 => 0
  | n + 1 => mx (pkR ps a n) (pAt ps (a + n)).pk
def from0 (i : Nat) (q : Int) : Nat := ((i : Int) - q).toNat
def pkA (ps : List Per) (i : Nat) (q : Int) : Int := pkR ps (from0 i q) (i - from0 i q)
def lowP (x : Int) (b : Blk) : Int := rnd (mn x b.x * b.y)
def hiP (x : Int) (b : Blk) : Int := rnd ((x - mn x b.x) * b.z)
def enOf (t : Trf) (p : Per) : Int := 0 + lowP p.i0 t.b0 + hiP p.i0 t.b0 + lowP p.i1 t.b1 + hiP p.i1 t.b1 + lowP p.i2 t.b2 + hiP p.i2 t.b2
def blOf (t : Trf) (ps : List Per) (i : Nat) : Int := mx (pAt ps i).pk (pkA ps i t.d.z * t.d.y / 100)
def pwOf (t : Trf) (ps : List Per) (i : Nat) : Int := rnd (blOf t ps i * t.d.x)
def pdOf (t : Trf) (ps : List Per) (i : Nat) : Int := rnd ((pAt ps i).o * t.np)
def exN (t : Trf) (c : List Int) : Nat := ((c.length : Int) - t.nn).toNat
def exOf (t : Trf) (c : List Int) : Int := (c.take (exN t c)).sum
def c1Of (t : Trf) (c : List Int) : List Int := expC c (exN t c)
def apOf (t : Trf) (ps : List Per) (c : List Int) (i : Nat) : Int := appA (enOf t (pAt ps i)) (c1Of t c) (c1Of t c).length
def c2Of (t : Trf) (ps : List Per) (c : List Int) (i : Nat) : List Int := appC (enOf t (pAt ps i)) (c1Of t c) (c1Of t c).length
def c3Of (t : Trf) (ps : List Per) (c : List Int) (i : Nat) : List Int := c2Of t ps c i ++ [pdOf t ps i]
def suOf (t : Trf) (ps : List Per) (c : List Int) (i : Nat) : Int := mx (t.fix + enOf t (pAt ps i) - apOf t ps c i + pwOf t ps i) t.min
def lnOf (t : Trf) (ps : List Per) (c : List Int) (i : Nat) : Ln :=
  ⟨(pAt ps i).i0, (pAt ps i).i1, (pAt ps i).i2, (pAt ps i).o, (pAt ps i).pk, blOf t ps i, enOf t (pAt ps i), pwOf t ps i, apOf t ps c i, exOf t c, pdOf t ps i, (c3Of t ps c i).sum, suOf t ps c i, rnd (suOf t ps c i * t.tax), suOf t ps c i + rnd (suOf t ps c i * t.tax)⟩
/-- the credits ahead of period k -/
def crR (t : Trf) (ps : List Per) : Nat → List Int
  | 0 => []
  | k + 1 => c3Of t ps (crR t ps k) k
def lnAt (t : Trf) (ps : List Per) (k : Nat) : Ln := lnOf t ps (crR t ps k) k
def lnR (t : Trf) (ps : List Per) : Nat → List Ln
  | 0 => []
  | k + 1 => lnR t ps k ++ [lnAt t ps k]
theorem lnR_len (t : Trf) (ps : List Per) : ∀ k, (lnR t ps k).length = k
  | 0 => rfl
  | k + 1 => by show (lnR t ps k ++ [_]).length = _; rw [List.length_append, lnR_len t ps k]; rfl
theorem lnR_get (t : Trf) (ps : List Per) : ∀ k j, j < k → (lnR t ps k)[j]? = some (lnAt t ps j)
  | k + 1, j, h => by
    show (lnR t ps k ++ [_])[j]? = _
    by_cases e : j < k
    · rw [List.getElem?_append_left (by rw [lnR_len]; exact e)]; exact lnR_get t ps k j e
    · have e' : j = k := by omega
      subst e'
      rw [List.getElem?_append_right (by rw [lnR_len]; exact Nat.le_refl _), lnR_len]; simp
theorem c3_len (t : Trf) (ps : List Per) (c : List Int) (i : Nat) : (c3Of t ps c i).length = c.length + 1 := by
  simp [c3Of, c2Of, appC_len, c1Of, expC_len]
theorem crR_len (t : Trf) (ps : List Per) : ∀ k, (crR t ps k).length = k
  | 0 => rfl
  | k + 1 => by show (c3Of t ps (crR t ps k) k).length = _; rw [c3_len, crR_len t ps k]

/-! ### bounds -/
structure OkT (t : Trf) : Prop where
  a0 : 0 ≤ t.b0.x ∧ t.b0.x ≤ 1000000 ∧ 0 ≤ t.b0.y ∧ t.b0.y ≤ 100000 ∧ 0 ≤ t.b0.z ∧ t.b0.z ≤ 100000
  a1 : 0 ≤ t.b1.x ∧ t.b1.x ≤ 1000000 ∧ 0 ≤ t.b1.y ∧ t.b1.y ≤ 100000 ∧ 0 ≤ t.b1.z ∧ t.b1.z ≤ 100000
  a2 : 0 ≤ t.b2.x ∧ t.b2.x ≤ 1000000 ∧ 0 ≤ t.b2.y ∧ t.b2.y ≤ 100000 ∧ 0 ≤ t.b2.z ∧ t.b2.z ≤ 100000
  d : 0 ≤ t.d.x ∧ t.d.x ≤ 1000000 ∧ 0 ≤ t.d.y ∧ t.d.y ≤ 100 ∧ 0 ≤ t.d.z ∧ t.d.z ≤ 12
  n : 0 ≤ t.np ∧ t.np ≤ 100000 ∧ 0 ≤ t.nn ∧ t.nn ≤ 12
  f : 0 ≤ t.fix ∧ t.fix ≤ 1000000 ∧ 0 ≤ t.min ∧ t.min ≤ 1000000 ∧ 0 ≤ t.tax ∧ t.tax ≤ 1000
theorem okT {t : Trf} (h : badN t = 13) : OkT t := by
  have h7 : blkB t.b0 = true := badN_good (t := t) (j := 7) (by omega)
  have h8 : blkB t.b1 = true := badN_good (t := t) (j := 8) (by omega)
  have h9 : blkB t.b2 = true := badN_good (t := t) (j := 9) (by omega)
  have h10 : dmdB t.d = true := badN_good (t := t) (j := 10) (by omega)
  have h11 : (inB t.np 0 100000 && inB t.nn 0 12) = true := badN_good (t := t) (j := 11) (by omega)
  have h12 : (inB t.fix 0 1000000 && inB t.min 0 1000000 && inB t.tax 0 1000) = true := badN_good (t := t) (j := 12) (by omega)
  simp only [blkB, dmdB, Bool.and_eq_true, inB_iff] at h7 h8 h9 h10 h11 h12
  constructor <;> omega
def okI (x : Int) : Prop := 0 ≤ x ∧ x ≤ 200000000000
/-- the parts of a class's price -/
structure CkB (x : Int) (b : Blk) : Prop where
  i : 0 ≤ x ∧ x ≤ 200000000000
  m : 0 ≤ mn x b.x ∧ mn x b.x ≤ 1000000 ∧ mn x b.x ≤ x
  l : 0 ≤ mn x b.x * b.y ∧ mn x b.x * b.y ≤ 100000000000
  h : 0 ≤ (x - mn x b.x) * b.z ∧ (x - mn x b.x) * b.z ≤ 20000000000000000
  lp : 0 ≤ lowP x b ∧ lowP x b ≤ 100000001
  hp : 0 ≤ hiP x b ∧ hiP x b ≤ 20000000000001
theorem ckB {x : Int} {b : Blk} (h : okI x) (hb : 0 ≤ b.x ∧ b.x ≤ 1000000 ∧ 0 ≤ b.y ∧ b.y ≤ 100000 ∧ 0 ≤ b.z ∧ b.z ≤ 100000) : CkB x b := by
  obtain ⟨h0, h1⟩ := h
  obtain ⟨b1, b2, b3, b4, b5, b6⟩ := hb
  obtain ⟨m1, m2⟩ := mn_le x b.x
  have m3 := mn_or x b.x
  have m0 : 0 ≤ mn x b.x := by omega
  have l := mul_bd m0 (show mn x b.x ≤ 1000000 by omega) b3 b4
  have hh := mul_bd (show 0 ≤ x - mn x b.x by omega) (show x - mn x b.x ≤ 200000000000 by omega) b5 b6
  refine ⟨⟨h0, h1⟩, ⟨m0, by omega, m1⟩, by omega, by omega, ?_, ?_⟩
  · have := rnd_bd l.1 l.2; unfold lowP; omega
  · have := rnd_bd hh.1 hh.2; unfold hiP; omega
theorem en_bd {t : Trf} {p : Per} (ht : OkT t) (hp : okP p 200) : 0 ≤ enOf t p ∧ enOf t p ≤ 60000300000006 := by
  simp only [okP] at hp
  have a := ckB (x := p.i0) (b := t.b0) (by unfold okI; omega) ht.a0
  have b := ckB (x := p.i1) (b := t.b1) (by unfold okI; omega) ht.a1
  have c := ckB (x := p.i2) (b := t.b2) (by unfold okI; omega) ht.a2
  have := a.lp; have := a.hp; have := b.lp; have := b.hp; have := c.lp; have := c.hp
  unfold enOf; omega
theorem pkR_bd {ps : List Per} (h : ∀ k, okP (pAt ps k) 200) (a : Nat) : ∀ n, 0 ≤ pkR ps a n ∧ pkR ps a n ≤ 4000000000
  | 0 => by show (0 : Int) ≤ 0 ∧ (0 : Int) ≤ 4000000000; omega
  | n + 1 => by
    obtain ⟨x, y⟩ := pkR_bd h a n
    have := h (a + n)
    simp only [okP] at this
    show 0 ≤ mx _ _ ∧ mx _ _ ≤ 4000000000
    unfold mx; split <;> omega
theorem pAt_ok {ps : List Per} (h : ∀ p ∈ ps, okP p 200) (k : Nat) : okP (pAt ps k) 200 := by
  by_cases e : k < ps.length
  · have : ps[k]? = some ps[k] := List.getElem?_eq_getElem e
    rw [pAt_some this]; exact h _ (List.getElem_mem e)
  · have : pAt ps k = per0 := by simp [pAt, List.getElem?_eq_none (Nat.le_of_not_lt e)]
    rw [this]; exact okP_zero _
structure LnB (t : Trf) (ps : List Per) (i : Nat) : Prop where
  pk : 0 ≤ pkA ps i t.d.z ∧ pkA ps i t.d.z ≤ 4000000000
  pm : 0 ≤ pkA ps i t.d.z * t.d.y ∧ pkA ps i t.d.z * t.d.y ≤ 400000000000
  bl : 0 ≤ blOf t ps i ∧ blOf t ps i ≤ 4000000000
  bm : 0 ≤ blOf t ps i * t.d.x ∧ blOf t ps i * t.d.x ≤ 4000000000000000
  pw : 0 ≤ pwOf t ps i ∧ pwOf t ps i ≤ 4000000000001
  en : 0 ≤ enOf t (pAt ps i) ∧ enOf t (pAt ps i) ≤ 60000300000006
  om : 0 ≤ (pAt ps i).o * t.np ∧ (pAt ps i).o * t.np ≤ 20000000000000000
  pd : 0 ≤ pdOf t ps i ∧ pdOf t ps i ≤ 20000000000001
theorem lnB {t : Trf} {ps : List Per} (ht : OkT t) (h : ∀ k, okP (pAt ps k) 200) (i : Nat) : LnB t ps i := by
  have pk := pkR_bd h (from0 i t.d.z) (i - from0 i t.d.z)
  obtain ⟨d1, d2, d3, d4, d5, d6⟩ := ht.d
  obtain ⟨n1, n2, n3, n4⟩ := ht.n
  have pm := mul_bd pk.1 pk.2 d3 d4
  have hp := h i
  have hp' := hp
  simp only [okP] at hp'
  have pd : 0 ≤ pkA ps i t.d.z * t.d.y ∧ pkA ps i t.d.z * t.d.y ≤ 400000000000 := by unfold pkA; omega
  have bl : 0 ≤ blOf t ps i ∧ blOf t ps i ≤ 4000000000 := by unfold blOf mx; split <;> omega
  have bm := mul_bd bl.1 bl.2 d1 d2
  have om := mul_bd (show 0 ≤ (pAt ps i).o by omega) (show (pAt ps i).o ≤ 200000000000 by omega) n1 n2
  have r1 := rnd_bd bm.1 bm.2
  have r2 := rnd_bd om.1 om.2
  exact ⟨pk, pd, bl, by omega, by unfold pwOf; omega, en_bd ht hp, by omega, by unfold pdOf; omega⟩
theorem c1_ok {t : Trf} {c : List Int} (h : okL 20000000000001 c) : okL 20000000000001 (c1Of t c) := expC_ok h (by omega) _
theorem cr_ok {t : Trf} {ps : List Per} (ht : OkT t) (h : ∀ k, okP (pAt ps k) 200) : ∀ k, okL 20000000000001 (crR t ps k)
  | 0 => fun j hj => by simp [crR] at hj
  | k + 1 => by
    have b := lnB ht h k
    exact okL_snoc (appC_ok (c1_ok (cr_ok ht h k)) b.en.1 _ (Nat.le_refl _)) b.pd.1 b.pd.2
structure LnC (t : Trf) (ps : List Per) (c : List Int) (i : Nat) : Prop where
  ap : 0 ≤ apOf t ps c i ∧ apOf t ps c i ≤ enOf t (pAt ps i)
  su : 0 ≤ suOf t ps c i ∧ suOf t ps c i ≤ 64000302000007
  sm : 0 ≤ suOf t ps c i * t.tax ∧ suOf t ps c i * t.tax ≤ 64000302000007000
theorem lnC {t : Trf} {ps : List Per} (ht : OkT t) (h : ∀ k, okP (pAt ps k) 200) {c : List Int} (hc : okL 20000000000001 c) (i : Nat) : LnC t ps c i := by
  have b := lnB ht h i
  have ap := appA_bd (c1_ok (t := t) hc) b.en.1 _ (Nat.le_refl _)
  have ap' : 0 ≤ apOf t ps c i ∧ apOf t ps c i ≤ enOf t (pAt ps i) := ap
  obtain ⟨f1, f2, f3, f4, f5, f6⟩ := ht.f
  have e := b.en
  have pw := b.pw
  have su : 0 ≤ suOf t ps c i ∧ suOf t ps c i ≤ 64000302000007 := by unfold suOf mx; split <;> omega
  have sm := mul_bd su.1 su.2 f5 f6
  exact ⟨ap', su, by omega⟩
/-- nothing is lost in the bank -/
theorem bank_step (t : Trf) (ps : List Per) (c : List Int) (hn : 0 ≤ t.nn) (i : Nat) : (c3Of t ps c i).sum + apOf t ps c i + exOf t c = c.sum + pdOf t ps i := by
  unfold c3Of
  rw [sum_snoc]
  unfold c2Of
  rw [appC_sum _ _ _ (Nat.le_refl _)]
  unfold c1Of
  rw [expC_sum _ _ (by unfold exN; omega)]
  unfold apOf exOf c1Of
  omega
end Bil
end Go.Proofs.YtjaffmmocbplaabGreatDoor
