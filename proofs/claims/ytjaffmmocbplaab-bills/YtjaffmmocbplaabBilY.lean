/-
  BilM, BnkW, BnkX, BilW, BilX, BilL, LinR, BilD, RbW, LinW, SamL, RblW in one text (made by tools/merge.py).
-/
import Derived.Test.YtjaffmmocbplaabNotM
import Derived.Test.YtjaffmmocbplaabSamP
import Derived.Test.YtjaffmmocbplaabPenL
import Derived.BigQuiet
import Derived.Lib.OwnKind
import Derived.Deep.RegionHeld3
namespace Go.Proofs.Ytjaffmmocbplaab
set_option linter.unusedVariables false

namespace Bil
def rnd (n : Int) : Int := (n + 500) / 1000
def mn (a b : Int) : Int := if a < b then a else b
theorem mn_le (a b : Int) : mn a b ≤ a ∧ mn a b ≤ b := by unfold mn; split <;> omega
theorem mn_or (a b : Int) : mn a b = a ∨ mn a b = b := by unfold mn; split <;> omega
theorem mx_ge (a b : Int) : a ≤ mx a b ∧ b ≤ mx a b := by unfold mx; split <;> omega
theorem mx_or (a b : Int) : mx a b = a ∨ mx a b = b := by unfold mx; split <;> omega
theorem rnd_bd {n B : Int} (h0 : 0 ≤ n) (h1 : n ≤ B) : 0 ≤ rnd n ∧ rnd n * 1000 ≤ B + 500 := by unfold rnd; omega
theorem rnd_mono {a b : Int} (h : a ≤ b) : rnd a ≤ rnd b := by unfold rnd; omega

/-! ### lists of credits -/
def cAt (c : List Int) (k : Nat) : Int := c.getD k 0
theorem cAt_get {c : List Int} {k : Nat} (h : k < c.length) : c[k]? = some (cAt c k) := by simp [cAt, h]
theorem cAt_some {c : List Int} {k : Nat} {x : Int} (h : c[k]? = some x) : cAt c k = x := by simp [cAt, h]
theorem sum_snoc (c : List Int) (x : Int) : (c ++ [x]).sum = c.sum + x := by simp
theorem sum_take {c : List Int} {k : Nat} (h : k < c.length) : (c.take (k + 1)).sum = (c.take k).sum + cAt c k := by rw [take_snoc (cAt_get h), sum_snoc]
theorem sum_set : ∀ (c : List Int) (k : Nat) (v : Int), k < c.length → (c.set k v).sum = c.sum - cAt c k + v
  | [], k, v, h => by simp at h
  | x :: c, 0, v, h => by simp [cAt]; omega
  | x :: c, k + 1, v, h => by
    have := sum_set c k v (by simpa using h)
    have e : cAt (x :: c) (k + 1) = cAt c k := by simp [cAt]
    simp only [List.set_cons_succ, List.sum_cons, this, e]; omega
def okL (B : Int) (c : List Int) : Prop := ∀ k, k < c.length → 0 ≤ cAt c k ∧ cAt c k ≤ B
theorem okL_set {B : Int} {c : List Int} (h : okL B c) {k : Nat} {v : Int} (h0 : 0 ≤ v) (h1 : v ≤ B) : okL B (c.set k v) := by
  intro j hj
  rw [List.length_set] at hj
  unfold cAt
  rw [List.getD_eq_getElem?_getD, List.getElem?_set]
  by_cases e : k = j
  · subst e; rw [if_pos rfl, if_pos hj]; exact ⟨h0, h1⟩
  · rw [if_neg e]; exact h j hj
theorem okL_snoc {B : Int} {c : List Int} (h : okL B c) {v : Int} (h0 : 0 ≤ v) (h1 : v ≤ B) : okL B (c ++ [v]) := by
  intro j hj
  rw [List.length_append, List.length_singleton] at hj
  by_cases e : j < c.length
  · have : cAt (c ++ [v]) j = cAt c j := by simp [cAt, List.getElem?_append_left e]
    rw [this]; exact h j e
  · have e' : j = c.length := by omega
    subst e'
    have : cAt (c ++ [v]) c.length = v := by simp [cAt]
    rw [this]; exact ⟨h0, h1⟩
theorem okL_sum {B : Int} {c : List Int} (h : okL B c) : ∀ k, k ≤ c.length → 0 ≤ (c.take k).sum ∧ (c.take k).sum ≤ k * B
  | 0, _ => by simp
  | k + 1, hk => by
    obtain ⟨a, b⟩ := okL_sum h k (by omega)
    obtain ⟨d, e⟩ := h k (by omega)
    rw [sum_take (by omega)]
    have : ((k + 1 : Nat) : Int) * B = k * B + B := by rw [Int.natCast_add, Int.add_mul]; omega
    omega

/-! ### what expires -/
def expC (c : List Int) : Nat → List Int
  | 0 => c
  | k + 1 => (expC c k).set k 0
theorem expC_len (c : List Int) : ∀ k, (expC c k).length = c.length
  | 0 => rfl
  | k + 1 => by show ((expC c k).set k 0).length = _; rw [List.length_set, expC_len c k]
theorem expC_get (c : List Int) : ∀ k j, k ≤ j → cAt (expC c k) j = cAt c j
  | 0, j, _ => rfl
  | k + 1, j, h => by
    show cAt ((expC c k).set k 0) j = _
    unfold cAt
    rw [List.getD_eq_getElem?_getD, List.getElem?_set, if_neg (by omega)]
    exact expC_get c k j (by omega)
theorem expC_sum (c : List Int) : ∀ k, k ≤ c.length → (expC c k).sum = c.sum - (c.take k).sum
  | 0, _ => by simp [expC]
  | k + 1, h => by
    show ((expC c k).set k 0).sum = _
    rw [sum_set _ _ _ (by rw [expC_len]; omega), expC_sum c k (by omega), expC_get c k k (Nat.le_refl _), sum_take (by omega)]; omega
theorem expC_ok {B : Int} {c : List Int} (h : okL B c) (hB : 0 ≤ B) : ∀ k, okL B (expC c k)
  | 0 => h
  | k + 1 => okL_set (expC_ok h hB k) (Int.le_refl _) hB

/-! ### what is applied -/
def appA (m : Int) (c : List Int) : Nat → Int
  | 0 => 0
  | k + 1 => appA m c k + mn (cAt c k) (m - appA m c k)
def appC (m : Int) (c : List Int) : Nat → List Int
  | 0 => c
  | k + 1 => (appC m c k).set k (cAt c k - mn (cAt c k) (m - appA m c k))
theorem appC_len (m : Int) (c : List Int) : ∀ k, (appC m c k).length = c.length
  | 0 => rfl
  | k + 1 => by show ((appC m c k).set k _).length = _; rw [List.length_set, appC_len m c k]
theorem appC_get (m : Int) (c : List Int) : ∀ k j, k ≤ j → cAt (appC m c k) j = cAt c j
  | 0, j, _ => rfl
  | k + 1, j, h => by
    show cAt ((appC m c k).set k _) j = _
    unfold cAt
    rw [List.getD_eq_getElem?_getD, List.getElem?_set, if_neg (by omega)]
    exact appC_get m c k j (by omega)
theorem appC_sum (m : Int) (c : List Int) : ∀ k, k ≤ c.length → (appC m c k).sum = c.sum - appA m c k
  | 0, _ => by simp [appC, appA]
  | k + 1, h => by
    show ((appC m c k).set k _).sum = c.sum - (appA m c k + _)
    rw [sum_set _ _ _ (by rw [appC_len]; omega), appC_sum m c k (by omega), appC_get m c k k (Nat.le_refl _)]; omega
theorem appA_bd {m B : Int} {c : List Int} (h : okL B c) (hm : 0 ≤ m) : ∀ k, k ≤ c.length → 0 ≤ appA m c k ∧ appA m c k ≤ m
  | 0, _ => ⟨Int.le_refl _, hm⟩
  | k + 1, hk => by
    obtain ⟨a, b⟩ := appA_bd h hm k (by omega)
    obtain ⟨d, _⟩ := h k (by omega)
    obtain ⟨e, f⟩ := mn_le (cAt c k) (m - appA m c k)
    have := mn_or (cAt c k) (m - appA m c k)
    show 0 ≤ appA m c k + mn (cAt c k) (m - appA m c k) ∧ appA m c k + mn (cAt c k) (m - appA m c k) ≤ m
    omega
theorem appC_ok {m B : Int} {c : List Int} (h : okL B c) (hm : 0 ≤ m) : ∀ k, k ≤ c.length → okL B (appC m c k)
  | 0, _ => h
  | k + 1, hk => by
    obtain ⟨a, b⟩ := appA_bd h hm k (by omega)
    obtain ⟨d, g⟩ := h k (by omega)
    obtain ⟨e, f⟩ := mn_le (cAt c k) (m - appA m c k)
    have := mn_or (cAt c k) (m - appA m c k)
    exact okL_set (appC_ok h hm k (by omega)) (by omega) (by omega)

/-! ### the line -/
structure Ln where
  i0 : Int
  i1 : Int
  i2 : Int
  o : Int
  pk : Int
  bl : Int
  en : Int
  pw : Int
  ap : Int
  ex : Int
  pd : Int
  bk : Int
  su : Int
  tx : Int
  to : Int
def pAt (ps : List Per) (k : Nat) : Per := ps.getD k per0
theorem pAt_some {ps : List Per} {k : Nat} {x : Per} (h : ps[k]? = some x) : pAt ps k = x := by simp [pAt, h]
/-- the largest peak of n periods from a on -/
def pkR (ps : List Per) (a : Nat) : Nat → Int
  | 0 => 0
  | n + 1 => mx (pkR ps a n) (pAt ps (a + n)).pk
def from0 (i : Nat) (q : Int) : Nat := ((i : Int) - q).toNat
def pkA (ps : List Per) (i : Nat) (q : Int) : Int := pkR ps (from0 i q) (i - from0 i q)
def lowP (x : Int) (b : Blk) : Int := rnd (mn x b.x * b.y)
def hiP (x : Int) (b : Blk) : Int := rnd ((x - mn x b.x) * b.z)
def enOf (t : Trf) (p : Per) : Int := 0 + lowP p.i0 t.b0 + hiP p.i0 t.b0 + lowP p.i1 t.b1 + hiP p.i1 t.b1 + lowP p.i2 t.b2 + hiP p.i2 t.b2
def blOf (t : Trf) (ps : List Per) (i : Nat) : Int := mx (pAt ps i).pk (pkA ps i t.d.z * t.d.y / 100)
def pwOf (t : Trf) (ps : List Per) (i : Nat) : Int := rnd (blOf t ps i * t.d.x)
def pdOf (t : Trf) (ps : List Per) (i : Nat) : Int := rnd ((pAt ps i).o * t.np)
def exN (t : Trf) (c : List Int) : Nat := ((c.length : Int) - t.nn).toNat
def exOf (t : Trf) (c : List Int) : Int := (c.take (exN t c)).sum
def c1Of (t : Trf) (c : List Int) : List Int := expC c (exN t c)
def apOf (t : Trf) (ps : List Per) (c : List Int) (i : Nat) : Int := appA (enOf t (pAt ps i)) (c1Of t c) (c1Of t c).length
def c2Of (t : Trf) (ps : List Per) (c : List Int) (i : Nat) : List Int := appC (enOf t (pAt ps i)) (c1Of t c) (c1Of t c).length
def c3Of (t : Trf) (ps : List Per) (c : List Int) (i : Nat) : List Int := c2Of t ps c i ++ [pdOf t ps i]
def suOf (t : Trf) (ps : List Per) (c : List Int) (i : Nat) : Int := mx (t.fix + enOf t (pAt ps i) - apOf t ps c i + pwOf t ps i) t.min
def lnOf (t : Trf) (ps : List Per) (c : List Int) (i : Nat) : Ln :=
  ⟨(pAt ps i).i0, (pAt ps i).i1, (pAt ps i).i2, (pAt ps i).o, (pAt ps i).pk, blOf t ps i, enOf t (pAt ps i), pwOf t ps i, apOf t ps c i, exOf t c, pdOf t ps i, (c3Of t ps c i).sum, suOf t ps c i, rnd (suOf t ps c i * t.tax), suOf t ps c i + rnd (suOf t ps c i * t.tax)⟩
/-- the credits ahead of period k -/
def crR (t : Trf) (ps : List Per) : Nat → List Int
  | 0 => []
  | k + 1 => c3Of t ps (crR t ps k) k
def lnAt (t : Trf) (ps : List Per) (k : Nat) : Ln := lnOf t ps (crR t ps k) k
def lnR (t : Trf) (ps : List Per) : Nat → List Ln
  | 0 => []
  | k + 1 => lnR t ps k ++ [lnAt t ps k]
theorem lnR_len (t : Trf) (ps : List Per) : ∀ k, (lnR t ps k).length = k
  | 0 => rfl
  | k + 1 => by show (lnR t ps k ++ [_]).length = _; rw [List.length_append, lnR_len t ps k]; rfl
theorem lnR_get (t : Trf) (ps : List Per) : ∀ k j, j < k → (lnR t ps k)[j]? = some (lnAt t ps j)
  | k + 1, j, h => by
    show (lnR t ps k ++ [_])[j]? = _
    by_cases e : j < k
    · rw [List.getElem?_append_left (by rw [lnR_len]; exact e)]; exact lnR_get t ps k j e
    · have e' : j = k := by omega
      subst e'
      rw [List.getElem?_append_right (by rw [lnR_len]; exact Nat.le_refl _), lnR_len]; simp
theorem c3_len (t : Trf) (ps : List Per) (c : List Int) (i : Nat) : (c3Of t ps c i).length = c.length + 1 := by
  simp [c3Of, c2Of, appC_len, c1Of, expC_len]
theorem crR_len (t : Trf) (ps : List Per) : ∀ k, (crR t ps k).length = k
  | 0 => rfl
  | k + 1 => by show (c3Of t ps (crR t ps k) k).length = _; rw [c3_len, crR_len t ps k]

/-! ### bounds -/
structure OkT (t : Trf) : Prop where
  a0 : 0 ≤ t.b0.x ∧ t.b0.x ≤ 1000000 ∧ 0 ≤ t.b0.y ∧ t.b0.y ≤ 100000 ∧ 0 ≤ t.b0.z ∧ t.b0.z ≤ 100000
  a1 : 0 ≤ t.b1.x ∧ t.b1.x ≤ 1000000 ∧ 0 ≤ t.b1.y ∧ t.b1.y ≤ 100000 ∧ 0 ≤ t.b1.z ∧ t.b1.z ≤ 100000
  a2 : 0 ≤ t.b2.x ∧ t.b2.x ≤ 1000000 ∧ 0 ≤ t.b2.y ∧ t.b2.y ≤ 100000 ∧ 0 ≤ t.b2.z ∧ t.b2.z ≤ 100000
  d : 0 ≤ t.d.x ∧ t.d.x ≤ 1000000 ∧ 0 ≤ t.d.y ∧ t.d.y ≤ 100 ∧ 0 ≤ t.d.z ∧ t.d.z ≤ 12
  n : 0 ≤ t.np ∧ t.np ≤ 100000 ∧ 0 ≤ t.nn ∧ t.nn ≤ 12
  f : 0 ≤ t.fix ∧ t.fix ≤ 1000000 ∧ 0 ≤ t.min ∧ t.min ≤ 1000000 ∧ 0 ≤ t.tax ∧ t.tax ≤ 1000
theorem okT {t : Trf} (h : badN t = 13) : OkT t := by
  have h7 : blkB t.b0 = true := badN_good (t := t) (j := 7) (by omega)
  have h8 : blkB t.b1 = true := badN_good (t := t) (j := 8) (by omega)
  have h9 : blkB t.b2 = true := badN_good (t := t) (j := 9) (by omega)
  have h10 : dmdB t.d = true := badN_good (t := t) (j := 10) (by omega)
  have h11 : (inB t.np 0 100000 && inB t.nn 0 12) = true := badN_good (t := t) (j := 11) (by omega)
  have h12 : (inB t.fix 0 1000000 && inB t.min 0 1000000 && inB t.tax 0 1000) = true := badN_good (t := t) (j := 12) (by omega)
  simp only [blkB, dmdB, Bool.and_eq_true, inB_iff] at h7 h8 h9 h10 h11 h12
  constructor <;> omega
def okI (x : Int) : Prop := 0 ≤ x ∧ x ≤ 200000000000
/-- the parts of a class's price -/
structure CkB (x : Int) (b : Blk) : Prop where
  i : 0 ≤ x ∧ x ≤ 200000000000
  m : 0 ≤ mn x b.x ∧ mn x b.x ≤ 1000000 ∧ mn x b.x ≤ x
  l : 0 ≤ mn x b.x * b.y ∧ mn x b.x * b.y ≤ 100000000000
  h : 0 ≤ (x - mn x b.x) * b.z ∧ (x - mn x b.x) * b.z ≤ 20000000000000000
  lp : 0 ≤ lowP x b ∧ lowP x b ≤ 100000001
  hp : 0 ≤ hiP x b ∧ hiP x b ≤ 20000000000001
theorem ckB {x : Int} {b : Blk} (h : okI x) (hb : 0 ≤ b.x ∧ b.x ≤ 1000000 ∧ 0 ≤ b.y ∧ b.y ≤ 100000 ∧ 0 ≤ b.z ∧ b.z ≤ 100000) : CkB x b := by
  obtain ⟨h0, h1⟩ := h
  obtain ⟨b1, b2, b3, b4, b5, b6⟩ := hb
  obtain ⟨m1, m2⟩ := mn_le x b.x
  have m3 := mn_or x b.x
  have m0 : 0 ≤ mn x b.x := by omega
  have l := mul_bd m0 (show mn x b.x ≤ 1000000 by omega) b3 b4
  have hh := mul_bd (show 0 ≤ x - mn x b.x by omega) (show x - mn x b.x ≤ 200000000000 by omega) b5 b6
  refine ⟨⟨h0, h1⟩, ⟨m0, by omega, m1⟩, by omega, by omega, ?_, ?_⟩
  · have := rnd_bd l.1 l.2; unfold lowP; omega
  · have := rnd_bd hh.1 hh.2; unfold hiP; omega
theorem en_bd {t : Trf} {p : Per} (ht : OkT t) (hp : okP p 200) : 0 ≤ enOf t p ∧ enOf t p ≤ 60000300000006 := by
  simp only [okP] at hp
  have a := ckB (x := p.i0) (b := t.b0) (by unfold okI; omega) ht.a0
  have b := ckB (x := p.i1) (b := t.b1) (by unfold okI; omega) ht.a1
  have c := ckB (x := p.i2) (b := t.b2) (by unfold okI; omega) ht.a2
  have := a.lp; have := a.hp; have := b.lp; have := b.hp; have := c.lp; have := c.hp
  unfold enOf; omega
theorem pkR_bd {ps : List Per} (h : ∀ k, okP (pAt ps k) 200) (a : Nat) : ∀ n, 0 ≤ pkR ps a n ∧ pkR ps a n ≤ 4000000000
  | 0 => by show (0 : Int) ≤ 0 ∧ (0 : Int) ≤ 4000000000; omega
  | n + 1 => by
    obtain ⟨x, y⟩ := pkR_bd h a n
    have := h (a + n)
    simp only [okP] at this
    show 0 ≤ mx _ _ ∧ mx _ _ ≤ 4000000000
    unfold mx; split <;> omega
theorem pAt_ok {ps : List Per} (h : ∀ p ∈ ps, okP p 200) (k : Nat) : okP (pAt ps k) 200 := by
  by_cases e : k < ps.length
  · have : ps[k]? = some ps[k] := List.getElem?_eq_getElem e
    rw [pAt_some this]; exact h _ (List.getElem_mem e)
  · have : pAt ps k = per0 := by simp [pAt, List.getElem?_eq_none (Nat.le_of_not_lt e)]
    rw [this]; exact okP_zero _
structure LnB (t : Trf) (ps : List Per) (i : Nat) : Prop where
  pk : 0 ≤ pkA ps i t.d.z ∧ pkA ps i t.d.z ≤ 4000000000
  pm : 0 ≤ pkA ps i t.d.z * t.d.y ∧ pkA ps i t.d.z * t.d.y ≤ 400000000000
  bl : 0 ≤ blOf t ps i ∧ blOf t ps i ≤ 4000000000
  bm : 0 ≤ blOf t ps i * t.d.x ∧ blOf t ps i * t.d.x ≤ 4000000000000000
  pw : 0 ≤ pwOf t ps i ∧ pwOf t ps i ≤ 4000000000001
  en : 0 ≤ enOf t (pAt ps i) ∧ enOf t (pAt ps i) ≤ 60000300000006
  om : 0 ≤ (pAt ps i).o * t.np ∧ (pAt ps i).o * t.np ≤ 20000000000000000
  pd : 0 ≤ pdOf t ps i ∧ pdOf t ps i ≤ 20000000000001
theorem lnB {t : Trf} {ps : List Per} (ht : OkT t) (h : ∀ k, okP (pAt ps k) 200) (i : Nat) : LnB t ps i := by
  have pk := pkR_bd h (from0 i t.d.z) (i - from0 i t.d.z)
  obtain ⟨d1, d2, d3, d4, d5, d6⟩ := ht.d
  obtain ⟨n1, n2, n3, n4⟩ := ht.n
  have pm := mul_bd pk.1 pk.2 d3 d4
  have hp := h i
  have hp' := hp
  simp only [okP] at hp'
  have pd : 0 ≤ pkA ps i t.d.z * t.d.y ∧ pkA ps i t.d.z * t.d.y ≤ 400000000000 := by unfold pkA; omega
  have bl : 0 ≤ blOf t ps i ∧ blOf t ps i ≤ 4000000000 := by unfold blOf mx; split <;> omega
  have bm := mul_bd bl.1 bl.2 d1 d2
  have om := mul_bd (show 0 ≤ (pAt ps i).o by omega) (show (pAt ps i).o ≤ 200000000000 by omega) n1 n2
  have r1 := rnd_bd bm.1 bm.2
  have r2 := rnd_bd om.1 om.2
  exact ⟨pk, pd, bl, by omega, by unfold pwOf; omega, en_bd ht hp, by omega, by unfold pdOf; omega⟩
theorem c1_ok {t : Trf} {c : List Int} (h : okL 20000000000001 c) : okL 20000000000001 (c1Of t c) := expC_ok h (by omega) _
theorem cr_ok {t : Trf} {ps : List Per} (ht : OkT t) (h : ∀ k, okP (pAt ps k) 200) : ∀ k, okL 20000000000001 (crR t ps k)
  | 0 => fun j hj => by simp [crR] at hj
  | k + 1 => by
    have b := lnB ht h k
    exact okL_snoc (appC_ok (c1_ok (cr_ok ht h k)) b.en.1 _ (Nat.le_refl _)) b.pd.1 b.pd.2
structure LnC (t : Trf) (ps : List Per) (c : List Int) (i : Nat) : Prop where
  ap : 0 ≤ apOf t ps c i ∧ apOf t ps c i ≤ enOf t (pAt ps i)
  su : 0 ≤ suOf t ps c i ∧ suOf t ps c i ≤ 64000302000007
  sm : 0 ≤ suOf t ps c i * t.tax ∧ suOf t ps c i * t.tax ≤ 64000302000007000
theorem lnC {t : Trf} {ps : List Per} (ht : OkT t) (h : ∀ k, okP (pAt ps k) 200) {c : List Int} (hc : okL 20000000000001 c) (i : Nat) : LnC t ps c i := by
  have b := lnB ht h i
  have ap := appA_bd (c1_ok (t := t) hc) b.en.1 _ (Nat.le_refl _)
  have ap' : 0 ≤ apOf t ps c i ∧ apOf t ps c i ≤ enOf t (pAt ps i) := ap
  obtain ⟨f1, f2, f3, f4, f5, f6⟩ := ht.f
  have e := b.en
  have pw := b.pw
  have su : 0 ≤ suOf t ps c i ∧ suOf t ps c i ≤ 64000302000007 := by unfold suOf mx; split <;> omega
  have sm := mul_bd su.1 su.2 f5 f6
  exact ⟨ap', su, by omega⟩
/-- nothing is lost in the bank -/
theorem bank_step (t : Trf) (ps : List Per) (c : List Int) (hn : 0 ≤ t.nn) (i : Nat) : (c3Of t ps c i).sum + apOf t ps c i + exOf t c = c.sum + pdOf t ps i := by
  unfold c3Of
  rw [sum_snoc]
  unfold c2Of
  rw [appC_sum _ _ _ (Nat.le_refl _)]
  unfold c1Of
  rw [expC_sum _ _ (by unfold exN; omega)]
  unfold apOf exOf c1Of
  omega
end Bil
end Go.Proofs.Ytjaffmmocbplaab

namespace Go.Proofs.Ytjaffmmocbplaab
open Go.RowKit Bil
set_option linter.unusedVariables false
attribute [local go_sem ↓] Go.wp_at_zero Go.wp_at_succ

theorem rounded_any (n : Int) (w : World) (h0 : 0 ≤ n) (h1 : n ≤ 9000000000000000000) :
    Calls Try.prog 40 #[.int .i64 n] w fun e w' => e = .returned (.int .i64 (rnd n)) ∧ w' = w := by
  have ht : (n + 500).tdiv 1000 = rnd n := Int.tdiv_eq_ediv_of_nonneg (by omega)
  have hb := rnd_bd h0 h1
  go_enter Try.func40, Try.ntmps40
  go_wp2
  go_ret
  exact ⟨rfl, rfl⟩
theorem larger_any (a b : Int) (w : World) : Calls Try.prog 38 #[.int .i64 a, .int .i64 b] w fun e w' => e = .returned (.int .i64 (mx a b)) ∧ w' = w := by
  by_cases h : b < a
  all_goals
    go_enter Try.func38, Try.ntmps38
    go_wp2
    go_ret
    exact ⟨ret_int (by unfold mx; split <;> omega), rfl⟩
theorem smaller_any (a b : Int) (w : World) : Calls Try.prog 68 #[.int .i64 a, .int .i64 b] w fun e w' => e = .returned (.int .i64 (mn a b)) ∧ w' = w := by
  by_cases h : a < b
  all_goals
    go_enter Try.func68, Try.ntmps68
    go_wp2
    go_ret
    exact ⟨ret_int (by unfold mn; split <;> omega), rfl⟩

/-- the bank in block b: its list in memory is v -/
structure BankAt (w : World) (base b : Nat) (v : Value) (c : List Int) : Prop where
  lt : b < w.heap.size
  c0 : w.cell? ⟨b, 0, none⟩ = some v
  f0 : w.frozen? ⟨b, 0, none⟩ = false
  own : w.ownsRow base 3 1 v c.length (ints c)
  hb : b < base
  hz : base ≤ w.heap.size
theorem BankAt.ne {w : World} {base b : Nat} {v : Value} {c : List Int} (h : BankAt w base b v c) : v.ownBlock ≠ some b := fun e => by have := (h.own.lt b e).1; have := h.hb; omega
theorem BankAt.kept {w w' : World} {base b : Nat} {v : Value} {c : List Int} {r : Option Nat} (h : BankAt w base b v c) (hg : w.grownBy w' r) (h1 : some b ≠ r) (h2 : v.ownBlock = none ∨ v.ownBlock ≠ r) : BankAt w' base b v c := by
  have e : w'.heap[b]? = w.heap[b]? := hg.block b h.lt h1
  exact ⟨Nat.lt_of_lt_of_le h.lt hg.size, (World.cell?_of_block (a := ⟨b, 0, none⟩) e).trans h.c0, (World.frozen?_of_block (a := ⟨b, 0, none⟩) e).trans h.f0, h.own.kept hg h2, h.hb, Nat.le_trans h.hz hg.size⟩
theorem BankAt.below {w w' : World} {base b : Nat} {v : Value} {c : List Int} (h : BankAt w base b v c) (hb : Below w.heap.size w w') : BankAt w' base b v c := by
  have e := hb.block b h.lt
  exact ⟨Nat.lt_of_lt_of_le h.lt hb.size, (World.cell?_of_block (a := ⟨b, 0, none⟩) e).trans h.c0, (World.frozen?_of_block (a := ⟨b, 0, none⟩) e).trans h.f0, own_below h.own hb, h.hb, Nat.le_trans h.hz hb.size⟩
theorem BankAt.drewN {w : World} {base b : Nat} {v : Value} {c : List Int} (h : BankAt w base b v c) (n : Nat) : BankAt (w.drewN n) base b v c := ⟨h.lt, h.c0, h.f0, h.own, h.hb, h.hz⟩
theorem ints_get {c : List Int} {k : Nat} (h : k < c.length) : (ints c)[k]? = some (.int .i64 (cAt c k)) := by
  simp [ints, cAt_get h]
/-- the credit at k, and its place -/
theorem BankAt.at {w : World} {base b n : Nat} {v : Value} {c : List Int} (h : BankAt w base b v c) (hn : c.length = n) {k : Nat} (hk : k < n) :
    ∃ g cap, v = .slice (some ⟨g, 0, none⟩) n cap ∧ n ≤ cap ∧ g < w.heap.size ∧ ¬ g = b ∧ w.cell? ⟨g, k, none⟩ = some (.int .i64 (cAt c k)) ∧ w.frozen? ⟨g, k, none⟩ = false := by
  subst hn
  have own := h.own
  obtain ⟨g, cap, rfl, hb, hlt⟩ := own.form (by omega)
  have hcap : c.length ≤ cap := by
    rcases own.2 with ⟨h1, _⟩ | ⟨g', cap', cur, hv, _, _, hc, _⟩
    · cases h1
    · cases hv; exact hc
  refine ⟨g, cap, rfl, hcap, hlt, fun e => h.ne (by rw [e]; rfl), ?_, own.frozenAt k⟩
  rw [own.cellAt k (by omega), ints_get hk]
theorem BankAt.put {w : World} {base b g cap n : Nat} {c : List Int} (h : BankAt w base b (.slice (some ⟨g, 0, none⟩) n cap) c) (hn : c.length = n) (k : Nat) (x : Int) :
    BankAt (w.setCell ⟨g, k, none⟩ (.int .i64 x)) base b (.slice (some ⟨g, 0, none⟩) n cap) (c.set k x) := by
  subst hn
  have hne : ¬ b = g := fun e => h.ne (by rw [e]; rfl)
  obtain ⟨s1, s2⟩ := h.own.stored k (.int .i64 x)
  have e : (w.setCell ⟨g, k, none⟩ (.int .i64 x)).heap[b]? = w.heap[b]? := s2.block b h.lt (fun e => hne (by injection e))
  refine ⟨Nat.lt_of_lt_of_le h.lt s2.size, (World.cell?_of_block (a := ⟨b, 0, none⟩) e).trans h.c0, (World.frozen?_of_block (a := ⟨b, 0, none⟩) e).trans h.f0, ?_, h.hb, Nat.le_trans h.hz s2.size⟩
  rw [List.length_set]
  have : ints (c.set k x) = (ints c).set k (.int .i64 x) := by simp [ints, List.map_set]
  rw [this]; exact s1
theorem BankAt.form {w : World} {base b n : Nat} {v : Value} {c : List Int} (h : BankAt w base b v c) (hn : c.length = n) : ∃ a cap, v = .slice a n cap := by
  subst hn; exact own_slice h.own

set_option maxHeartbeats 1000000 in
theorem expire_any (c : List Int) (q : Int) (base b : Nat) (v : Value) (w : World) (h : BankAt w base b v c) (hc : okL 20000000000001 c) (hl : c.length ≤ 40000) (q0 : 0 ≤ q) (q1 : q ≤ 12) :
    Calls Try.prog 41 #[.pointer (some ⟨b, 0, none⟩), .int .i64 q] w fun e w' => e = .returned (.int .i64 ((c.take ((c.length : Int) - q).toNat).sum)) ∧ w.grownBy w' v.ownBlock ∧ BankAt w' base b v (expC c ((c.length : Int) - q).toNat) := by
  obtain ⟨n, hn⟩ : ∃ n, n = ((c.length : Int) - q).toNat := ⟨_, rfl⟩
  rw [← hn]
  obtain ⟨N, hN⟩ : ∃ N, N = c.length := ⟨_, rfl⟩
  have HLE : n ≤ N := by omega
  have HQ : (n : Int) = N - q ∨ (n = 0 ∧ (N : Int) - q ≤ 0) := by omega
  have SUM := hideF (fun k (hk : k ≤ N) => okL_sum hc k (by omega))
  have HLN := hideF hN.symm
  have hNl : N ≤ 40000 := by omega
  clear hn hl hc
  have HN : Hid (N = c.length) := hN
  clear hN
  obtain ⟨a, cap, rfl⟩ := h.form HN.out.symm
  go_enter Try.func41, Try.ntmps41
  go_wp2_with fail
  go_loopw [5, 6] (fun x i wr => ∃ k : Nat, i = .int .i64 k ∧ k ≤ n ∧ x = .int .i64 (c.take k).sum ∧ w.grownBy wr (Value.ownBlock (.slice a N cap)) ∧ BankAt wr base b (.slice a N cap) (expC c k)) (fun _ i _ => n - (intOf i).toNat)
  case atStart => exact ⟨0, rfl, by omega, rfl, grown_refl _ _, h⟩
  case round =>
    obtain ⟨k, rfl, hk, rfl, hg, hB⟩ := hrel
    have S0 := SUM.out k (by omega)
    have b0 := hB.c0
    have bl := hB.lt
    by_cases hlt : k < n
    · obtain ⟨g, cap', e1, hcap, hglt, hgb, cg, fg⟩ := hB.at (n := N) (by rw [expC_len]; exact HN.out.symm) (show k < N by omega)
      cases e1
      rw [expC_get c k k (Nat.le_refl _)] at cg
      have S1 := SUM.out (k + 1) (by omega)
      have HS : Hid ((c.take (k + 1)).sum = (c.take k).sum + cAt c k) := sum_take (by rw [← HN.out]; omega)
      rw [HS.out] at S1
      have hk0 : (0 : Int) ≤ (k : Int) := by omega
      have hkN : (k : Int) < (N : Int) := by omega
      have hcap' : (N : Int) ≤ (cap : Int) := by omega
      have hkn : (k : Int) < (N : Int) - q := by omega
      have hgb' : ¬ b = g := fun e => hgb e.symm
      obtain ⟨X, hX⟩ : ∃ X, X = cAt c k := ⟨_, rfl⟩
      obtain ⟨Y, hY⟩ : ∃ Y, Y = (c.take k).sum := ⟨_, rfl⟩
      rw [← hX] at cg HS S1
      rw [← hY] at S0 S1 HS
      rw [← hY]
      clear hX hY
      go_wp2_with fail
      go_roundw
      case rel => exact ⟨k + 1, by go_num, by omega, by rw [HS.out], grown_trans hg ⟨rfl, rfl, rfl, by simp [World.setCell], fun j hj hr => Below.heap_setCell _ _ _ _ (by intro e; apply hr; rw [e]; rfl)⟩, hB.put (by rw [expC_len]; exact HN.out.symm) k 0⟩
      case measure => simp [intOf]; omega
    · have hkn : ¬ (k : Int) < (N : Int) - q := by omega
      have hke : k = n := by omega
      have HK := hideF hke
      clear hke
      go_wp2_with fail
      go_ret
      exact ⟨ret_int (by rw [HK.out]), hg, by rw [← HK.out]; exact hB⟩

set_option maxHeartbeats 1000000 in
theorem apply_any (c : List Int) (m : Int) (base b : Nat) (v : Value) (w : World) (h : BankAt w base b v c) (hc : okL 20000000000001 c) (hl : c.length ≤ 40000) (m0 : 0 ≤ m) (m1 : m ≤ 70000000000000) :
    Calls Try.prog 42 #[.pointer (some ⟨b, 0, none⟩), .int .i64 m] w fun e w' => e = .returned (.int .i64 (appA m c c.length)) ∧ w.grownBy w' v.ownBlock ∧ BankAt w' base b v (appC m c c.length) := by
  obtain ⟨N, hN⟩ : ∃ N, N = c.length := ⟨_, rfl⟩
  have BD := hideF (fun k (hk : k ≤ N) => appA_bd hc m0 k (by omega))
  have CD := hideF (fun k (hk : k < N) => hc k (by omega))
  have HN : Hid (N = c.length) := hN
  rw [← hN]
  have hNl : N ≤ 40000 := by omega
  clear hl hc hN
  obtain ⟨a, cap, rfl⟩ := h.form HN.out.symm
  go_enter Try.func42, Try.ntmps42
  go_wp2_with fail
  go_loopw [5, 6] (fun x i wr => ∃ k : Nat, i = .int .i64 k ∧ k ≤ N ∧ x = .int .i64 (appA m c k) ∧ w.grownBy wr (Value.ownBlock (.slice a N cap)) ∧ BankAt wr base b (.slice a N cap) (appC m c k)) (fun _ i _ => N - (intOf i).toNat)
  case atStart => exact ⟨0, rfl, by omega, rfl, grown_refl _ _, h⟩
  case round =>
    obtain ⟨k, rfl, hk, rfl, hg, hB⟩ := hrel
    have S0 := BD.out k (by omega)
    have b0 := hB.c0
    have bl := hB.lt
    by_cases hlt : k < N
    · obtain ⟨g, cap', e1, hcap, hglt, hgb, cg, fg⟩ := hB.at (n := N) (by rw [appC_len]; exact HN.out.symm) (show k < N by omega)
      cases e1
      rw [appC_get m c k k (Nat.le_refl _)] at cg
      have C0 := CD.out k hlt
      have S1 := BD.out (k + 1) (by omega)
      have HS : Hid (appA m c (k + 1) = appA m c k + mn (cAt c k) (m - appA m c k)) := rfl
      have HC : Hid (appC m c (k + 1) = (appC m c k).set k (cAt c k - mn (cAt c k) (m - appA m c k))) := rfl
      rw [HS.out] at S1
      have hk0 : (0 : Int) ≤ (k : Int) := by omega
      have hkN : (k : Int) < (N : Int) := by omega
      have hcap' : (N : Int) ≤ (cap : Int) := by omega
      have hgb' : ¬ b = g := fun e => hgb e.symm
      obtain ⟨X, hX⟩ : ∃ X, X = cAt c k := ⟨_, rfl⟩
      obtain ⟨Y, hY⟩ : ∃ Y, Y = appA m c k := ⟨_, rfl⟩
      rw [← hX] at cg HS HC S1 C0
      rw [← hY] at S0 S1 HS HC
      rw [← hY]
      have ml := mn_le X (m - Y)
      have sm := fun w => smaller_any X (m - Y) w
      obtain ⟨Z, hZ⟩ : ∃ Z, Z = mn X (m - Y) := ⟨_, rfl⟩
      rw [← hZ] at HS HC S1 ml sm
      have hz0 : X - 20000000000001 - 70000000000000 ≤ X - Z := by omega
      clear hX hY hZ
      go_wp2_with (go_at_call 68; refine (sm _).mono ?_; rintro e w7 ⟨rfl, h7⟩; have h8 := h7.symm; subst h8)
      go_roundw
      case rel => exact ⟨k + 1, by go_num, by omega, by rw [HS.out], grown_trans hg ⟨rfl, rfl, rfl, by simp [World.setCell], fun j hj hr => Below.heap_setCell _ _ _ _ (by intro e; apply hr; rw [e]; rfl)⟩, by rw [HC.out]; exact hB.put (by rw [appC_len]; exact HN.out.symm) k (X - Z)⟩
      case measure => simp [intOf]; omega
    · have hkn : ¬ (k : Int) < (N : Int) := by omega
      have hke : k = N := by omega
      have HK := hideF hke
      clear hke
      go_wp2_with fail
      go_ret
      exact ⟨ret_int (by rw [HK.out]), hg, by have e : appC m c N = appC m c k := (by rw [HK.out]); rw [e]; exact hB⟩

set_option maxHeartbeats 1000000 in
theorem left_any (c : List Int) (base b : Nat) (v : Value) (w : World) (h : BankAt w base b v c) (hc : okL 20000000000001 c) (hl : c.length ≤ 40000) :
    Calls Try.prog 44 #[.pointer (some ⟨b, 0, none⟩)] w fun e w' => e = .returned (.int .i64 c.sum) ∧ w' = w := by
  obtain ⟨N, hN⟩ : ∃ N, N = c.length := ⟨_, rfl⟩
  have SUM := hideF (fun k (hk : k ≤ N) => okL_sum hc k (by omega))
  have HN : Hid (N = c.length) := hN
  have hNl : N ≤ 40000 := by omega
  clear hl hc hN
  obtain ⟨a, cap, rfl⟩ := h.form HN.out.symm
  have b0 := h.c0
  have bl := h.lt
  go_enter Try.func44, Try.ntmps44
  go_wp2_with fail
  go_loopw [3, 4] (fun x i wr => ∃ k : Nat, i = .int .i64 k ∧ k ≤ N ∧ x = .int .i64 (c.take k).sum ∧ wr = w) (fun _ i _ => N - (intOf i).toNat)
  case atStart => exact ⟨0, rfl, by omega, rfl, rfl⟩
  case round =>
    obtain ⟨k, rfl, hk, rfl, rfl⟩ := hrel
    have S0 := SUM.out k (by omega)
    by_cases hlt : k < N
    · obtain ⟨g, cap', e1, hcap, hglt, hgb, cg, fg⟩ := h.at (n := N) HN.out.symm (show k < N by omega)
      cases e1
      have S1 := SUM.out (k + 1) (by omega)
      have HS : Hid ((c.take (k + 1)).sum = (c.take k).sum + cAt c k) := sum_take (by rw [← HN.out]; omega)
      rw [HS.out] at S1
      have hk0 : (0 : Int) ≤ (k : Int) := by omega
      have hkN : (k : Int) < (N : Int) := by omega
      have hcap' : (N : Int) ≤ (cap : Int) := by omega
      obtain ⟨X, hX⟩ : ∃ X, X = cAt c k := ⟨_, rfl⟩
      obtain ⟨Y, hY⟩ : ∃ Y, Y = (c.take k).sum := ⟨_, rfl⟩
      rw [← hX] at cg HS S1
      rw [← hY] at S0 S1 HS
      rw [← hY]
      clear hX hY
      go_wp2_with fail
      go_roundw
      case rel => exact ⟨k + 1, by go_num, by omega, by rw [HS.out], by first | exact rfl | trivial⟩
      case measure => simp [intOf]; omega
    · have hkn : ¬ (k : Int) < (N : Int) := by omega
      have hke : c.length ≤ k := by have := HN.out; omega
      have HK : Hid (c.take k = c) := List.take_of_length_le hke
      clear hke
      go_wp2_with fail
      go_ret
      exact ⟨ret_int (by rw [HK.out]), rfl⟩

set_option maxHeartbeats 1000000 in
theorem add_any (c : List Int) (x : Int) (base b : Nat) (v : Value) (w : World) (h : BankAt w base b v c) (hl : c.length ≤ 40000) :
    Calls Try.prog 43 #[.pointer (some ⟨b, 0, none⟩), .int .i64 x] w fun e w' => e = .returned (.tuple #[]) ∧ ∃ v', BankAt w' base b v' (c ++ [x]) ∧ w'.heap.size ≥ w.heap.size ∧
      (∀ k, k < w.heap.size → ¬ k = b → some k ≠ v.ownBlock → w'.heap[k]? = w.heap[k]?) ∧ w'.os = w.os ∧ w'.tape = w.tape ∧ w'.output = w.output := by
  obtain ⟨i0, hi, hz0, hz1, hz2⟩ := info_parts info3
  obtain ⟨a, cap, rfl⟩ := h.form rfl
  have b0 := h.c0
  have f0 := h.f0
  have bl := h.lt
  have own := h.own
  have hne := h.ne
  have hbz := h.hz
  go_enter Try.func43, Try.ntmps43
  go_wp2_with (at_builtin; refine wpList_append_own _ rfl _ _ 81 rfl base 3 i0 (.int .i64 0) 1 8 Try.underlying81 hi hz0 hz1 hz2 rfl (by decide) _ _ _ rfl (own.alloc _) ⟨w.heap.size, 0, none⟩ 1 1 [.int .i64 x] rfl rfl (cell_one_new _ _ _) (fun x hx => by simp at hx; subst hx; rfl) (by unfold maxLen; omega) (by omega) (by simp; omega) ?_; intro v' w4 own4 g4 nil4; obtain ⟨a4, cap4, rfl⟩ := own_slice own4; have e4 : w4.heap[b]? = w.heap[b]? := ((g4.block b (by simp; omega) (fun e => hne e.symm)).trans (heap_alloc_old _ _ bl)); have b4 := (World.cell?_of_block (a := ⟨b, 0, none⟩) e4).trans b0; have k4 := (World.frozen?_of_block (a := ⟨b, 0, none⟩) e4).trans f0)
  go_end0
  have hbb := h.hb
  have o4 : w4.ownsRow base 3 1 (.slice a4 (c.length + 1) cap4) (c ++ [x]).length (ints (c ++ [x])) := by rw [ints_snoc, List.length_append]; exact own4
  refine ⟨rfl, .slice a4 (c.length + 1) cap4, ⟨?_, ?_, ?_, ownsRow_setCell_below o4 hbb _, hbb, ?_⟩, ?_, ?_, g4.os, g4.tape, g4.output⟩
  · have := g4.size; simp at this; simp; omega
  · simp [go_sem, b4]
  · simp [go_sem, k4]
  · have := g4.size; simp at this; simp; omega
  · have := g4.size; simp at this; simp; omega
  · intro k hk h1 h2
    rw [Below.heap_setCell _ _ _ _ (fun e => h1 e), g4.block k (by simp; omega) h2, heap_alloc_old _ _ hk]

end Go.Proofs.Ytjaffmmocbplaab

namespace Go.Proofs.Ytjaffmmocbplaab
open Go.RowKit Bil
set_option linter.unusedVariables false
attribute [local go_sem ↓] Go.wp_at_zero Go.wp_at_succ

theorem pAt_get {ps : List Per} {k : Nat} (h : k < ps.length) : ps[k]? = some (pAt ps k) := by simp [pAt, h]

set_option maxHeartbeats 1000000 in
theorem peakAhead_any (ps : List Per) (v : Value) (i : Nat) (q : Int) (w : World) (h : PRow w v ps) (hi : i ≤ ps.length) (hl : ps.length ≤ 40000) (q0 : 0 ≤ q) (q1 : q ≤ 12) :
    Calls Try.prog 37 #[v, .int .i64 i, .int .i64 q] w fun e w' => e = .returned (.int .i64 (pkA ps i q)) ∧ ∃ n, w' = w.drewN n := by
  obtain ⟨a, cap, rfl⟩ := h.form
  obtain ⟨f, hf⟩ : ∃ f, f = from0 i q := ⟨_, rfl⟩
  have HP : Hid (pkA ps i q = pkR ps f (i - f)) := by rw [hf]; rfl
  have hfi : f ≤ i := by rw [hf]; unfold from0; omega
  have hmx : mx ((i : Int) - q) 0 = (f : Int) := by rw [hf]; unfold from0 mx; split <;> omega
  have lg : ∀ w, Calls Try.prog 38 #[.int .i64 ((i : Int) - q), .int .i64 0] w fun e w' => e = .returned (.int .i64 f) ∧ w' = w := fun w => by rw [← hmx]; exact larger_any _ _ w
  clear hf hmx
  go_enter Try.func37, Try.ntmps37
  go_wp2_with (go_at_call 38; refine (lg _).mono ?_; rintro e w7 ⟨rfl, h7⟩; have h8 := h7.symm; subst h8)
  go_loopw [7, 8] (fun x p wr => ∃ k : Nat, p = .int .i64 ((f + k : Nat) : Int) ∧ f + k ≤ i ∧ x = .int .i64 (pkR ps f k) ∧ ∃ n, wr = w.drewN n) (fun _ p _ => i - (intOf p).toNat)
  case atStart => exact ⟨0, rfl, by omega, rfl, 0, rfl⟩
  case round =>
    obtain ⟨k, rfl, hk, rfl, n, rfl⟩ := hrel
    by_cases hlt : f + k < i
    · have hlt' : ((f + k : Nat) : Int) < (i : Int) := by omega
      obtain ⟨b, rfl, hcap, hblt, c0, c1, c2, c3, c4⟩ := h.at (pAt_get (show f + k < ps.length by omega))
      have hk0 : (0 : Int) ≤ ((f + k : Nat) : Int) := by omega
      have hkl : ((f + k : Nat) : Int) < (ps.length : Int) := by omega
      have hcap' : (ps.length : Int) ≤ (cap : Int) := by omega
      have HS : Hid (pkR ps f (k + 1) = mx (pkR ps f k) (pAt ps (f + k)).pk) := rfl
      have lg2 := fun w => larger_any (pkR ps f k) (pAt ps (f + k)).pk w
      obtain ⟨K, hK⟩ : ∃ K, K = f + k := ⟨_, rfl⟩
      have HK := hideF hK
      rw [← hK] at hlt' c0 c1 c2 c3 c4 hk0 hkl HS lg2
      rw [← hK]
      clear hK lg
      go_wp2_with (go_at_call 38; refine (lg2 _).mono ?_; rintro e w7 ⟨rfl, h7⟩; have h8 := h7.symm; subst h8)
      go_roundw
      case rel => exact ⟨k + 1, by have := HK.out; go_num, by omega, by rw [HS.out], n, rfl⟩
      case measure => have := HK.out; simp [intOf]; omega
    · have hlt' : ¬ ((f + k : Nat) : Int) < (i : Int) := by omega
      have hke : k = i - f := by omega
      have HK := hideF hke
      clear hke
      go_wp2_with fail
      go_ret
      exact ⟨ret_int (by rw [HP.out, HK.out]), n, rfl⟩

def prK (t : Trf) (p : Per) : Nat → Int
  | 0 => 0
  | 1 => 0 + lowP p.i0 t.b0 + hiP p.i0 t.b0
  | 2 => 0 + lowP p.i0 t.b0 + hiP p.i0 t.b0 + lowP p.i1 t.b1 + hiP p.i1 t.b1
  | _ => enOf t p
def clsI (p : Per) (k : Nat) : Int := if k = 0 then p.i0 else if k = 1 then p.i1 else p.i2
def clsB2 (t : Trf) (k : Nat) : Blk := if k = 0 then t.b0 else if k = 1 then t.b1 else t.b2
theorem prK_succ (t : Trf) (p : Per) {k : Nat} (hk : k < 3) : prK t p (k + 1) = prK t p k + lowP (clsI p k) (clsB2 t k) + hiP (clsI p k) (clsB2 t k) := by
  rcases (by omega : k = 0 ∨ k = 1 ∨ k = 2) with rfl | rfl | rfl <;> rfl
theorem cls_ok {t : Trf} {p : Per} (ht : OkT t) (hp : okP p 200) (k : Nat) : CkB (clsI p k) (clsB2 t k) := by
  simp only [okP] at hp
  refine ckB (by unfold okI clsI; (repeat' split) <;> omega) ?_
  unfold clsB2
  split
  · exact ht.a0
  · split
    · exact ht.a1
    · exact ht.a2
theorem prK_bd {t : Trf} {p : Per} (ht : OkT t) (hp : okP p 200) : ∀ k, k ≤ 3 → 0 ≤ prK t p k ∧ prK t p k ≤ k * 20000100000002
  | 0, _ => by show (0 : Int) ≤ 0 ∧ (0 : Int) ≤ _; omega
  | k + 1, hk => by
    have a := prK_bd ht hp k (by omega)
    have b := cls_ok ht hp k
    have := b.lp
    have := b.hp
    rw [prK_succ t p (by omega)]; omega

set_option maxRecDepth 100000 in
set_option maxHeartbeats 2000000 in
theorem energyPrice_any (t : Trf) (p : Per) (w : World) (ht : OkT t) (hp : okP p 200) :
    Calls Try.prog 39 #[.agg #[.int .i64 p.i0, .int .i64 p.i1, .int .i64 p.i2], .agg #[.int .i64 t.b0.x, .int .i64 t.b0.y, .int .i64 t.b0.z, .int .i64 t.b1.x, .int .i64 t.b1.y, .int .i64 t.b1.z, .int .i64 t.b2.x, .int .i64 t.b2.y, .int .i64 t.b2.z]] w fun e w' => e = .returned (.int .i64 (enOf t p)) ∧ Below w.heap.size w w' := by
  have BD := hideF (fun k (hk : k ≤ 3) => prK_bd ht hp k hk)
  have CK := hideF (fun k => cls_ok ht hp k)
  have HE : Hid (enOf t p = prK t p 3) := rfl
  rw [HE.out]
  clear ht hp
  go_enter Try.func39, Try.ntmps39
  go_wp2_with fail
  obtain ⟨W0, hW0⟩ : ∃ W0, W0 = (w.alloc (.cells #[.int .i64 p.i0, .int .i64 p.i1, .int .i64 p.i2] 43)).alloc (.cells #[.int .i64 t.b0.x, .int .i64 t.b0.y, .int .i64 t.b0.z, .int .i64 t.b1.x, .int .i64 t.b1.y, .int .i64 t.b1.z, .int .i64 t.b2.x, .int .i64 t.b2.y, .int .i64 t.b2.z] 32) := ⟨_, rfl⟩
  have HW0 := hideF hW0
  have B0 : Below w.heap.size w W0 := by rw [hW0]; exact below_more (below_more (Below.refl _ _) _) _
  have z0 : W0.heap.size = w.heap.size + 2 := by rw [hW0]; simp
  have CI : Hid (∀ k, k < 3 → W0.cell? ⟨w.heap.size, k, none⟩ = some (.int .i64 (clsI p k))) := fun k hk => by
    rw [hW0]; rcases (by omega : k = 0 ∨ k = 1 ∨ k = 2) with rfl | rfl | rfl <;> simp [go_sem, clsI]
  have CB : Hid (∀ k, k < 3 → W0.cell? ⟨w.heap.size + 1, k * 3, none⟩ = some (.int .i64 (clsB2 t k).x) ∧ W0.cell? ⟨w.heap.size + 1, k * 3 + 1, none⟩ = some (.int .i64 (clsB2 t k).y) ∧ W0.cell? ⟨w.heap.size + 1, k * 3 + 2, none⟩ = some (.int .i64 (clsB2 t k).z)) := fun k hk => by
    rw [hW0]; rcases (by omega : k = 0 ∨ k = 1 ∨ k = 2) with rfl | rfl | rfl <;> simp [go_sem, clsB2]
  clear hW0
  go_loopw [5, 6] (fun x i wr => ∃ k : Nat, i = .int .i64 k ∧ k ≤ 3 ∧ x = .int .i64 (prK t p k) ∧ Below W0.heap.size W0 wr) (fun _ i _ => 3 - (intOf i).toNat)
  case atStart => exact ⟨0, rfl, by omega, rfl, by rw [HW0.out]; exact Below.refl _ _⟩
  case round =>
    obtain ⟨k, rfl, hk, rfl, hb⟩ := hrel
    have S0 := BD.out k hk
    by_cases hlt : k < 3
    · have hlt' : (k : Int) < 3 := by omega
      have hk0 : (0 : Int) ≤ (k : Int) := by omega
      have c0 := vcell_below hb (show w.heap.size < W0.heap.size by omega) (CI.out k hlt)
      obtain ⟨d0', d1', d2'⟩ := CB.out k hlt
      have d0 := vcell_below hb (show w.heap.size + 1 < W0.heap.size by omega) d0'
      have d1 := vcell_below hb (show w.heap.size + 1 < W0.heap.size by omega) d1'
      have d2 := vcell_below hb (show w.heap.size + 1 < W0.heap.size by omega) d2'
      clear d0' d1' d2'
      have HS : Hid (prK t p (k + 1) = prK t p k + rnd (mn (clsI p k) (clsB2 t k).x * (clsB2 t k).y) + rnd ((clsI p k - mn (clsI p k) (clsB2 t k).x) * (clsB2 t k).z)) := prK_succ t p hlt
      obtain ⟨ki, km, kl, kh, klp, khp⟩ := CK.out k
      unfold lowP at klp
      unfold hiP at khp
      obtain ⟨X, hX⟩ : ∃ X, X = clsI p k := ⟨_, rfl⟩
      obtain ⟨Q, hQ⟩ : ∃ Q, Q = clsB2 t k := ⟨_, rfl⟩
      rw [← hX] at c0 HS ki km kl kh klp khp
      rw [← hQ] at d0 d1 d2 HS km kl kh klp khp
      obtain ⟨qx, qy, qz⟩ := Q
      simp only at d0 d1 d2 HS km kl kh klp khp
      have sm := fun w => smaller_any X qx w
      obtain ⟨Z, hZ⟩ : ∃ Z, Z = mn X qx := ⟨_, rfl⟩
      rw [← hZ] at HS km kl kh klp khp sm
      have r1 := fun w => rounded_any (Z * qy) w kl.1 (by omega)
      have r2 := fun w => rounded_any ((X - Z) * qz) w kh.1 (by omega)
      obtain ⟨R1, hR1⟩ : ∃ R1, R1 = rnd (Z * qy) := ⟨_, rfl⟩
      obtain ⟨R2, hR2⟩ : ∃ R2, R2 = rnd ((X - Z) * qz) := ⟨_, rfl⟩
      rw [← hR1] at HS klp r1
      rw [← hR2] at HS khp r2
      obtain ⟨Y, hY⟩ : ∃ Y, Y = prK t p k := ⟨_, rfl⟩
      rw [← hY] at S0 HS
      rw [← hY]
      have kw1 : IntKind.i64.wrap (X - Z) = X - Z := Go.IntWalk.i64_in _ (by omega)
      have kw2 : IntKind.i64.wrap ((X - Z) * qz) = (X - Z) * qz := Go.IntWalk.i64_in _ (by omega)
      have kw3 : IntKind.i64.wrap (Y + R1 + R2) = Y + R1 + R2 := Go.IntWalk.i64_in _ (by omega)
      have kw4 : IntKind.i64.wrap (Z * qy) = Z * qy := Go.IntWalk.i64_in _ (by omega)
      clear hX hQ hZ hR1 hR2 hY
      go_wp2_with fail
      go_quiet ((go_at_call 68; exact Calls.quiet_of_same (sm _)))
      go_wp2_with (go_at_call 40; refine (r1 _).mono ?_; rintro e w7 ⟨rfl, h7⟩; have h8 := h7.symm; subst h8)
      have hbq := below_drewN hb nq
      obtain ⟨wx, hwx⟩ : ∃ wx, wx = wr.drewN nq := ⟨_, rfl⟩
      have e0 : wx.cell? ⟨w.heap.size, k, none⟩ = some (.int .i64 X) := by rw [hwx]; exact c0
      have e2 : wx.cell? ⟨w.heap.size + 1, k * 3 + 2, none⟩ = some (.int .i64 qz) := by rw [hwx]; exact d2
      rw [← hwx] at hbq ⊢
      clear hwx c0 d0 d1 d2 hb
      go_quiet ((go_at_call 40; exact Calls.quiet_of_same (r2 _)))
      go_wp2_with fail
      go_roundw
      case rel => exact ⟨k + 1, by go_num, by omega, by rw [HS.out], by first | exact hbq | exact below_drewN hbq _⟩
      case measure => simp [intOf]; omega
    · have hlt' : ¬ (k : Int) < 3 := by omega
      have hke : k = 3 := by omega
      have HK := hideF hke
      clear hke
      go_wp2_with fail
      go_ret
      exact ⟨ret_int (by rw [HK.out]), below_then B0 hb⟩

end Go.Proofs.Ytjaffmmocbplaab

namespace Go.Proofs.Ytjaffmmocbplaab
open Go.RowKit Bil
set_option linter.unusedVariables false

theorem infoLn : (Try.prog.info? 75).map (fun i => (i.zero, i.size, i.bytes)) = some (some (.agg #[.int .i64 0, .int .i64 0, .int .i64 0, .int .i64 0, .int .i64 0, .int .i64 0, .int .i64 0, .int .i64 0, .int .i64 0, .int .i64 0, .int .i64 0, .int .i64 0, .int .i64 0, .int .i64 0, .int .i64 0]), 15, 120) := by kernel_rfl
def lcell (x : Ln) : List Value := [.int .i64 x.i0, .int .i64 x.i1, .int .i64 x.i2, .int .i64 x.o, .int .i64 x.pk, .int .i64 x.bl, .int .i64 x.en, .int .i64 x.pw, .int .i64 x.ap, .int .i64 x.ex, .int .i64 x.pd, .int .i64 x.bk, .int .i64 x.su, .int .i64 x.tx, .int .i64 x.to]
def lcs (l : List Ln) : List Value := l.flatMap lcell
theorem lcs_snoc (l : List Ln) (x : Ln) : lcs (l ++ [x]) = lcs l ++ lcell x := by simp [lcs]
theorem lcs_length (l : List Ln) : (lcs l).length = l.length * 15 := by
  induction l with
  | nil => rfl
  | cons x l ih => show (lcell x ++ lcs l).length = _; rw [List.length_append, ih]; simp [lcell]; omega
/-- the line under way, in block b -/
def LR (w : World) (b : Nat) (x : Ln) : Prop := w.heap[b]? = some (.cells #[.int .i64 x.i0, .int .i64 x.i1, .int .i64 x.i2, .int .i64 x.o, .int .i64 x.pk, .int .i64 x.bl, .int .i64 x.en, .int .i64 x.pw, .int .i64 x.ap, .int .i64 x.ex, .int .i64 x.pd, .int .i64 x.bk, .int .i64 x.su, .int .i64 x.tx, .int .i64 x.to] 75 (0, 0))
theorem LR.put {w : World} {b : Nat} {x : Ln} (h : LR w b x) (j : Nat) (u : Value) : (w.setCell ⟨b, j, none⟩ u).heap[b]? = some (.cells ((#[.int .i64 x.i0, .int .i64 x.i1, .int .i64 x.i2, .int .i64 x.o, .int .i64 x.pk, .int .i64 x.bl, .int .i64 x.en, .int .i64 x.pw, .int .i64 x.ap, .int .i64 x.ex, .int .i64 x.pd, .int .i64 x.bk, .int .i64 x.su, .int .i64 x.tx, .int .i64 x.to] : Array Value).setIfInBounds j u) 75 (0, 0)) := heap_setCell_same w b j _ _ u h
theorem LR.i0 {w : World} {b : Nat} {x : Ln} (h : LR w b x) (v : Int) : LR (w.setCell ⟨b, 0, none⟩ (.int .i64 v)) b { x with i0 := v } := h.put 0 _
theorem LR.i1 {w : World} {b : Nat} {x : Ln} (h : LR w b x) (v : Int) : LR (w.setCell ⟨b, 1, none⟩ (.int .i64 v)) b { x with i1 := v } := h.put 1 _
theorem LR.i2 {w : World} {b : Nat} {x : Ln} (h : LR w b x) (v : Int) : LR (w.setCell ⟨b, 2, none⟩ (.int .i64 v)) b { x with i2 := v } := h.put 2 _
theorem LR.o {w : World} {b : Nat} {x : Ln} (h : LR w b x) (v : Int) : LR (w.setCell ⟨b, 3, none⟩ (.int .i64 v)) b { x with o := v } := h.put 3 _
theorem LR.pk {w : World} {b : Nat} {x : Ln} (h : LR w b x) (v : Int) : LR (w.setCell ⟨b, 4, none⟩ (.int .i64 v)) b { x with pk := v } := h.put 4 _
theorem LR.bl {w : World} {b : Nat} {x : Ln} (h : LR w b x) (v : Int) : LR (w.setCell ⟨b, 5, none⟩ (.int .i64 v)) b { x with bl := v } := h.put 5 _
theorem LR.en {w : World} {b : Nat} {x : Ln} (h : LR w b x) (v : Int) : LR (w.setCell ⟨b, 6, none⟩ (.int .i64 v)) b { x with en := v } := h.put 6 _
theorem LR.pw {w : World} {b : Nat} {x : Ln} (h : LR w b x) (v : Int) : LR (w.setCell ⟨b, 7, none⟩ (.int .i64 v)) b { x with pw := v } := h.put 7 _
theorem LR.ap {w : World} {b : Nat} {x : Ln} (h : LR w b x) (v : Int) : LR (w.setCell ⟨b, 8, none⟩ (.int .i64 v)) b { x with ap := v } := h.put 8 _
theorem LR.ex {w : World} {b : Nat} {x : Ln} (h : LR w b x) (v : Int) : LR (w.setCell ⟨b, 9, none⟩ (.int .i64 v)) b { x with ex := v } := h.put 9 _
theorem LR.pd {w : World} {b : Nat} {x : Ln} (h : LR w b x) (v : Int) : LR (w.setCell ⟨b, 10, none⟩ (.int .i64 v)) b { x with pd := v } := h.put 10 _
theorem LR.bk {w : World} {b : Nat} {x : Ln} (h : LR w b x) (v : Int) : LR (w.setCell ⟨b, 11, none⟩ (.int .i64 v)) b { x with bk := v } := h.put 11 _
theorem LR.su {w : World} {b : Nat} {x : Ln} (h : LR w b x) (v : Int) : LR (w.setCell ⟨b, 12, none⟩ (.int .i64 v)) b { x with su := v } := h.put 12 _
theorem LR.tx {w : World} {b : Nat} {x : Ln} (h : LR w b x) (v : Int) : LR (w.setCell ⟨b, 13, none⟩ (.int .i64 v)) b { x with tx := v } := h.put 13 _
theorem LR.to {w : World} {b : Nat} {x : Ln} (h : LR w b x) (v : Int) : LR (w.setCell ⟨b, 14, none⟩ (.int .i64 v)) b { x with to := v } := h.put 14 _
theorem LR.drewN {w : World} {b : Nat} {x : Ln} (h : LR w b x) (n : Nat) : LR (w.drewN n) b x := h
theorem LR.lt {w : World} {b : Nat} {x : Ln} (h : LR w b x) : b < w.heap.size := (Array.getElem?_eq_some_iff.1 h).1
theorem LR.of_block {w w' : World} {b : Nat} {x : Ln} (h : LR w b x) (e : w'.heap[b]? = w.heap[b]?) : LR w' b x := e.trans h
theorem LR.c0 {w : World} {b : Nat} {x : Ln} (h : LR w b x) : w.cell? ⟨b, 0, none⟩ = some (.int .i64 x.i0) := cell_of_row _ _ _ _ _ _ h
theorem LR.c1 {w : World} {b : Nat} {x : Ln} (h : LR w b x) : w.cell? ⟨b, 1, none⟩ = some (.int .i64 x.i1) := cell_of_row _ _ _ _ _ _ h
theorem LR.c2 {w : World} {b : Nat} {x : Ln} (h : LR w b x) : w.cell? ⟨b, 2, none⟩ = some (.int .i64 x.i2) := cell_of_row _ _ _ _ _ _ h
theorem LR.c3 {w : World} {b : Nat} {x : Ln} (h : LR w b x) : w.cell? ⟨b, 3, none⟩ = some (.int .i64 x.o) := cell_of_row _ _ _ _ _ _ h
theorem LR.c4 {w : World} {b : Nat} {x : Ln} (h : LR w b x) : w.cell? ⟨b, 4, none⟩ = some (.int .i64 x.pk) := cell_of_row _ _ _ _ _ _ h
theorem LR.c5 {w : World} {b : Nat} {x : Ln} (h : LR w b x) : w.cell? ⟨b, 5, none⟩ = some (.int .i64 x.bl) := cell_of_row _ _ _ _ _ _ h
theorem LR.c6 {w : World} {b : Nat} {x : Ln} (h : LR w b x) : w.cell? ⟨b, 6, none⟩ = some (.int .i64 x.en) := cell_of_row _ _ _ _ _ _ h
theorem LR.c7 {w : World} {b : Nat} {x : Ln} (h : LR w b x) : w.cell? ⟨b, 7, none⟩ = some (.int .i64 x.pw) := cell_of_row _ _ _ _ _ _ h
theorem LR.c8 {w : World} {b : Nat} {x : Ln} (h : LR w b x) : w.cell? ⟨b, 8, none⟩ = some (.int .i64 x.ap) := cell_of_row _ _ _ _ _ _ h
theorem LR.c9 {w : World} {b : Nat} {x : Ln} (h : LR w b x) : w.cell? ⟨b, 9, none⟩ = some (.int .i64 x.ex) := cell_of_row _ _ _ _ _ _ h
theorem LR.c10 {w : World} {b : Nat} {x : Ln} (h : LR w b x) : w.cell? ⟨b, 10, none⟩ = some (.int .i64 x.pd) := cell_of_row _ _ _ _ _ _ h
theorem LR.c11 {w : World} {b : Nat} {x : Ln} (h : LR w b x) : w.cell? ⟨b, 11, none⟩ = some (.int .i64 x.bk) := cell_of_row _ _ _ _ _ _ h
theorem LR.c12 {w : World} {b : Nat} {x : Ln} (h : LR w b x) : w.cell? ⟨b, 12, none⟩ = some (.int .i64 x.su) := cell_of_row _ _ _ _ _ _ h
theorem LR.c13 {w : World} {b : Nat} {x : Ln} (h : LR w b x) : w.cell? ⟨b, 13, none⟩ = some (.int .i64 x.tx) := cell_of_row _ _ _ _ _ _ h
theorem LR.c14 {w : World} {b : Nat} {x : Ln} (h : LR w b x) : w.cell? ⟨b, 14, none⟩ = some (.int .i64 x.to) := cell_of_row _ _ _ _ _ _ h
theorem LR.frz {w : World} {b : Nat} {x : Ln} (h : LR w b x) (j : Nat) : w.frozen? ⟨b, j, none⟩ = false := frozen_of_row _ _ _ _ _ h
theorem LR_new (w : World) (x : Ln) : LR (w.alloc (.cells #[.int .i64 x.i0, .int .i64 x.i1, .int .i64 x.i2, .int .i64 x.o, .int .i64 x.pk, .int .i64 x.bl, .int .i64 x.en, .int .i64 x.pw, .int .i64 x.ap, .int .i64 x.ex, .int .i64 x.pd, .int .i64 x.bk, .int .i64 x.su, .int .i64 x.tx, .int .i64 x.to] 75)) w.heap.size x := heap_alloc_new w _
theorem LR_cell (w : World) (x : Ln) : ∀ j u, (lcell x)[j]? = some u → (w.alloc (.cells #[.int .i64 x.i0, .int .i64 x.i1, .int .i64 x.i2, .int .i64 x.o, .int .i64 x.pk, .int .i64 x.bl, .int .i64 x.en, .int .i64 x.pw, .int .i64 x.ap, .int .i64 x.ex, .int .i64 x.pd, .int .i64 x.bk, .int .i64 x.su, .int .i64 x.tx, .int .i64 x.to] 75)).cell? ((⟨w.heap.size, 0, none⟩ : Addr).add j) = some u := by
  intro j u hj
  have hadd : (⟨w.heap.size, 0, none⟩ : Addr).add j = ⟨w.heap.size, j, none⟩ := by unfold Addr.add; split <;> simp_all
  rw [hadd, cell_of_row _ _ _ _ _ _ (heap_alloc_new _ _), ← hj]
  simp [lcell]
/-- a tariff, in block b: what a bill reads of it -/
def TR (w : World) (b : Nat) (t : Trf) : Prop := w.heap[b]? = some (.cells #[.int .i64 t.z.off, .int .i64 t.z.f.m, .int .i64 t.z.f.w, .int .i64 t.z.f.d, .int .i64 t.z.f.h, .int .i64 t.z.t.m, .int .i64 t.z.t.w, .int .i64 t.z.t.d, .int .i64 t.z.t.h, .int .i64 t.days, .int .i64 t.gap, .int .i64 t.first, .int .i64 t.last, .string t.h0, .string t.h1, .string t.h2, .string t.h3, .int .i64 t.b0.x, .int .i64 t.b0.y, .int .i64 t.b0.z, .int .i64 t.b1.x, .int .i64 t.b1.y, .int .i64 t.b1.z, .int .i64 t.b2.x, .int .i64 t.b2.y, .int .i64 t.b2.z, .int .i64 t.d.x, .int .i64 t.d.y, .int .i64 t.d.z, .int .i64 t.np, .int .i64 t.nn, .int .i64 t.fix, .int .i64 t.min, .int .i64 t.tax] 38)
theorem TR.c17 {w : World} {b : Nat} {t : Trf} (h : TR w b t) : w.cell? ⟨b, 17, none⟩ = some (.int .i64 t.b0.x) := cell_of_row _ _ _ _ _ _ h
theorem TR.c18 {w : World} {b : Nat} {t : Trf} (h : TR w b t) : w.cell? ⟨b, 18, none⟩ = some (.int .i64 t.b0.y) := cell_of_row _ _ _ _ _ _ h
theorem TR.c19 {w : World} {b : Nat} {t : Trf} (h : TR w b t) : w.cell? ⟨b, 19, none⟩ = some (.int .i64 t.b0.z) := cell_of_row _ _ _ _ _ _ h
theorem TR.c20 {w : World} {b : Nat} {t : Trf} (h : TR w b t) : w.cell? ⟨b, 20, none⟩ = some (.int .i64 t.b1.x) := cell_of_row _ _ _ _ _ _ h
theorem TR.c21 {w : World} {b : Nat} {t : Trf} (h : TR w b t) : w.cell? ⟨b, 21, none⟩ = some (.int .i64 t.b1.y) := cell_of_row _ _ _ _ _ _ h
theorem TR.c22 {w : World} {b : Nat} {t : Trf} (h : TR w b t) : w.cell? ⟨b, 22, none⟩ = some (.int .i64 t.b1.z) := cell_of_row _ _ _ _ _ _ h
theorem TR.c23 {w : World} {b : Nat} {t : Trf} (h : TR w b t) : w.cell? ⟨b, 23, none⟩ = some (.int .i64 t.b2.x) := cell_of_row _ _ _ _ _ _ h
theorem TR.c24 {w : World} {b : Nat} {t : Trf} (h : TR w b t) : w.cell? ⟨b, 24, none⟩ = some (.int .i64 t.b2.y) := cell_of_row _ _ _ _ _ _ h
theorem TR.c25 {w : World} {b : Nat} {t : Trf} (h : TR w b t) : w.cell? ⟨b, 25, none⟩ = some (.int .i64 t.b2.z) := cell_of_row _ _ _ _ _ _ h
theorem TR.c26 {w : World} {b : Nat} {t : Trf} (h : TR w b t) : w.cell? ⟨b, 26, none⟩ = some (.int .i64 t.d.x) := cell_of_row _ _ _ _ _ _ h
theorem TR.c27 {w : World} {b : Nat} {t : Trf} (h : TR w b t) : w.cell? ⟨b, 27, none⟩ = some (.int .i64 t.d.y) := cell_of_row _ _ _ _ _ _ h
theorem TR.c28 {w : World} {b : Nat} {t : Trf} (h : TR w b t) : w.cell? ⟨b, 28, none⟩ = some (.int .i64 t.d.z) := cell_of_row _ _ _ _ _ _ h
theorem TR.c29 {w : World} {b : Nat} {t : Trf} (h : TR w b t) : w.cell? ⟨b, 29, none⟩ = some (.int .i64 t.np) := cell_of_row _ _ _ _ _ _ h
theorem TR.c30 {w : World} {b : Nat} {t : Trf} (h : TR w b t) : w.cell? ⟨b, 30, none⟩ = some (.int .i64 t.nn) := cell_of_row _ _ _ _ _ _ h
theorem TR.c31 {w : World} {b : Nat} {t : Trf} (h : TR w b t) : w.cell? ⟨b, 31, none⟩ = some (.int .i64 t.fix) := cell_of_row _ _ _ _ _ _ h
theorem TR.c32 {w : World} {b : Nat} {t : Trf} (h : TR w b t) : w.cell? ⟨b, 32, none⟩ = some (.int .i64 t.min) := cell_of_row _ _ _ _ _ _ h
theorem TR.c33 {w : World} {b : Nat} {t : Trf} (h : TR w b t) : w.cell? ⟨b, 33, none⟩ = some (.int .i64 t.tax) := cell_of_row _ _ _ _ _ _ h
/-- what is owned stays where its block does -/
theorem own_blk {w w' : World} {base : Nat} {e : TypeId} {size : Nat} {v : Value} {n : Nat} {xs : List Value} (h : w.ownsRow base e size v n xs) (hb : ∀ k, v.ownBlock = some k → w'.heap[k]? = w.heap[k]?) : w'.ownsRow base e size v n xs := by
  refine ⟨h.1, ?_⟩
  rcases h.2 with hn | ⟨g, cap, cur, rfl, h1, h2, rest⟩
  · exact .inl hn
  · exact .inr ⟨g, cap, cur, rfl, h1, (hb g rfl).trans h2, rest⟩
/-- two rows of different kinds lie in different blocks -/
theorem own_apart {w : World} {base base' : Nat} {e e' : TypeId} {size size' : Nat} {v v' : Value} {n n' : Nat} {xs xs' : List Value} (h : w.ownsRow base e size v n xs) (h' : w.ownsRow base' e' size' v' n' xs') (hne : e ≠ e') : ∀ k, v.ownBlock = some k → v'.ownBlock ≠ some k := by
  intro k hk hk'
  obtain ⟨c, z, q⟩ := Lib.ownsRow_kind h k hk
  obtain ⟨c', z', q'⟩ := Lib.ownsRow_kind h' k hk'
  rw [q] at q'
  injection q' with q'
  injection q' with _ q' _
  exact hne q'
theorem own_ne {a b : Option Nat} (h : ∀ k, a = some k → b ≠ some k) : a = none ∨ a ≠ b := by
  cases a with
  | none => exact .inl rfl
  | some k => exact .inr fun e => h k rfl e.symm
theorem own_ne' {a b : Option Nat} (h : ∀ k, a = some k → b ≠ some k) : b = none ∨ b ≠ a := by
  cases b with
  | none => exact .inl rfl
  | some k => exact .inr fun e => h k e.symm rfl
theorem LR.apart {w : World} {b : Nat} {x : Ln} (h : LR w b x) {base : Nat} {e : TypeId} {size : Nat} {v : Value} {n : Nat} {xs : List Value} (h' : w.ownsRow base e size v n xs) (hne : e ≠ 75) : v.ownBlock ≠ some b := by
  intro hk
  obtain ⟨c, z, q⟩ := Lib.ownsRow_kind h' b hk
  rw [show w.heap[b]? = _ from h] at q
  injection q with q
  injection q with _ q _
  exact hne q.symm

def blL (t : Trf) (step start : Int) (l : List Txt.Val) : List Ln := if spE t step start l = 0 then lnR t (spL t step start l) (spL t step start l).length else []
theorem spA_ok {t : Trf} {step start : Int} {l : List Txt.Val} (h : spE t step start l = 0) : spA t step start l = 0 := by
  obtain ⟨hm, hb, hf, hc, _⟩ := sp_ok h
  unfold spA
  rw [hm, if_pos rfl, if_neg (by omega), if_pos hf]
  exact (pp_yes hc).2.1.symm
end Go.Proofs.Ytjaffmmocbplaab

namespace Go.Proofs.Ytjaffmmocbplaab
open Go.RowKit Bil
set_option linter.unusedVariables false
attribute [local go_sem ↓] Go.wp_at_zero Go.wp_at_succ

theorem grown_set (w : World) (b j : Nat) (u : Value) : w.grownBy (w.setCell ⟨b, j, none⟩ u) (some b) :=
  ⟨rfl, rfl, rfl, by simp [World.setCell], fun k _ hr => Below.heap_setCell _ _ _ _ (fun e => hr (by rw [e]))⟩
theorem BankAt.far {w : World} {base b : Nat} {v : Value} {c : List Int} (h : BankAt w base b v c) {l : Nat} (h1 : ¬ b = l) (h2 : v.ownBlock ≠ some l) (j : Nat) (u : Value) : BankAt (w.setCell ⟨l, j, none⟩ u) base b v c :=
  h.kept (grown_set w l j u) (fun e => h1 (by injection e)) (.inr h2)
theorem own_far {w : World} {base : Nat} {e : TypeId} {size : Nat} {v : Value} {n : Nat} {xs : List Value} (h : w.ownsRow base e size v n xs) {l : Nat} (h2 : v.ownBlock ≠ some l) (j : Nat) (u : Value) : (w.setCell ⟨l, j, none⟩ u).ownsRow base e size v n xs :=
  h.kept (grown_set w l j u) (.inr h2)
theorem ret_bill {v v' : Value} {a b : Int} (h : v = v') {a' b' : Int} (ha : a = a') (hb : b = b') : Ending.returned (.tuple #[v, .int .i64 a, .int .i64 b]) = .returned (.tuple #[v', .int .i64 a', .int .i64 b']) := by rw [h, ha, hb]

set_option maxRecDepth 1000000 in
set_option maxHeartbeats 1500000 in
theorem Bill_no (t : Trf) (step start : Int) (v : Value) (l : List Txt.Val) (w : World) (h : VRow w v l) (s0 : t.h0.size ≤ maxLen) (s1 : t.h1.size ≤ maxLen) (s2 : t.h2.size ≤ maxLen) (s3 : t.h3.size ≤ maxLen) (hne : ¬ spE t step start l = 0) :
    Calls Try.prog 19 #[.agg #[.int .i64 step, .int .i64 start, v], .agg #[.int .i64 t.z.off, .int .i64 t.z.f.m, .int .i64 t.z.f.w, .int .i64 t.z.f.d, .int .i64 t.z.f.h, .int .i64 t.z.t.m, .int .i64 t.z.t.w, .int .i64 t.z.t.d, .int .i64 t.z.t.h, .int .i64 t.days, .int .i64 t.gap, .int .i64 t.first, .int .i64 t.last, .string t.h0, .string t.h1, .string t.h2, .string t.h3, .int .i64 t.b0.x, .int .i64 t.b0.y, .int .i64 t.b0.z, .int .i64 t.b1.x, .int .i64 t.b1.y, .int .i64 t.b1.z, .int .i64 t.b2.x, .int .i64 t.b2.y, .int .i64 t.b2.z, .int .i64 t.d.x, .int .i64 t.d.y, .int .i64 t.d.z, .int .i64 t.np, .int .i64 t.nn, .int .i64 t.fix, .int .i64 t.min, .int .i64 t.tax]] w fun e w' => e = .returned (.tuple #[.slice none 0 0, .int .i64 (spE t step start l), .int .i64 (spA t step start l)]) ∧ Below w.heap.size w w' := by
  have sp := fun w1 (hb : Below w.heap.size w w1) => Split_any t step start v l w1 (h.below hb) s0 s1 s2 s3
  obtain ⟨a, cap, rfl⟩ := h.form
  rw [sp_no hne] at sp
  obtain ⟨E, hE⟩ : ∃ E, E = spE t step start l := ⟨_, rfl⟩
  obtain ⟨A, hA⟩ : ∃ A, A = spA t step start l := ⟨_, rfl⟩
  rw [← hE, ← hA] at sp
  rw [← hE] at hne
  rw [← hE, ← hA]
  have hEB : (E != 0) = true := by simpa using hne
  have B0 : Below w.heap.size w ((w.alloc (.cells #[.int .i64 step, .int .i64 start, .slice a l.length cap] 24)).alloc (.cells #[.int .i64 t.z.off, .int .i64 t.z.f.m, .int .i64 t.z.f.w, .int .i64 t.z.f.d, .int .i64 t.z.f.h, .int .i64 t.z.t.m, .int .i64 t.z.t.w, .int .i64 t.z.t.d, .int .i64 t.z.t.h, .int .i64 t.days, .int .i64 t.gap, .int .i64 t.first, .int .i64 t.last, .string t.h0, .string t.h1, .string t.h2, .string t.h3, .int .i64 t.b0.x, .int .i64 t.b0.y, .int .i64 t.b0.z, .int .i64 t.b1.x, .int .i64 t.b1.y, .int .i64 t.b1.z, .int .i64 t.b2.x, .int .i64 t.b2.y, .int .i64 t.b2.z, .int .i64 t.d.x, .int .i64 t.d.y, .int .i64 t.d.z, .int .i64 t.np, .int .i64 t.nn, .int .i64 t.fix, .int .i64 t.min, .int .i64 t.tax] 38)) := below_more (below_more (Below.refl _ _) _) _
  have MT : ((w.alloc (.cells #[.int .i64 step, .int .i64 start, .slice a l.length cap] 24)).alloc (.cells #[.int .i64 t.z.off, .int .i64 t.z.f.m, .int .i64 t.z.f.w, .int .i64 t.z.f.d, .int .i64 t.z.f.h, .int .i64 t.z.t.m, .int .i64 t.z.t.w, .int .i64 t.z.t.d, .int .i64 t.z.t.h, .int .i64 t.days, .int .i64 t.gap, .int .i64 t.first, .int .i64 t.last, .string t.h0, .string t.h1, .string t.h2, .string t.h3, .int .i64 t.b0.x, .int .i64 t.b0.y, .int .i64 t.b0.z, .int .i64 t.b1.x, .int .i64 t.b1.y, .int .i64 t.b1.z, .int .i64 t.b2.x, .int .i64 t.b2.y, .int .i64 t.b2.z, .int .i64 t.d.x, .int .i64 t.d.y, .int .i64 t.d.z, .int .i64 t.np, .int .i64 t.nn, .int .i64 t.fix, .int .i64 t.min, .int .i64 t.tax] 38)).heap[w.heap.size + 1]? = some (.cells #[.int .i64 t.z.off, .int .i64 t.z.f.m, .int .i64 t.z.f.w, .int .i64 t.z.f.d, .int .i64 t.z.f.h, .int .i64 t.z.t.m, .int .i64 t.z.t.w, .int .i64 t.z.t.d, .int .i64 t.z.t.h, .int .i64 t.days, .int .i64 t.gap, .int .i64 t.first, .int .i64 t.last, .string t.h0, .string t.h1, .string t.h2, .string t.h3, .int .i64 t.b0.x, .int .i64 t.b0.y, .int .i64 t.b0.z, .int .i64 t.b1.x, .int .i64 t.b1.y, .int .i64 t.b1.z, .int .i64 t.b2.x, .int .i64 t.b2.y, .int .i64 t.b2.z, .int .i64 t.d.x, .int .i64 t.d.y, .int .i64 t.d.z, .int .i64 t.np, .int .i64 t.nn, .int .i64 t.fix, .int .i64 t.min, .int .i64 t.tax] 38) := heap_alloc2_new _ _ _
  clear hE hA hne h
  go_enter Try.func19, Try.ntmps19
  go_wp2_with (first
    | (refine wpList_load_row rfl 38 _ rfl (w.heap.size + 1) rfl 38 _ (0, 0) _ MT Try.underlying38 rfl (by kernel_rfl) ?_)
    | (go_at_call 11; refine (sp _ B0).mono ?_; rintro e w1 ⟨v1, rfl, own1, hb1⟩; obtain ⟨a1, cap1, rfl⟩ := own_slice own1))
  exact bodyPost_ret (v := .tuple #[.slice none 0 0, .int .i64 E, .int .i64 A]) (by simp [results, Try.results19, go_sem]) rfl ⟨rfl, below_then B0 hb1⟩

set_option maxRecDepth 1000000 in
set_option maxHeartbeats 2000000 in
theorem Bill_yes (t : Trf) (step start : Int) (v : Value) (l : List Txt.Val) (w : World) (h : VRow w v l) (s0 : t.h0.size ≤ maxLen) (s1 : t.h1.size ≤ maxLen) (s2 : t.h2.size ≤ maxLen) (s3 : t.h3.size ≤ maxLen) (hz : spE t step start l = 0) :
    Calls Try.prog 19 #[.agg #[.int .i64 step, .int .i64 start, v], .agg #[.int .i64 t.z.off, .int .i64 t.z.f.m, .int .i64 t.z.f.w, .int .i64 t.z.f.d, .int .i64 t.z.f.h, .int .i64 t.z.t.m, .int .i64 t.z.t.w, .int .i64 t.z.t.d, .int .i64 t.z.t.h, .int .i64 t.days, .int .i64 t.gap, .int .i64 t.first, .int .i64 t.last, .string t.h0, .string t.h1, .string t.h2, .string t.h3, .int .i64 t.b0.x, .int .i64 t.b0.y, .int .i64 t.b0.z, .int .i64 t.b1.x, .int .i64 t.b1.y, .int .i64 t.b1.z, .int .i64 t.b2.x, .int .i64 t.b2.y, .int .i64 t.b2.z, .int .i64 t.d.x, .int .i64 t.d.y, .int .i64 t.d.z, .int .i64 t.np, .int .i64 t.nn, .int .i64 t.fix, .int .i64 t.min, .int .i64 t.tax]] w fun e w' => ∃ v', e = .returned (.tuple #[v', .int .i64 0, .int .i64 0]) ∧
      w'.ownsRow w.heap.size 75 15 v' (spL t step start l).length (lcs (lnR t (spL t step start l) (spL t step start l).length)) ∧ Below w.heap.size w w' := by
  obtain ⟨i0, hi, hz0, hz1, hz2⟩ := info_parts infoLn
  have sp := fun w1 (hb : Below w.heap.size w w1) => Split_any t step start v l w1 (h.below hb) s0 s1 s2 s3
  have hA := spA_ok hz
  obtain ⟨hm, hb13, hfe, hokc, hsl⟩ := sp_ok hz
  obtain ⟨hst, hsa⟩ := meterB_step hm
  obtain ⟨len1, len2, hall⟩ := meterB_fit hm
  have hLn := (fL_len step start t.gap l).2
  have hLv : (fL step start t.gap l).all valB = true := by
    unfold fL; split
    · split
      · rename_i hr; exact fl_valB hall hr
      · rfl
    · rfl
  obtain ⟨PA, PL⟩ := perL_all hb13 hst hLv hLn hokc
  rw [← hsl] at PA PL
  rw [hz, hA] at sp
  have OKT := okT hb13
  obtain ⟨ps, hps⟩ : ∃ ps, ps = spL t step start l := ⟨_, rfl⟩
  rw [← hps] at sp PA PL
  rw [← hps]
  have PK := pAt_ok PA
  clear hps hA hm hb13 hfe hokc hsl hst hsa len1 len2 hall hLn hLv PA hz
  obtain ⟨a, cap, rfl⟩ := h.form
  have B0 : Below w.heap.size w ((w.alloc (.cells #[.int .i64 step, .int .i64 start, .slice a l.length cap] 24)).alloc (.cells #[.int .i64 t.z.off, .int .i64 t.z.f.m, .int .i64 t.z.f.w, .int .i64 t.z.f.d, .int .i64 t.z.f.h, .int .i64 t.z.t.m, .int .i64 t.z.t.w, .int .i64 t.z.t.d, .int .i64 t.z.t.h, .int .i64 t.days, .int .i64 t.gap, .int .i64 t.first, .int .i64 t.last, .string t.h0, .string t.h1, .string t.h2, .string t.h3, .int .i64 t.b0.x, .int .i64 t.b0.y, .int .i64 t.b0.z, .int .i64 t.b1.x, .int .i64 t.b1.y, .int .i64 t.b1.z, .int .i64 t.b2.x, .int .i64 t.b2.y, .int .i64 t.b2.z, .int .i64 t.d.x, .int .i64 t.d.y, .int .i64 t.d.z, .int .i64 t.np, .int .i64 t.nn, .int .i64 t.fix, .int .i64 t.min, .int .i64 t.tax] 38)) := below_more (below_more (Below.refl _ _) _) _
  have MT : ((w.alloc (.cells #[.int .i64 step, .int .i64 start, .slice a l.length cap] 24)).alloc (.cells #[.int .i64 t.z.off, .int .i64 t.z.f.m, .int .i64 t.z.f.w, .int .i64 t.z.f.d, .int .i64 t.z.f.h, .int .i64 t.z.t.m, .int .i64 t.z.t.w, .int .i64 t.z.t.d, .int .i64 t.z.t.h, .int .i64 t.days, .int .i64 t.gap, .int .i64 t.first, .int .i64 t.last, .string t.h0, .string t.h1, .string t.h2, .string t.h3, .int .i64 t.b0.x, .int .i64 t.b0.y, .int .i64 t.b0.z, .int .i64 t.b1.x, .int .i64 t.b1.y, .int .i64 t.b1.z, .int .i64 t.b2.x, .int .i64 t.b2.y, .int .i64 t.b2.z, .int .i64 t.d.x, .int .i64 t.d.y, .int .i64 t.d.z, .int .i64 t.np, .int .i64 t.nn, .int .i64 t.fix, .int .i64 t.min, .int .i64 t.tax] 38)).heap[w.heap.size + 1]? = some (.cells #[.int .i64 t.z.off, .int .i64 t.z.f.m, .int .i64 t.z.f.w, .int .i64 t.z.f.d, .int .i64 t.z.f.h, .int .i64 t.z.t.m, .int .i64 t.z.t.w, .int .i64 t.z.t.d, .int .i64 t.z.t.h, .int .i64 t.days, .int .i64 t.gap, .int .i64 t.first, .int .i64 t.last, .string t.h0, .string t.h1, .string t.h2, .string t.h3, .int .i64 t.b0.x, .int .i64 t.b0.y, .int .i64 t.b0.z, .int .i64 t.b1.x, .int .i64 t.b1.y, .int .i64 t.b1.z, .int .i64 t.b2.x, .int .i64 t.b2.y, .int .i64 t.b2.z, .int .i64 t.d.x, .int .i64 t.d.y, .int .i64 t.d.z, .int .i64 t.np, .int .i64 t.nn, .int .i64 t.fix, .int .i64 t.min, .int .i64 t.tax] 38) := heap_alloc2_new _ _ _
  have HOKT := hideF OKT
  have HPK := hideF PK
  have tb1 := OKT.d
  have tb2 := OKT.n
  have tb3 := OKT.f
  clear h OKT PK
  go_enter Try.func19, Try.ntmps19
  go_wp2_with (first
    | (refine wpList_load_row rfl 38 _ rfl (w.heap.size + 1) rfl 38 _ (0, 0) _ MT Try.underlying38 rfl (by kernel_rfl) ?_)
    | (go_at_call 11; refine (sp _ B0).mono ?_; rintro e w1 ⟨v1, rfl, own1, hb1⟩; obtain ⟨a1, cap1, rfl⟩ := own_slice own1))
  have U1 := hideF (PRow.of_own own1 rfl)
  have BW := below_then B0 hb1
  have hs1 : w.heap.size + 2 ≤ w1.heap.size := by have := hb1.size; simp at this; omega
  have MT1 : TR w1 (w.heap.size + 1) t := (hb1.block (w.heap.size + 1) (by simp)).trans MT
  clear own1 hb1 MT B0 sp
  go_loopw [10, 12] (fun f p wr => ∃ (k : Nat) (cv : Value), p = .int .i64 k ∧ k ≤ ps.length ∧ wr.ownsRow (w1.heap.size + 1) 75 15 f k (lcs (lnR t ps k)) ∧ BankAt wr (w1.heap.size + 1) w1.heap.size cv (crR t ps k) ∧ Below w1.heap.size w1 wr) (fun _ p _ => ps.length - (intOf p).toNat)
  case atStart =>
    exact ⟨0, .slice none 0 0, rfl, by omega, World.ownsRow_nil _ _ _ _, ⟨by simp, by simp [go_sem], by simp [go_sem], World.ownsRow_nil _ _ _ _, by omega, by simp⟩, below_more (Below.refl _ _) _⟩
  case round =>
    obtain ⟨k, cv, rfl, hk, hown, hB, hb⟩ := hrel
    obtain ⟨a0, cap0, rfl⟩ := own_slice hown
    have hsz := hb.size
    by_cases hlt : k < ps.length
    · have hlt' : (k : Int) < (ps.length : Int) := by omega
      have hk0 : (0 : Int) ≤ (k : Int) := by omega
      have Ur := U1.out.below hb
      obtain ⟨gu, rfl, hcap, hglt, u0, u1, u2, u3, u4⟩ := Ur.at (pAt_get hlt)
      have hcap' : (ps.length : Int) ≤ (cap1 : Int) := by omega
      have TRr : TR wr (w.heap.size + 1) t := (hb.block (w.heap.size + 1) (by omega)).trans MT1
      have q17 := TRr.c17
      have q18 := TRr.c18
      have q19 := TRr.c19
      have q20 := TRr.c20
      have q21 := TRr.c21
      have q22 := TRr.c22
      have q23 := TRr.c23
      have q24 := TRr.c24
      have q25 := TRr.c25
      have q26 := TRr.c26
      have q27 := TRr.c27
      have q28 := TRr.c28
      have CL := crR_len t ps k
      have CO := cr_ok HOKT.out HPK.out k
      have LB := lnB HOKT.out HPK.out k
      have LC := lnC HOKT.out HPK.out CO k
      have hpx := HPK.out k
      have HL : Hid (lnAt t ps k = ⟨(pAt ps k).i0, (pAt ps k).i1, (pAt ps k).i2, (pAt ps k).o, (pAt ps k).pk, blOf t ps k, enOf t (pAt ps k), pwOf t ps k, apOf t ps (crR t ps k) k, exOf t (crR t ps k), pdOf t ps k, (c3Of t ps (crR t ps k) k).sum, suOf t ps (crR t ps k) k, rnd (suOf t ps (crR t ps k) k * t.tax), suOf t ps (crR t ps k) k + rnd (suOf t ps (crR t ps k) k * t.tax)⟩) := rfl
      have HC : Hid (crR t ps (k + 1) = c3Of t ps (crR t ps k) k) := rfl
      have ep := fun W => energyPrice_any t (pAt ps k) W HOKT.out hpx
      have pka := fun W (h : PRow W (.slice (some ⟨gu, 0, none⟩) ps.length cap1) ps) => peakAhead_any ps _ k t.d.z W h hk (by omega) tb1.2.2.2.2.1 tb1.2.2.2.2.2
      have lg1 : ∀ W, Calls Try.prog 38 #[.int .i64 (pAt ps k).pk, .int .i64 (pkA ps k t.d.z * t.d.y / 100)] W fun e w' => e = .returned (.int .i64 (blOf t ps k)) ∧ w' = W := fun W => larger_any _ _ W
      have ht1 : (pkA ps k t.d.z * t.d.y).tdiv 100 = pkA ps k t.d.z * t.d.y / 100 := Int.tdiv_eq_ediv_of_nonneg LB.pm.1
      have r1 : ∀ W, Calls Try.prog 40 #[.int .i64 (blOf t ps k * t.d.x)] W fun e w' => e = .returned (.int .i64 (pwOf t ps k)) ∧ w' = W := fun W => rounded_any _ W LB.bm.1 (by have := LB.bm.2; omega)
      have r2 : ∀ W, Calls Try.prog 40 #[.int .i64 ((pAt ps k).o * t.np)] W fun e w' => e = .returned (.int .i64 (pdOf t ps k)) ∧ w' = W := fun W => rounded_any _ W LB.om.1 (by have := LB.om.2; omega)
      have xp : ∀ W, BankAt W (w1.heap.size + 1) w1.heap.size cv (crR t ps k) → Calls Try.prog 41 #[.pointer (some ⟨w1.heap.size, 0, none⟩), .int .i64 t.nn] W fun e w' => e = .returned (.int .i64 (exOf t (crR t ps k))) ∧ W.grownBy w' cv.ownBlock ∧ BankAt w' (w1.heap.size + 1) w1.heap.size cv (c1Of t (crR t ps k)) := fun W h => expire_any _ _ _ _ _ W h CO (by omega) tb2.2.2.1 tb2.2.2.2
      have C1 : okL 20000000000001 (c1Of t (crR t ps k)) := c1_ok CO
      have C1L : (c1Of t (crR t ps k)).length ≤ 40000 := by unfold c1Of; rw [expC_len]; omega
      have ay : ∀ W, BankAt W (w1.heap.size + 1) w1.heap.size cv (c1Of t (crR t ps k)) → Calls Try.prog 42 #[.pointer (some ⟨w1.heap.size, 0, none⟩), .int .i64 (enOf t (pAt ps k))] W fun e w' => e = .returned (.int .i64 (apOf t ps (crR t ps k) k)) ∧ W.grownBy w' cv.ownBlock ∧ BankAt w' (w1.heap.size + 1) w1.heap.size cv (c2Of t ps (crR t ps k) k) := fun W h => apply_any _ _ _ _ _ W h C1 C1L LB.en.1 (by have := LB.en.2; omega)
      have C2L : (c2Of t ps (crR t ps k) k).length ≤ 40000 := by unfold c2Of; rw [appC_len]; exact C1L
      have ad : ∀ W, BankAt W (w1.heap.size + 1) w1.heap.size cv (c2Of t ps (crR t ps k) k) → _ := fun W h => add_any (c2Of t ps (crR t ps k) k) (pdOf t ps k) _ _ _ W h C2L
      have CO1 := cr_ok HOKT.out HPK.out (k + 1)
      have CL1 := crR_len t ps (k + 1)
      rw [HC.out] at CO1 CL1
      have lf : ∀ W cv', BankAt W (w1.heap.size + 1) w1.heap.size cv' (c3Of t ps (crR t ps k) k) → _ := fun W cv' h => left_any _ _ _ cv' W h CO1 (by omega)
      have lg2 : ∀ W, Calls Try.prog 38 #[.int .i64 (t.fix + enOf t (pAt ps k) - apOf t ps (crR t ps k) k + pwOf t ps k), .int .i64 t.min] W fun e w' => e = .returned (.int .i64 (suOf t ps (crR t ps k) k)) ∧ w' = W := fun W => larger_any _ _ W
      have r3 : ∀ W, Calls Try.prog 40 #[.int .i64 (suOf t ps (crR t ps k) k * t.tax)] W fun e w' => e = .returned (.int .i64 (rnd (suOf t ps (crR t ps k) k * t.tax))) ∧ w' = W := fun W => rounded_any _ W LC.sm.1 (by have := LC.sm.2; omega)
      have b1 := LB.pk
      have b2 := LB.pm
      have b3 := LB.bl
      have b4 := LB.bm
      have b5 := LB.pw
      have b6 := LB.en
      have b7 := LB.om
      have b8 := LB.pd
      have b9 := LC.ap
      have b10 := LC.su
      have b11 := LC.sm
      have b12 := rnd_bd LC.sm.1 LC.sm.2
      have HOO : Hid (c3Of t ps (crR t ps k) k = c2Of t ps (crR t ps k) k ++ [pdOf t ps k]) := rfl
      have HLN : Hid (lnR t ps (k + 1) = lnR t ps k ++ [lnAt t ps k]) := rfl
      simp only [okP] at hpx
      -- letters
      obtain ⟨x, hx⟩ : ∃ x, x = pAt ps k := ⟨_, rfl⟩
      rw [← hx] at u0 u1 u2 u3 u4 ep lg1 r2 b6 b7 HL b9 ay lg2 hpx
      obtain ⟨c, hc⟩ : ∃ c, c = crR t ps k := ⟨_, rfl⟩
      rw [← hc] at hB xp ay ad lf lg2 r3 b9 b10 b11 b12 HL HC HOO C1 C1L C2L CO1 CL1
      obtain ⟨c1, hc1⟩ : ∃ c1, c1 = c1Of t c := ⟨_, rfl⟩
      rw [← hc1] at xp ay
      obtain ⟨c2, hc2⟩ : ∃ c2, c2 = c2Of t ps c k := ⟨_, rfl⟩
      rw [← hc2] at ay ad HOO
      obtain ⟨c3, hc3⟩ : ∃ c3, c3 = c3Of t ps c k := ⟨_, rfl⟩
      rw [← hc3] at lf HL HC HOO
      obtain ⟨Pk, hPk⟩ : ∃ y, y = pkA ps k t.d.z := ⟨_, rfl⟩
      rw [← hPk] at pka lg1 ht1 b1 b2
      obtain ⟨Bl, hBl⟩ : ∃ y, y = blOf t ps k := ⟨_, rfl⟩
      rw [← hBl] at lg1 r1 b3 b4 HL
      obtain ⟨En, hEn⟩ : ∃ y, y = enOf t x := ⟨_, rfl⟩
      rw [← hEn] at ep ay lg2 b6 b9 HL
      obtain ⟨Pw, hPw⟩ : ∃ y, y = pwOf t ps k := ⟨_, rfl⟩
      rw [← hPw] at r1 lg2 b5 HL
      obtain ⟨Pd, hPd⟩ : ∃ y, y = pdOf t ps k := ⟨_, rfl⟩
      rw [← hPd] at r2 ad b8 HL HOO
      obtain ⟨Ex, hEx⟩ : ∃ y, y = exOf t c := ⟨_, rfl⟩
      rw [← hEx] at xp HL
      obtain ⟨Ap, hAp⟩ : ∃ y, y = apOf t ps c k := ⟨_, rfl⟩
      rw [← hAp] at ay lg2 b9 HL
      obtain ⟨Su, hSu⟩ : ∃ y, y = suOf t ps c k := ⟨_, rfl⟩
      rw [← hSu] at lg2 r3 b10 b11 b12 HL
      obtain ⟨Tx, hTx⟩ : ∃ y, y = rnd (Su * t.tax) := ⟨_, rfl⟩
      rw [← hTx] at r3 b12 HL
      obtain ⟨Bk, hBk⟩ : ∃ y, y = c3.sum := ⟨_, rfl⟩
      rw [← hBk] at lf HL
      have hcvl : ∀ j, cv.ownBlock = some j → w1.heap.size + 1 ≤ j ∧ j < wr.heap.size := hB.own.lt
      have hfl : ∀ j, (Value.ownBlock (.slice a0 k cap0)) = some j → w1.heap.size + 1 ≤ j ∧ j < wr.heap.size := hown.lt
      have hcvn : cv.ownBlock ≠ some wr.heap.size := fun e => by have := (hcvl _ e).2; omega
      have hfn : (Value.ownBlock (.slice a0 k cap0)) ≠ some wr.heap.size := fun e => by have := (hfl _ e).2; omega
      have hap := own_apart hown hB.own (by decide)
      have hBl1 := hB.lt
      have HAP := hideF hap
      have HFL := hideF hfl
      have HCVL := hideF hcvl
      have HCL := hideF CL
      have HCL1 := hideF CL1
      have HUr := hideF Ur
      have HHB := hideF hB
      have HTR := hideF TRr
      have hw0 : w.heap.size + 1 < wr.heap.size := by omega
      clear hx hc hc1 hc2 hc3 hPk hBl hEn hPw hPd hEx hAp hSu hTx hBk CO LB LC C1 C1L C2L CO1 CL CL1 hap hfl hcvl TRr Ur
      go_wp2_with fail
      go_region_held3 (fun w' => w'.cell? ⟨gu, k * 5, none⟩ = some (.int .i64 x.i0) ∧ w'.cell? ⟨gu, k * 5 + 1, none⟩ = some (.int .i64 x.i1) ∧ w'.cell? ⟨gu, k * 5 + 2, none⟩ = some (.int .i64 x.i2) ∧ w'.cell? ⟨gu, k * 5 + 3, none⟩ = some (.int .i64 x.o) ∧ w'.cell? ⟨gu, k * 5 + 4, none⟩ = some (.int .i64 x.pk))
        (simp [go_sem, *])
        (fail)
      all_goals
        go_wp2_with (first
          | (at_builtin; have _ := B5; refine wpList_append_own _ rfl _ _ 71 rfl (w1.heap.size + 1) 75 i0 (.agg #[.int .i64 0, .int .i64 0, .int .i64 0, .int .i64 0, .int .i64 0, .int .i64 0, .int .i64 0, .int .i64 0, .int .i64 0, .int .i64 0, .int .i64 0, .int .i64 0, .int .i64 0, .int .i64 0, .int .i64 0]) 15 120 Try.underlying71 hi hz0 hz1 hz2 rfl (by decide) _ _ _ rfl (OF.alloc _) ⟨w5.heap.size, 0, none⟩ 1 1 (lcell ⟨x.i0, x.i1, x.i2, x.o, x.pk, Bl, En, Pw, Ap, Ex, Pd, Bk, Su, Tx, Su + Tx⟩) rfl rfl (by intro j u hj; have := LR_cell ((((w5.setCell ⟨wr.heap.size, 11, none⟩ (.int .i64 Bk)).setCell ⟨wr.heap.size, 12, none⟩ (.int .i64 Su)).setCell ⟨wr.heap.size, 13, none⟩ (.int .i64 Tx)).setCell ⟨wr.heap.size, 14, none⟩ (.int .i64 (Su + Tx))) ⟨x.i0, x.i1, x.i2, x.o, x.pk, Bl, En, Pw, Ap, Ex, Pd, Bk, Su, Tx, Su + Tx⟩ j u hj; simpa using this) (fun y hy => by simp [lcell] at hy; rcases hy with rfl | rfl | rfl | rfl | rfl | rfl | rfl | rfl | rfl | rfl | rfl | rfl | rfl | rfl | rfl <;> rfl) (by unfold maxLen; omega) (by omega) (by simp; omega) ?_; intro v' w6 own6 g6 nil6; obtain ⟨a6, cap6, rfl⟩ := own_slice own6)
          | (go_at_call 44; refine (lf _ _ k5).mono ?_; rintro e w7 ⟨rfl, h7⟩; have h8 := h7.symm; subst h8)
          | (go_at_call 38; have _ := B5; refine (lg2 _).mono ?_; rintro e w7 ⟨rfl, h7⟩; have h8 := h7.symm; subst h8)
          | (go_at_call 40; have _ := B5; refine (r3 _).mono ?_; rintro e w7 ⟨rfl, h7⟩; have h8 := h7.symm; subst h8)
          | (go_at_call 43; refine (ad _ K4).mono ?_; rintro e w5 ⟨rfl, cv5, k5', s5, blk5, o5, tp5, ou5⟩; have L5 : LR w5 wr.heap.size ⟨x.i0, x.i1, x.i2, x.o, x.pk, Bl, En, Pw, Ap, Ex, Pd, 0, 0, 0, 0⟩ := (blk5 wr.heap.size L4x.lt (by omega) (fun e => hcvn e.symm)).trans L4x; have O5 := own_blk O4x (fun j hj => blk5 j (O4x.lt j hj).2 (by have := (HFL.out j hj).1; omega) (fun e => HAP.out j hj e.symm)); have B5 : Below w1.heap.size w1 w5 := B4x.trans ⟨o5, tp5, ou5, s5, fun j hj => blk5 j (by have := B4x.size; omega) (by omega) (fun e => by have := (HCVL.out j e.symm).1; omega)⟩; have k5 : BankAt w5 (w1.heap.size + 1) w1.heap.size cv5 c3 := (by rw [HOO.out]; exact k5'); have N5 : cv5.ownBlock ≠ some wr.heap.size := L5.apart k5.own (by decide); have A5 := own_apart O5 k5.own (by decide); have LF : LR ((((w5.setCell ⟨wr.heap.size, 11, none⟩ (.int .i64 Bk)).setCell ⟨wr.heap.size, 12, none⟩ (.int .i64 Su)).setCell ⟨wr.heap.size, 13, none⟩ (.int .i64 Tx)).setCell ⟨wr.heap.size, 14, none⟩ (.int .i64 (Su + Tx))) wr.heap.size ⟨x.i0, x.i1, x.i2, x.o, x.pk, Bl, En, Pw, Ap, Ex, Pd, Bk, Su, Tx, Su + Tx⟩ := LR.to (LR.tx (LR.su (LR.bk L5 Bk) Su) Tx) (Su + Tx); have OF := own_far (own_far (own_far (own_far O5 hfn 11 (.int .i64 Bk)) hfn 12 (.int .i64 Su)) hfn 13 (.int .i64 Tx)) hfn 14 (.int .i64 (Su + Tx)); have e6 : w5.cell? ⟨wr.heap.size, 6, none⟩ = some (.int .i64 En) := L5.c6; have ef6 : w5.frozen? ⟨wr.heap.size, 6, none⟩ = false := L5.frz 6; have e7 : w5.cell? ⟨wr.heap.size, 7, none⟩ = some (.int .i64 Pw) := L5.c7; have ef7 : w5.frozen? ⟨wr.heap.size, 7, none⟩ = false := L5.frz 7; have e8 : w5.cell? ⟨wr.heap.size, 8, none⟩ = some (.int .i64 Ap) := L5.c8; have ef8 : w5.frozen? ⟨wr.heap.size, 8, none⟩ = false := L5.frz 8; have e11 : w5.cell? ⟨wr.heap.size, 11, none⟩ = some (.int .i64 0) := L5.c11; have ef11 : w5.frozen? ⟨wr.heap.size, 11, none⟩ = false := L5.frz 11; have e12 : w5.cell? ⟨wr.heap.size, 12, none⟩ = some (.int .i64 0) := L5.c12; have ef12 : w5.frozen? ⟨wr.heap.size, 12, none⟩ = false := L5.frz 12; have e13 : w5.cell? ⟨wr.heap.size, 13, none⟩ = some (.int .i64 0) := L5.c13; have ef13 : w5.frozen? ⟨wr.heap.size, 13, none⟩ = false := L5.frz 13; have e14 : w5.cell? ⟨wr.heap.size, 14, none⟩ = some (.int .i64 0) := L5.c14; have ef14 : w5.frozen? ⟨wr.heap.size, 14, none⟩ = false := L5.frz 14; have T5 : TR w5 (w.heap.size + 1) t := (B5.block (w.heap.size + 1) (by omega)).trans MT1; have et31 : w5.cell? ⟨w.heap.size + 1, 31, none⟩ = some (.int .i64 t.fix) := T5.c31; have et32 : w5.cell? ⟨w.heap.size + 1, 32, none⟩ = some (.int .i64 t.min) := T5.c32; have et33 : w5.cell? ⟨w.heap.size + 1, 33, none⟩ = some (.int .i64 t.tax) := T5.c33; have e0 : w5.cell? ⟨wr.heap.size, 0, none⟩ = some (.int .i64 x.i0) := L5.c0; have e1 : w5.cell? ⟨wr.heap.size, 1, none⟩ = some (.int .i64 x.i1) := L5.c1; have e2 : w5.cell? ⟨wr.heap.size, 2, none⟩ = some (.int .i64 x.i2) := L5.c2; have e3 : w5.cell? ⟨wr.heap.size, 3, none⟩ = some (.int .i64 x.o) := L5.c3; have e4 : w5.cell? ⟨wr.heap.size, 4, none⟩ = some (.int .i64 x.pk) := L5.c4; have e5 : w5.cell? ⟨wr.heap.size, 5, none⟩ = some (.int .i64 Bl) := L5.c5; have e9 : w5.cell? ⟨wr.heap.size, 9, none⟩ = some (.int .i64 Ex) := L5.c9; have e10 : w5.cell? ⟨wr.heap.size, 10, none⟩ = some (.int .i64 Pd) := L5.c10; have hl5 := L5.lt; clear blk5 k5' L4x O4x B4x K4)
          | (go_at_call 42; refine (ay _ K3).mono ?_; rintro e w4 ⟨rfl, g4, k4⟩; have L4 : LR w4 wr.heap.size ⟨x.i0, x.i1, x.i2, x.o, x.pk, Bl, En, Pw, 0, Ex, Pd, 0, 0, 0, 0⟩ := (g4.block wr.heap.size L3x.lt (fun e => hcvn e.symm)).trans L3x; have O4 := O3x.kept g4 (own_ne HAP.out); have B4 : Below w1.heap.size w1 w4 := Below.grown B3x g4 (by have := B3x.size; omega) (fun j hj => by have := (HCVL.out j hj).1; omega); have K4 := BankAt.far k4 (show ¬ w1.heap.size = wr.heap.size by omega) hcvn 8 (.int .i64 Ap); have L4x := LR.ap L4 Ap; have O4x := own_far O4 hfn 8 (.int .i64 Ap); have B4x : Below w1.heap.size w1 (w4.setCell ⟨wr.heap.size, 8, none⟩ (.int .i64 Ap)) := Below.setCell B4 (show w1.heap.size ≤ wr.heap.size by omega) _; have d8 : w4.cell? ⟨wr.heap.size, 8, none⟩ = some (.int .i64 0) := L4.c8; have df8 : w4.frozen? ⟨wr.heap.size, 8, none⟩ = false := L4.frz 8; have d10 : w4.cell? ⟨wr.heap.size, 10, none⟩ = some (.int .i64 Pd) := L4.c10; have df10 : w4.frozen? ⟨wr.heap.size, 10, none⟩ = false := L4.frz 10; have hl4 := L4.lt; clear g4 k4 L3x O3x B3x K3)
          | (go_at_call 41; refine (xp _ (HHB.out.below E3)).mono ?_; rintro e w3 ⟨rfl, g3, k3⟩; have L3 : LR w3 wr.heap.size ⟨x.i0, x.i1, x.i2, x.o, x.pk, Bl, En, Pw, 0, 0, Pd, 0, 0, 0, 0⟩ := (g3.block wr.heap.size L2x.lt (fun e => hcvn e.symm)).trans L2x; have O3 := (own_below hown E3).kept g3 (own_ne HAP.out); have B3 : Below w1.heap.size w1 w3 := Below.grown (below_then hb E3) g3 (by have := E3.size; omega) (fun j hj => by have := (HCVL.out j hj).1; omega); have K3 := BankAt.far k3 (show ¬ w1.heap.size = wr.heap.size by omega) hcvn 9 (.int .i64 Ex); have L3x := LR.ex L3 Ex; have O3x := own_far O3 hfn 9 (.int .i64 Ex); have B3x : Below w1.heap.size w1 (w3.setCell ⟨wr.heap.size, 9, none⟩ (.int .i64 Ex)) := Below.setCell B3 (show w1.heap.size ≤ wr.heap.size by omega) _; have c6 : w3.cell? ⟨wr.heap.size, 6, none⟩ = some (.int .i64 En) := L3.c6; have cf6 : w3.frozen? ⟨wr.heap.size, 6, none⟩ = false := L3.frz 6; have c9 : w3.cell? ⟨wr.heap.size, 9, none⟩ = some (.int .i64 0) := L3.c9; have cf9 : w3.frozen? ⟨wr.heap.size, 9, none⟩ = false := L3.frz 9; have hl3 := L3.lt; clear g3 k3 E3 L2x)
          | (go_at_call 40; have _ := mk1; refine (r2 _).mono ?_; rintro e w7 ⟨rfl, h7⟩; have h8 := h7.symm; subst h8)
          | (go_at_call 40; refine (r1 _).mono ?_; rintro e w7 ⟨rfl, h7⟩; have h8 := h7.symm; subst h8; have mk1 := True.intro)
          | (go_at_call 39; refine (ep _).mono ?_; rintro e w2 ⟨rfl, hb2⟩; have L2 : LR w2 wr.heap.size ⟨x.i0, x.i1, x.i2, x.o, x.pk, Bl, 0, 0, 0, 0, 0, 0, 0, 0, 0⟩ := (hb2.block wr.heap.size (by simp)).trans (LR.bl (LR.drewN (LR_new wr ⟨x.i0, x.i1, x.i2, x.o, x.pk, 0, 0, 0, 0, 0, 0, 0, 0, 0, 0⟩) _) Bl); have R2 : Below wr.heap.size wr w2 := below_then (by repeat (first | refine Below.setCell ?_ (by simp) _ | refine below_drewN ?_ _ | refine below_more ?_ _ | refine Below.drew ?_ | exact Below.refl _ _)) hb2; clear hb2; have E3 : Below wr.heap.size wr (((w2.setCell ⟨wr.heap.size, 6, none⟩ (.int .i64 En)).setCell ⟨wr.heap.size, 7, none⟩ (.int .i64 Pw)).setCell ⟨wr.heap.size, 10, none⟩ (.int .i64 Pd)) := Below.setCell (Below.setCell (Below.setCell R2 (Nat.le_refl wr.heap.size) _) (Nat.le_refl wr.heap.size) _) (Nat.le_refl wr.heap.size) _; have L2x : LR (((w2.setCell ⟨wr.heap.size, 6, none⟩ (.int .i64 En)).setCell ⟨wr.heap.size, 7, none⟩ (.int .i64 Pw)).setCell ⟨wr.heap.size, 10, none⟩ (.int .i64 Pd)) wr.heap.size ⟨x.i0, x.i1, x.i2, x.o, x.pk, Bl, En, Pw, 0, 0, Pd, 0, 0, 0, 0⟩ := LR.pd (LR.pw (LR.en L2 En) Pw) Pd; have b3 : w2.cell? ⟨wr.heap.size, 3, none⟩ = some (.int .i64 x.o) := L2.c3; have bf3 : w2.frozen? ⟨wr.heap.size, 3, none⟩ = false := L2.frz 3; have b5 : w2.cell? ⟨wr.heap.size, 5, none⟩ = some (.int .i64 Bl) := L2.c5; have bf5 : w2.frozen? ⟨wr.heap.size, 5, none⟩ = false := L2.frz 5; have b6 : w2.cell? ⟨wr.heap.size, 6, none⟩ = some (.int .i64 0) := L2.c6; have bf6 : w2.frozen? ⟨wr.heap.size, 6, none⟩ = false := L2.frz 6; have b7 : w2.cell? ⟨wr.heap.size, 7, none⟩ = some (.int .i64 0) := L2.c7; have bf7 : w2.frozen? ⟨wr.heap.size, 7, none⟩ = false := L2.frz 7; have b10 : w2.cell? ⟨wr.heap.size, 10, none⟩ = some (.int .i64 0) := L2.c10; have bf10 : w2.frozen? ⟨wr.heap.size, 10, none⟩ = false := L2.frz 10; have T2 : TR w2 (w.heap.size + 1) t := (R2.block (w.heap.size + 1) hw0).trans HTR.out; have bt26 : w2.cell? ⟨w.heap.size + 1, 26, none⟩ = some (.int .i64 t.d.x) := T2.c26; have bt29 : w2.cell? ⟨w.heap.size + 1, 29, none⟩ = some (.int .i64 t.np) := T2.c29; have bt30 : w2.cell? ⟨w.heap.size + 1, 30, none⟩ = some (.int .i64 t.nn) := T2.c30; have hl2 := L2.lt)
          | (go_at_call 38; refine (lg1 _).mono ?_; rintro e w7 ⟨rfl, h7⟩; have h8 := h7.symm; subst h8)
          | (go_at_call 37; refine (pka _ (HUr.out.below (by repeat (first | refine Below.setCell ?_ (by simp) _ | refine below_drewN ?_ _ | refine below_more ?_ _ | refine Below.drew ?_ | exact Below.refl _ _)))).mono ?_; rintro e w9 ⟨rfl, n1, rfl⟩))
        go_roundw
        case rel =>
          refine ⟨k + 1, cv5, by go_num, by omega, ?_, ?_, ?_⟩
          · rw [HLN.out, lcs_snoc, HL.out]; exact own6
          · rw [HC.out]
            exact (BankAt.below (BankAt.far (BankAt.far (BankAt.far (BankAt.far k5 (show ¬ w1.heap.size = wr.heap.size by omega) N5 11 (.int .i64 Bk)) (show ¬ w1.heap.size = wr.heap.size by omega) N5 12 (.int .i64 Su)) (show ¬ w1.heap.size = wr.heap.size by omega) N5 13 (.int .i64 Tx)) (show ¬ w1.heap.size = wr.heap.size by omega) N5 14 (.int .i64 (Su + Tx))) (below_more (Below.refl _ _) _)).kept g6 (fun e => by have := (HFL.out _ e.symm).1; omega) (own_ne' A5)
          · exact Below.grown (below_more (Below.setCell (Below.setCell (Below.setCell (Below.setCell B5 (show w1.heap.size ≤ wr.heap.size by omega) _) (show w1.heap.size ≤ wr.heap.size by omega) _) (show w1.heap.size ≤ wr.heap.size by omega) _) (show w1.heap.size ≤ wr.heap.size by omega) _) _) g6 (by simp; omega) (fun j hj => by have := (HFL.out j hj).1; omega)
        case measure => simp [intOf]; omega
    · have hlt' : ¬ (k : Int) < (ps.length : Int) := by omega
      have hke : k = ps.length := by omega
      subst hke
      go_wp2_with fail
      exact bodyPost_ret (v := .tuple #[.slice a0 ps.length cap0, .int .i64 0, .int .i64 0]) (by simp [results, Try.results19, go_sem]) rfl ⟨_, rfl, own_base hown (by omega), below_then BW hb⟩

end Go.Proofs.Ytjaffmmocbplaab

namespace Go.Proofs.Ytjaffmmocbplaab
set_option linter.unusedVariables false
namespace Bil
def pdS (t : Trf) (ps : List Per) : Nat → Int
  | 0 => 0
  | k + 1 => pdS t ps k + (lnAt t ps k).pd
def gnS (t : Trf) (ps : List Per) : Nat → Int
  | 0 => 0
  | k + 1 => gnS t ps k + (lnAt t ps k).ap + (lnAt t ps k).ex
theorem bank_tot {t : Trf} (ps : List Per) (hn : 0 ≤ t.nn) : ∀ k, pdS t ps k = gnS t ps k + (crR t ps k).sum
  | 0 => by simp [pdS, gnS, crR]
  | k + 1 => by
    have ih := bank_tot ps hn k
    have := bank_step t ps (crR t ps k) hn k
    have e1 : (lnAt t ps k).ap = apOf t ps (crR t ps k) k := rfl
    have e2 : (lnAt t ps k).ex = exOf t (crR t ps k) := rfl
    have e3 : (lnAt t ps k).pd = pdOf t ps k := rfl
    have e4 : crR t ps (k + 1) = c3Of t ps (crR t ps k) k := rfl
    show pdS t ps k + (lnAt t ps k).pd = gnS t ps k + (lnAt t ps k).ap + (lnAt t ps k).ex + (crR t ps (k + 1)).sum
    rw [e1, e2, e3, e4]; omega
structure BkB (t : Trf) (ps : List Per) (k : Nat) : Prop where
  ap : 0 ≤ (lnAt t ps k).ap ∧ (lnAt t ps k).ap ≤ (lnAt t ps k).en
  ex : 0 ≤ (lnAt t ps k).ex
  bk : 0 ≤ (lnAt t ps k).bk
  pd : 0 ≤ (lnAt t ps k).pd ∧ (lnAt t ps k).pd ≤ 20000000000001
  pr : (lnAt t ps k).pd = ((lnAt t ps k).o * t.np + 500) / 1000 ∧ 0 ≤ (lnAt t ps k).o * t.np ∧ (lnAt t ps k).o * t.np ≤ 20000000000000000
  tot : pdS t ps (k + 1) = gnS t ps (k + 1) + (lnAt t ps k).bk
  bd : 0 ≤ pdS t ps k ∧ pdS t ps k ≤ k * 20000000000001
  gd : 0 ≤ gnS t ps k ∧ gnS t ps k ≤ pdS t ps k
  gd1 : 0 ≤ gnS t ps (k + 1) ∧ gnS t ps (k + 1) ≤ pdS t ps (k + 1)
theorem sum_nonneg {t : Trf} {ps : List Per} (ht : OkT t) (h : ∀ k, okP (pAt ps k) 200) (k : Nat) : 0 ≤ (crR t ps k).sum := by
  have := okL_sum (cr_ok ht h k) (crR t ps k).length (Nat.le_refl _)
  rw [List.take_of_length_le (Nat.le_refl _)] at this
  exact this.1
theorem ex_nonneg {t : Trf} {ps : List Per} (ht : OkT t) (h : ∀ k, okP (pAt ps k) 200) (k : Nat) : 0 ≤ exOf t (crR t ps k) :=
  (okL_sum (cr_ok ht h k) _ (by have := ht.n; unfold exN; omega)).1
theorem pd_bd {t : Trf} {ps : List Per} (ht : OkT t) (h : ∀ k, okP (pAt ps k) 200) : ∀ k, (0 ≤ pdS t ps k ∧ pdS t ps k ≤ k * 20000000000001) ∧ 0 ≤ gnS t ps k
  | 0 => by simp [pdS, gnS]
  | k + 1 => by
    obtain ⟨⟨a, b⟩, c⟩ := pd_bd ht h k
    have d := (lnB ht h k).pd
    have e := (lnC ht h (cr_ok ht h k) k).ap
    have f := ex_nonneg ht h k
    have e1 : (lnAt t ps k).ap = apOf t ps (crR t ps k) k := rfl
    have e2 : (lnAt t ps k).ex = exOf t (crR t ps k) := rfl
    have e3 : (lnAt t ps k).pd = pdOf t ps k := rfl
    show (0 ≤ pdS t ps k + (lnAt t ps k).pd ∧ pdS t ps k + (lnAt t ps k).pd ≤ ((k + 1 : Nat) : Int) * 20000000000001) ∧ 0 ≤ gnS t ps k + (lnAt t ps k).ap + (lnAt t ps k).ex
    rw [e1, e2, e3]; omega
theorem bkB {t : Trf} {ps : List Per} (ht : OkT t) (h : ∀ k, okP (pAt ps k) 200) (k : Nat) : BkB t ps k := by
  have hn := ht.n
  have s0 := sum_nonneg ht h k
  have s1 := sum_nonneg ht h (k + 1)
  have t0 := bank_tot ps hn.2.2.1 k
  have t1 := bank_tot ps hn.2.2.1 (k + 1)
  obtain ⟨b0, g0⟩ := pd_bd ht h k
  obtain ⟨b1, g1⟩ := pd_bd ht h (k + 1)
  have b := lnB ht h k
  have c := lnC ht h (cr_ok ht h k) k
  exact ⟨c.ap, ex_nonneg ht h k, s1, b.pd, ⟨rfl, b.om⟩, t1, b0, ⟨g0, by omega⟩, ⟨g1, by omega⟩⟩

/-! ### the ratchet -/
theorem pkR_ge (ps : List Per) (a : Nat) : ∀ n m, m < n → (pAt ps (a + m)).pk ≤ pkR ps a n
  | n + 1, m, h => by
    show _ ≤ mx (pkR ps a n) (pAt ps (a + n)).pk
    obtain ⟨x, y⟩ := mx_ge (pkR ps a n) (pAt ps (a + n)).pk
    by_cases e : m < n
    · have := pkR_ge ps a n m e; omega
    · have e' : m = n := by omega
      subst e'; omega
theorem pkR_le (ps : List Per) (a : Nat) (B : Int) (hB : 0 ≤ B) : ∀ n, (∀ m, m < n → (pAt ps (a + m)).pk ≤ B) → pkR ps a n ≤ B
  | 0, _ => hB
  | n + 1, h => by
    show mx (pkR ps a n) (pAt ps (a + n)).pk ≤ B
    have := pkR_le ps a B hB n (fun m hm => h m (by omega))
    have := h n (by omega)
    have := mx_or (pkR ps a n) (pAt ps (a + n)).pk
    omega
theorem pkA_ge {ps : List Per} {i j : Nat} {q : Int} (h1 : (i : Int) - j ≤ q) (h2 : j < i) : (pAt ps j).pk ≤ pkA ps i q := by
  have hf : from0 i q ≤ j := by unfold from0; omega
  have := pkR_ge ps (from0 i q) (i - from0 i q) (j - from0 i q) (by omega)
  rw [show from0 i q + (j - from0 i q) = j by omega] at this
  exact this
/-- the largest peak, from i downward -/
def tpR (ps : List Per) (i : Nat) : Nat → Int
  | 0 => (pAt ps i).pk
  | m + 1 => mx (tpR ps i m) (pAt ps (i - 1 - m)).pk
theorem tpR_own (ps : List Per) (i : Nat) : ∀ m, (pAt ps i).pk ≤ tpR ps i m
  | 0 => Int.le_refl _
  | m + 1 => by
    have := tpR_own ps i m
    have := mx_ge (tpR ps i m) (pAt ps (i - 1 - m)).pk
    show _ ≤ mx _ _
    omega
theorem tpR_ge (ps : List Per) (i : Nat) : ∀ m j, j < m → (pAt ps (i - 1 - j)).pk ≤ tpR ps i m
  | m + 1, j, h => by
    show _ ≤ mx (tpR ps i m) (pAt ps (i - 1 - m)).pk
    obtain ⟨x, y⟩ := mx_ge (tpR ps i m) (pAt ps (i - 1 - m)).pk
    by_cases e : j < m
    · have := tpR_ge ps i m j e; omega
    · have e' : j = m := by omega
      subst e'; exact y
theorem tpR_bd {ps : List Per} (h : ∀ k, okP (pAt ps k) 200) (i : Nat) : ∀ m, 0 ≤ tpR ps i m ∧ tpR ps i m ≤ 4000000000
  | 0 => by have := h i; simp only [okP] at this; exact this.2.2.2.2
  | m + 1 => by
    have a := tpR_bd h i m
    have b := h (i - 1 - m)
    simp only [okP] at b
    show 0 ≤ mx _ _ ∧ mx _ _ ≤ 4000000000
    unfold mx; split <;> omega
theorem pkA_le {ps : List Per} (h : ∀ k, okP (pAt ps k) 200) {i m : Nat} {q : Int} (hm : i - from0 i q ≤ m) : pkA ps i q ≤ tpR ps i m := by
  refine pkR_le ps _ _ (tpR_bd h i m).1 _ fun j hj => ?_
  have := tpR_ge ps i m (i - 1 - (from0 i q + j)) (by omega)
  rw [show i - 1 - (i - 1 - (from0 i q + j)) = from0 i q + j by omega] at this
  exact this
theorem div_mono {a b : Int} (h : a ≤ b) : a / 100 ≤ b / 100 := by omega
theorem bl_ge {t : Trf} {ps : List Per} (ht : OkT t) {i j : Nat} (h1 : (i : Int) - j ≤ t.d.z) (h2 : j < i) : (pAt ps j).pk * t.d.y / 100 ≤ blOf t ps i := by
  have a := Int.mul_le_mul_of_nonneg_right (pkA_ge (ps := ps) h1 h2) ht.d.2.2.1
  have b := mx_ge (pAt ps i).pk (pkA ps i t.d.z * t.d.y / 100)
  unfold blOf
  have := div_mono a
  omega
theorem bl_le {t : Trf} {ps : List Per} (ht : OkT t) (h : ∀ k, okP (pAt ps k) 200) {i m : Nat} (hm : i - from0 i t.d.z ≤ m) : blOf t ps i ≤ tpR ps i m := by
  have a := pkA_le h hm
  have b := tpR_own ps i m
  have c := (lnB ht h i).pk
  have d := Int.mul_le_mul_of_nonneg_left ht.d.2.2.2.1 c.1
  have e := mx_or (pAt ps i).pk (pkA ps i t.d.z * t.d.y / 100)
  unfold blOf
  rcases e with e | e <;> rw [e] <;> omega
end Bil
end Go.Proofs.Ytjaffmmocbplaab

namespace Go.Proofs.Ytjaffmmocbplaab
open Go.RowKit Bil
set_option linter.unusedVariables false

theorem lcs_get : ∀ (l : List Ln) (i : Nat) (x : Ln), l[i]? = some x → ∀ j, j < 15 → (lcs l)[i * 15 + j]? = (lcell x)[j]?
  | [], i, x, h, j, hj => by simp at h
  | y :: l, 0, x, h, j, hj => by
    simp at h; subst h
    show (lcell y ++ lcs l)[0 * 15 + j]? = _
    rw [Nat.zero_mul, Nat.zero_add, List.getElem?_append_left (by simp [lcell]; omega)]
  | y :: l, i + 1, x, h, j, hj => by
    have ih := lcs_get l i x (by simpa using h) j hj
    show (lcell y ++ lcs l)[(i + 1) * 15 + j]? = _
    rw [List.getElem?_append_right (by simp [lcell]; omega), ← ih]
    congr 1
    simp [lcell]; omega
/-- a slice of lines reads as the list l -/
def LRow (w : World) (v : Value) (l : List Ln) : Prop :=
  ∃ a cap, v = .slice a l.length cap ∧ (l = [] ∨ ∃ b, a = some ⟨b, 0, none⟩ ∧ l.length ≤ cap ∧ b < w.heap.size ∧
    ∀ i x, l[i]? = some x → ∀ j u, (lcell x)[j]? = some u → w.cell? ⟨b, i * 15 + j, none⟩ = some u)
theorem LRow.form {w : World} {v : Value} {l : List Ln} (h : LRow w v l) : ∃ a cap, v = .slice a l.length cap := by
  obtain ⟨a, cap, hv, _⟩ := h; exact ⟨a, cap, hv⟩
theorem LRow.below {w w' : World} {v : Value} {l : List Ln} (h : LRow w v l) (hb : Below w.heap.size w w') : LRow w' v l := by
  obtain ⟨a, cap, hv, h⟩ := h
  refine ⟨a, cap, hv, h.imp id ?_⟩
  rintro ⟨b, ha, hc, hlt, h⟩
  have := hb.size
  exact ⟨b, ha, hc, by omega, fun i x hx j u hu => vcell_below hb hlt (h i x hx j u hu)⟩
theorem LRow.at {w : World} {a : Option Addr} {n cap : Nat} {l : List Ln} (h : LRow w (.slice a n cap) l) {k : Nat} {x : Ln} (hx : l[k]? = some x) :
    ∃ b, a = some ⟨b, 0, none⟩ ∧ n ≤ cap ∧ b < w.heap.size ∧ ∀ j u, (lcell x)[j]? = some u → w.cell? ⟨b, k * 15 + j, none⟩ = some u := by
  obtain ⟨a', cap', hv, h⟩ := h
  cases hv
  rcases h with rfl | ⟨b, rfl, hc, hlt, h⟩
  · simp at hx
  · exact ⟨b, rfl, hc, hlt, h k x hx⟩
theorem LRow.of_own {w : World} {base : Nat} {e : TypeId} {v : Value} {n : Nat} {l : List Ln} (h : w.ownsRow base e 15 v n (lcs l)) (hn : l.length = n) : LRow w v l := by
  subst hn
  by_cases h0 : l.length = 0
  · obtain ⟨a, cap, rfl⟩ := own_slice h
    have : l = [] := List.eq_nil_of_length_eq_zero h0
    subst this
    exact ⟨a, cap, rfl, .inl rfl⟩
  · obtain ⟨g, cap, rfl, hb, hlt⟩ := h.form (by omega)
    have hcap : l.length ≤ cap := by
      rcases h.2 with ⟨h1, _⟩ | ⟨g', cap', cur, hv, _, _, hc, _⟩
      · cases h1
      · cases hv; exact hc
    refine ⟨some ⟨g, 0, none⟩, cap, rfl, .inr ⟨g, rfl, hcap, hlt, fun i x hx j u hu => ?_⟩⟩
    have hi : i < l.length := by
      rcases Nat.lt_or_ge i l.length with q | q
      · exact q
      · rw [List.getElem?_eq_none q] at hx; cases hx
    have hj : j < 15 := by
      rcases Nat.lt_or_ge j 15 with q | q
      · exact q
      · rw [List.getElem?_eq_none (by simp [lcell]; omega)] at hu; cases hu
    rw [h.cellAt _ (by omega), lcs_get l i x hx j hj, hu]

/-- what a good bill's periods and tariff are -/
structure BOk (t : Trf) (ps : List Per) : Prop where
  t : OkT t
  p : ∀ k, okP (pAt ps k) 200
  n : 1 ≤ ps.length ∧ ps.length ≤ 36556
theorem bok {t : Trf} {step start : Int} {l : List Txt.Val} (hz : spE t step start l = 0) : BOk t (spL t step start l) := by
  obtain ⟨hm, hb13, hfe, hokc, hsl⟩ := sp_ok hz
  obtain ⟨hst, hsa⟩ := meterB_step hm
  obtain ⟨len1, len2, hall⟩ := meterB_fit hm
  have hLn := (fL_len step start t.gap l).2
  have hLv : (fL step start t.gap l).all valB = true := by
    unfold fL; split
    · split
      · rename_i hr; exact fl_valB hall hr
      · rfl
    · rfl
  obtain ⟨PA, PL⟩ := perL_all hb13 hst hLv hLn hokc
  rw [hsl]
  exact ⟨okT hb13, pAt_ok PA, by unfold perL; simp, PL⟩
end Go.Proofs.Ytjaffmmocbplaab

namespace Go.Proofs.Ytjaffmmocbplaab
set_option linter.unusedVariables false
namespace Bil
theorem cAt_set {c : List Int} {k j : Nat} {v : Int} (h : k < c.length) : cAt (c.set k v) j = if k = j then v else cAt c j := by
  unfold cAt
  rw [List.getD_eq_getElem?_getD, List.getElem?_set]
  by_cases e : k = j
  · subst e; rw [if_pos rfl, if_pos rfl, if_pos h]; rfl
  · rw [if_neg e, if_neg e, List.getD_eq_getElem?_getD]
/-- what is left of credit j ahead of its use -/
def docY (c : List Int) (n j : Nat) : Int := if j < n then 0 else cAt c j
theorem expC_at (c : List Int) : ∀ n, n ≤ c.length → ∀ j, j < c.length → cAt (expC c n) j = docY c n j
  | 0, _, j, _ => rfl
  | n + 1, hn, j, hj => by
    show cAt ((expC c n).set n 0) j = _
    rw [cAt_set (by rw [expC_len]; omega), expC_at c n (by omega) j hj]
    unfold docY
    by_cases e : n = j
    · subst e; rw [if_pos rfl, if_pos (by omega)]
    · rw [if_neg e]
      by_cases g : j < n
      · rw [if_pos g, if_pos (by omega)]
      · rw [if_neg g, if_neg (by omega)]
def docA (c : List Int) (n : Nat) (m : Int) : Nat → Int
  | 0 => 0
  | j + 1 => docA c n m j + mn (docY c n j) (m - docA c n m j)
def docX (c : List Int) (n : Nat) (m : Int) : Nat → List Int
  | 0 => c
  | j + 1 => (docX c n m j).set j (docY c n j - mn (docY c n j) (m - docA c n m j))
def docE (c : List Int) (n : Nat) : Nat → Int
  | 0 => 0
  | j + 1 => if j < n then docE c n j + cAt c j else docE c n j
theorem docX_len (c : List Int) (n : Nat) (m : Int) : ∀ j, (docX c n m j).length = c.length
  | 0 => rfl
  | j + 1 => by show ((docX c n m j).set j _).length = _; rw [List.length_set, docX_len c n m j]
theorem docX_get (c : List Int) (n : Nat) (m : Int) : ∀ k j, k ≤ j → cAt (docX c n m k) j = cAt c j
  | 0, j, _ => rfl
  | k + 1, j, h => by
    show cAt ((docX c n m k).set k _) j = _
    unfold cAt
    rw [List.getD_eq_getElem?_getD, List.getElem?_set, if_neg (by omega)]
    exact docX_get c n m k j (by omega)
theorem docA_eq {c : List Int} {n : Nat} {m : Int} (hn : n ≤ c.length) : ∀ j, j ≤ c.length → docA c n m j = appA m (expC c n) j
  | 0, _ => rfl
  | j + 1, h => by
    show docA c n m j + mn (docY c n j) (m - docA c n m j) = appA m (expC c n) j + mn (cAt (expC c n) j) (m - appA m (expC c n) j)
    rw [docA_eq hn j (by omega), expC_at c n hn j (by omega)]
theorem docX_at {c : List Int} {n : Nat} {m : Int} (hn : n ≤ c.length) : ∀ j, j ≤ c.length → ∀ i, i < j → cAt (docX c n m j) i = cAt (appC m (expC c n) j) i
  | j + 1, h, i, hi => by
    show cAt ((docX c n m j).set j (docY c n j - mn (docY c n j) (m - docA c n m j))) i = cAt ((appC m (expC c n) j).set j (cAt (expC c n) j - mn (cAt (expC c n) j) (m - appA m (expC c n) j))) i
    rw [cAt_set (by rw [docX_len]; omega), cAt_set (by rw [appC_len, expC_len]; omega), docA_eq hn j (by omega), expC_at c n hn j (by omega)]
    by_cases e : j = i
    · rw [if_pos e, if_pos e]
    · rw [if_neg e, if_neg e]; exact docX_at hn j (by omega) i (by omega)
theorem list_ext {a b : List Int} (hl : a.length = b.length) (h : ∀ i, i < a.length → cAt a i = cAt b i) : a = b := by
  refine List.ext_getElem? fun i => ?_
  by_cases e : i < a.length
  · rw [cAt_get e, cAt_get (by omega), h i e]
  · rw [List.getElem?_eq_none (by omega), List.getElem?_eq_none (by omega)]
theorem docX_all {c : List Int} {n : Nat} {m : Int} (hn : n ≤ c.length) : docX c n m c.length = appC m (expC c n) (expC c n).length := by
  rw [expC_len]
  refine list_ext (by rw [docX_len, appC_len, expC_len]) fun i hi => ?_
  rw [docX_len] at hi
  exact docX_at hn c.length (Nat.le_refl _) i hi
theorem docE_eq {c : List Int} {n : Nat} (hn : n ≤ c.length) : ∀ j, j ≤ c.length → docE c n j = (c.take (if j < n then j else n)).sum
  | 0, _ => by
    by_cases g : 0 < n
    · simp [docE, g]
    · have e : n = 0 := by omega
      subst e; simp [docE]
  | j + 1, h => by
    have ih := docE_eq hn j (by omega)
    show (if j < n then docE c n j + cAt c j else docE c n j) = _
    by_cases g : j < n
    · rw [if_pos g, ih, if_pos g]
      by_cases g' : j + 1 < n
      · rw [if_pos g', sum_take (by omega)]
      · rw [if_neg g', show n = j + 1 by omega, sum_take (by omega)]
    · rw [if_neg g, ih, if_neg g, if_neg (by omega)]
theorem docE_all {c : List Int} {n : Nat} (hn : n ≤ c.length) : docE c n c.length = (c.take n).sum := by
  rw [docE_eq hn _ (Nat.le_refl _)]
  by_cases g : c.length < n
  · omega
  · rw [if_neg g]
/-- what the document bills: the largest peak of those within the window -/
def docP (ps : List Per) (i : Nat) (q : Int) : Nat → Int
  | 0 => 0
  | j + 1 => if (i : Int) - j ≤ q then mx (docP ps i q j) (pAt ps j).pk else docP ps i q j
theorem docP_eq (ps : List Per) (i : Nat) (q : Int) : ∀ j, j ≤ i → docP ps i q j = pkR ps (from0 i q) (j - from0 i q)
  | 0, _ => by rw [Nat.zero_sub]; rfl
  | j + 1, h => by
    have ih := docP_eq ps i q j (by omega)
    show (if (i : Int) - j ≤ q then mx (docP ps i q j) (pAt ps j).pk else docP ps i q j) = _
    by_cases g : (i : Int) - j ≤ q
    · have hf : from0 i q ≤ j := by unfold from0; omega
      rw [if_pos g, ih, show j + 1 - from0 i q = (j - from0 i q) + 1 by omega]
      show _ = mx (pkR ps (from0 i q) (j - from0 i q)) (pAt ps (from0 i q + (j - from0 i q))).pk
      rw [show from0 i q + (j - from0 i q) = j by omega]
    · have hf : j < from0 i q := by unfold from0; omega
      rw [if_neg g, ih, show j + 1 - from0 i q = 0 by omega, show j - from0 i q = 0 by omega]
end Bil
end Go.Proofs.Ytjaffmmocbplaab

namespace Go.Proofs.Ytjaffmmocbplaab
open Go.RowKit Bil
set_option linter.unusedVariables false
attribute [local go_sem ↓] Go.wp_at_zero Go.wp_at_succ

theorem mills_any (n : Int) (w : World) (h0 : 0 ≤ n) (h1 : n ≤ 9000000000000000000) :
    Calls Try.prog 47 #[.int .i64 n] w fun e w' => e = .returned (.int .i64 (rnd n)) ∧ w' = w := by
  have ht : (n + 500).tdiv 1000 = rnd n := Int.tdiv_eq_ediv_of_nonneg (by omega)
  have hb := rnd_bd h0 h1
  go_enter Try.func47, Try.ntmps47
  go_wp2
  go_ret
  exact ⟨rfl, rfl⟩

set_option maxRecDepth 1000000 in
set_option maxHeartbeats 2000000 in
theorem refBilled_any (t : Trf) (ps : List Per) (v : Value) (i : Nat) (w : World) (h : PRow w v ps) (hi : i < ps.length) (hl : ps.length ≤ 40000) (ht : OkT t) (hp : ∀ k, okP (Bil.pAt ps k) 200) :
    Calls Try.prog 45 #[.agg #[.int .i64 t.z.off, .int .i64 t.z.f.m, .int .i64 t.z.f.w, .int .i64 t.z.f.d, .int .i64 t.z.f.h, .int .i64 t.z.t.m, .int .i64 t.z.t.w, .int .i64 t.z.t.d, .int .i64 t.z.t.h, .int .i64 t.days, .int .i64 t.gap, .int .i64 t.first, .int .i64 t.last, .string t.h0, .string t.h1, .string t.h2, .string t.h3, .int .i64 t.b0.x, .int .i64 t.b0.y, .int .i64 t.b0.z, .int .i64 t.b1.x, .int .i64 t.b1.y, .int .i64 t.b1.z, .int .i64 t.b2.x, .int .i64 t.b2.y, .int .i64 t.b2.z, .int .i64 t.d.x, .int .i64 t.d.y, .int .i64 t.d.z, .int .i64 t.np, .int .i64 t.nn, .int .i64 t.fix, .int .i64 t.min, .int .i64 t.tax], v, .int .i64 i] w fun e w' => e = .returned (.int .i64 (blOf t ps i)) ∧ Below w.heap.size w w' := by
  obtain ⟨a, cap, rfl⟩ := h.form
  have LB := lnB ht hp i
  have HPK : Hid (pkA ps i t.d.z = docP ps i t.d.z i) := (docP_eq ps i t.d.z i (Nat.le_refl _)).symm
  have b2 := LB.pm
  have b1 := LB.pk
  have HBL : Hid (blOf t ps i = mx (Bil.pAt ps i).pk (pkA ps i t.d.z * t.d.y / 100)) := rfl
  rw [HBL.out]
  rw [HPK.out] at b1 b2 ⊢
  have hq := ht.d
  have HP := hideF hp
  have HV := hideF h
  have DB : Hid (∀ j, 0 ≤ docP ps i t.d.z j ∧ docP ps i t.d.z j ≤ 4000000000) := by
    intro j
    induction j with
    | zero => show (0 : Int) ≤ 0 ∧ (0 : Int) ≤ 4000000000; omega
    | succ j ih =>
      have := HP.out j
      simp only [okP] at this
      have e : docP ps i t.d.z (j + 1) = if (i : Int) - j ≤ t.d.z then mx (docP ps i t.d.z j) (Bil.pAt ps j).pk else docP ps i t.d.z j := rfl
      rw [e]
      split
      · unfold mx; split <;> omega
      · exact ih
  clear LB ht hp h
  go_enter Try.func45, Try.ntmps45
  go_wp2_with fail
  obtain ⟨W0, hW0⟩ : ∃ W0, W0 = w.alloc (.cells #[.int .i64 t.z.off, .int .i64 t.z.f.m, .int .i64 t.z.f.w, .int .i64 t.z.f.d, .int .i64 t.z.f.h, .int .i64 t.z.t.m, .int .i64 t.z.t.w, .int .i64 t.z.t.d, .int .i64 t.z.t.h, .int .i64 t.days, .int .i64 t.gap, .int .i64 t.first, .int .i64 t.last, .string t.h0, .string t.h1, .string t.h2, .string t.h3, .int .i64 t.b0.x, .int .i64 t.b0.y, .int .i64 t.b0.z, .int .i64 t.b1.x, .int .i64 t.b1.y, .int .i64 t.b1.z, .int .i64 t.b2.x, .int .i64 t.b2.y, .int .i64 t.b2.z, .int .i64 t.d.x, .int .i64 t.d.y, .int .i64 t.d.z, .int .i64 t.np, .int .i64 t.nn, .int .i64 t.fix, .int .i64 t.min, .int .i64 t.tax] 61) := ⟨_, rfl⟩
  have HW0 := hideF hW0
  have B0 : Below w.heap.size w W0 := by rw [hW0]; exact below_more (Below.refl _ _) _
  have R0 : W0.heap[w.heap.size]? = some (.cells #[.int .i64 t.z.off, .int .i64 t.z.f.m, .int .i64 t.z.f.w, .int .i64 t.z.f.d, .int .i64 t.z.f.h, .int .i64 t.z.t.m, .int .i64 t.z.t.w, .int .i64 t.z.t.d, .int .i64 t.z.t.h, .int .i64 t.days, .int .i64 t.gap, .int .i64 t.first, .int .i64 t.last, .string t.h0, .string t.h1, .string t.h2, .string t.h3, .int .i64 t.b0.x, .int .i64 t.b0.y, .int .i64 t.b0.z, .int .i64 t.b1.x, .int .i64 t.b1.y, .int .i64 t.b1.z, .int .i64 t.b2.x, .int .i64 t.b2.y, .int .i64 t.b2.z, .int .i64 t.d.x, .int .i64 t.d.y, .int .i64 t.d.z, .int .i64 t.np, .int .i64 t.nn, .int .i64 t.fix, .int .i64 t.min, .int .i64 t.tax] 61) := by rw [hW0]; exact heap_alloc_new _ _
  have z0 : W0.heap.size = w.heap.size + 1 := by rw [hW0]; simp
  have T1 : W0.cell? ⟨w.heap.size, 27, none⟩ = some (.int .i64 t.d.y) := cell_of_row _ _ _ _ _ _ R0
  have T2 : W0.cell? ⟨w.heap.size, 28, none⟩ = some (.int .i64 t.d.z) := cell_of_row _ _ _ _ _ _ R0
  clear hW0 R0
  go_loopw [7, 8] (fun x p wr => ∃ j : Nat, p = .int .i64 j ∧ j ≤ i ∧ x = .int .i64 (docP ps i t.d.z j) ∧ wr = W0) (fun _ p _ => i - (intOf p).toNat)
  case atStart => exact ⟨0, rfl, by omega, rfl, by rw [HW0.out]⟩
  case round =>
    obtain ⟨j, rfl, hj, rfl, hwr⟩ := hrel
    subst hwr
    have db := DB.out j
    by_cases hlt : j < i
    · have hlt' : (j : Int) < (i : Int) := by omega
      have hj0 : (0 : Int) ≤ (j : Int) := by omega
      have hj1 : (j : Int) < (ps.length : Int) := by omega
      obtain ⟨b, rfl, hcap, hblt, c0, c1, c2, c3, c4'⟩ := (HV.out.below B0).at (pAt_get (show j < ps.length by omega))
      have hcap' : (ps.length : Int) ≤ (cap : Int) := by omega
      have HS : Hid (docP ps i t.d.z (j + 1) = if (i : Int) - j ≤ t.d.z then mx (docP ps i t.d.z j) (Bil.pAt ps j).pk else docP ps i t.d.z j) := rfl
      obtain ⟨M, hM⟩ : ∃ M, M = docP ps i t.d.z j := ⟨_, rfl⟩
      rw [← hM] at HS db
      rw [← hM]
      obtain ⟨PJ, hPJ⟩ : ∃ PJ, PJ = (Bil.pAt ps j).pk := ⟨_, rfl⟩
      rw [← hPJ] at HS c4'
      have c4 := c4'
      clear hM hPJ c0 c1 c2 c3 c4'
      by_cases hw : (i : Int) - j ≤ t.d.z
      · by_cases hg : M < PJ
        all_goals
          go_wp2_with fail
          go_roundw
          case rel => exact ⟨j + 1, by go_num, by omega, by rw [HS.out, if_pos hw]; unfold mx; congr 1; split <;> omega, by first | rfl | trivial⟩
          case measure => simp [intOf]; omega
      · go_wp2_with fail
        go_roundw
        case rel => exact ⟨j + 1, by go_num, by omega, by rw [HS.out, if_neg hw], by first | rfl | trivial⟩
        case measure => simp [intOf]; omega
    · have hlt' : ¬ (j : Int) < (i : Int) := by omega
      have hje : j = i := by omega
      obtain ⟨b, rfl, hcap, hblt, c0, c1, c2, c3, c4'⟩ := (HV.out.below B0).at (pAt_get (show i < ps.length by omega))
      have hcap' : (ps.length : Int) ≤ (cap : Int) := by omega
      have hi0 : (0 : Int) ≤ (i : Int) := by omega
      have hi1 : (i : Int) < (ps.length : Int) := by omega
      have eM : docP ps i t.d.z j = docP ps i t.d.z i := by rw [hje]
      rw [eM]
      obtain ⟨M, hM⟩ : ∃ M, M = docP ps i t.d.z i := ⟨_, rfl⟩
      rw [← hM] at b1 b2
      rw [← hM]
      have HM := hideF hM
      have htd : (M * t.d.y).tdiv 100 = M * t.d.y / 100 := Int.tdiv_eq_ediv_of_nonneg b2.1
      obtain ⟨PJ, hPJ⟩ : ∃ PJ, PJ = (Bil.pAt ps i).pk := ⟨_, rfl⟩
      rw [← hPJ] at c4'
      have c4 := c4'
      clear eM hM hje c0 c1 c2 c3 c4'
      by_cases hg : M * t.d.y / 100 < PJ
      all_goals
        go_wp2_with fail
        go_ret
        exact ⟨ret_int (by rw [← hPJ, ← HM.out]; unfold mx; split <;> omega), B0⟩

set_option maxRecDepth 1000000 in
set_option maxHeartbeats 2000000 in
theorem refEnergy_any (t : Trf) (p : Per) (w : World) (ht : OkT t) (hp : okP p 200) :
    Calls Try.prog 46 #[.agg #[.int .i64 t.z.off, .int .i64 t.z.f.m, .int .i64 t.z.f.w, .int .i64 t.z.f.d, .int .i64 t.z.f.h, .int .i64 t.z.t.m, .int .i64 t.z.t.w, .int .i64 t.z.t.d, .int .i64 t.z.t.h, .int .i64 t.days, .int .i64 t.gap, .int .i64 t.first, .int .i64 t.last, .string t.h0, .string t.h1, .string t.h2, .string t.h3, .int .i64 t.b0.x, .int .i64 t.b0.y, .int .i64 t.b0.z, .int .i64 t.b1.x, .int .i64 t.b1.y, .int .i64 t.b1.z, .int .i64 t.b2.x, .int .i64 t.b2.y, .int .i64 t.b2.z, .int .i64 t.d.x, .int .i64 t.d.y, .int .i64 t.d.z, .int .i64 t.np, .int .i64 t.nn, .int .i64 t.fix, .int .i64 t.min, .int .i64 t.tax], .agg #[.int .i64 p.i0, .int .i64 p.i1, .int .i64 p.i2, .int .i64 p.o, .int .i64 p.pk]] w fun e w' => e = .returned (.int .i64 (enOf t p)) ∧ Below w.heap.size w w' := by
  have BD := hideF (fun k (hk : k ≤ 3) => prK_bd ht hp k hk)
  have CK := hideF (fun k => cls_ok ht hp k)
  have HE : Hid (enOf t p = prK t p 3) := rfl
  rw [HE.out]
  clear ht hp
  go_enter Try.func46, Try.ntmps46
  go_wp2_with fail
  obtain ⟨W0, hW0⟩ : ∃ W0, W0 = (w.alloc (.cells #[.int .i64 t.z.off, .int .i64 t.z.f.m, .int .i64 t.z.f.w, .int .i64 t.z.f.d, .int .i64 t.z.f.h, .int .i64 t.z.t.m, .int .i64 t.z.t.w, .int .i64 t.z.t.d, .int .i64 t.z.t.h, .int .i64 t.days, .int .i64 t.gap, .int .i64 t.first, .int .i64 t.last, .string t.h0, .string t.h1, .string t.h2, .string t.h3, .int .i64 t.b0.x, .int .i64 t.b0.y, .int .i64 t.b0.z, .int .i64 t.b1.x, .int .i64 t.b1.y, .int .i64 t.b1.z, .int .i64 t.b2.x, .int .i64 t.b2.y, .int .i64 t.b2.z, .int .i64 t.d.x, .int .i64 t.d.y, .int .i64 t.d.z, .int .i64 t.np, .int .i64 t.nn, .int .i64 t.fix, .int .i64 t.min, .int .i64 t.tax] 61)).alloc (.cells #[.int .i64 p.i0, .int .i64 p.i1, .int .i64 p.i2, .int .i64 p.o, .int .i64 p.pk] 93) := ⟨_, rfl⟩
  have HW0 := hideF hW0
  have B0 : Below w.heap.size w W0 := by rw [hW0]; exact below_more (below_more (Below.refl _ _) _) _
  have z0 : W0.heap.size = w.heap.size + 2 := by rw [hW0]; simp
  have R0 : W0.heap[w.heap.size]? = some (.cells #[.int .i64 t.z.off, .int .i64 t.z.f.m, .int .i64 t.z.f.w, .int .i64 t.z.f.d, .int .i64 t.z.f.h, .int .i64 t.z.t.m, .int .i64 t.z.t.w, .int .i64 t.z.t.d, .int .i64 t.z.t.h, .int .i64 t.days, .int .i64 t.gap, .int .i64 t.first, .int .i64 t.last, .string t.h0, .string t.h1, .string t.h2, .string t.h3, .int .i64 t.b0.x, .int .i64 t.b0.y, .int .i64 t.b0.z, .int .i64 t.b1.x, .int .i64 t.b1.y, .int .i64 t.b1.z, .int .i64 t.b2.x, .int .i64 t.b2.y, .int .i64 t.b2.z, .int .i64 t.d.x, .int .i64 t.d.y, .int .i64 t.d.z, .int .i64 t.np, .int .i64 t.nn, .int .i64 t.fix, .int .i64 t.min, .int .i64 t.tax] 61) := by rw [hW0]; exact (heap_alloc_old _ _ (by simp)).trans (heap_alloc_new _ _)
  have CI : Hid (∀ k, k < 3 → W0.cell? ⟨w.heap.size + 1, k, none⟩ = some (.int .i64 (clsI p k))) := fun k hk => by
    rw [hW0]; rcases (by omega : k = 0 ∨ k = 1 ∨ k = 2) with rfl | rfl | rfl <;> simp [go_sem, clsI]
  have CB : Hid (∀ k, k < 3 → W0.cell? ⟨w.heap.size, 17 + k * 3, none⟩ = some (.int .i64 (clsB2 t k).x) ∧ W0.cell? ⟨w.heap.size, 17 + k * 3 + 1, none⟩ = some (.int .i64 (clsB2 t k).y) ∧ W0.cell? ⟨w.heap.size, 17 + k * 3 + 2, none⟩ = some (.int .i64 (clsB2 t k).z)) := fun k hk => by
    rcases (by omega : k = 0 ∨ k = 1 ∨ k = 2) with rfl | rfl | rfl <;> exact ⟨cell_of_row _ _ _ _ _ _ R0, cell_of_row _ _ _ _ _ _ R0, cell_of_row _ _ _ _ _ _ R0⟩
  clear hW0 R0
  go_loopw [5, 6] (fun x i wr => ∃ k : Nat, i = .int .i64 k ∧ k ≤ 3 ∧ x = .int .i64 (prK t p k) ∧ Below W0.heap.size W0 wr) (fun _ i _ => 3 - (intOf i).toNat)
  case atStart => exact ⟨0, rfl, by omega, rfl, by rw [HW0.out]; exact Below.refl _ _⟩
  case round =>
    obtain ⟨k, rfl, hk, rfl, hb⟩ := hrel
    have S0 := BD.out k hk
    by_cases hlt : k < 3
    · have hlt' : (k : Int) < 3 := by omega
      have hk0 : (0 : Int) ≤ (k : Int) := by omega
      have c0 := vcell_below hb (show w.heap.size + 1 < W0.heap.size by omega) (CI.out k hlt)
      obtain ⟨d0', d1', d2'⟩ := CB.out k hlt
      have d0 := vcell_below hb (show w.heap.size < W0.heap.size by omega) d0'
      have d1 := vcell_below hb (show w.heap.size < W0.heap.size by omega) d1'
      have d2 := vcell_below hb (show w.heap.size < W0.heap.size by omega) d2'
      clear d0' d1' d2'
      have HS : Hid (prK t p (k + 1) = prK t p k + rnd (mn (clsI p k) (clsB2 t k).x * (clsB2 t k).y) + rnd ((clsI p k - mn (clsI p k) (clsB2 t k).x) * (clsB2 t k).z)) := prK_succ t p hlt
      obtain ⟨ki, km, kl, kh, klp, khp⟩ := CK.out k
      unfold lowP at klp
      unfold hiP at khp
      obtain ⟨X, hX⟩ : ∃ X, X = clsI p k := ⟨_, rfl⟩
      obtain ⟨Q, hQ⟩ : ∃ Q, Q = clsB2 t k := ⟨_, rfl⟩
      rw [← hX] at c0 HS ki km kl kh klp khp
      rw [← hQ] at d0 d1 d2 HS km kl kh klp khp
      obtain ⟨qx, qy, qz⟩ := Q
      simp only at d0 d1 d2 HS km kl kh klp khp
      obtain ⟨Y, hY⟩ : ∃ Y, Y = prK t p k := ⟨_, rfl⟩
      rw [← hY] at S0 HS
      rw [← hY]
      clear hX hQ hY
      by_cases hg : qx < X
      · have em : mn X qx = qx := by unfold mn; split <;> omega
        rw [em] at HS km kl kh klp khp
        have u1 := kl.1
        have u2 : qx * qy ≤ 9000000000000000000 := by omega
        have u3 := kh.1
        have u4 : (X - qx) * qz ≤ 9000000000000000000 := by omega
        have kw1 : IntKind.i64.wrap (X - qx) = X - qx := Go.IntWalk.i64_in _ (by omega)
        have kw2 : IntKind.i64.wrap ((X - qx) * qz) = (X - qx) * qz := Go.IntWalk.i64_in _ (by omega)
        have kw4 : IntKind.i64.wrap (qx * qy) = qx * qy := Go.IntWalk.i64_in _ (by omega)
        have kw5 : IntKind.i64.wrap (Y + rnd (qx * qy)) = Y + rnd (qx * qy) := Go.IntWalk.i64_in _ (by omega)
        have kw3 : IntKind.i64.wrap (Y + rnd (qx * qy) + rnd ((X - qx) * qz)) = Y + rnd (qx * qy) + rnd ((X - qx) * qz) := Go.IntWalk.i64_in _ (by omega)
        clear em
        go_wp2_with fail
        go_quiet ((go_at_call 47; exact Calls.quiet_of_same (mills_any _ _ (by assumption) (by assumption))))
        go_wp2_with fail
        go_roundw
        case rel => exact ⟨k + 1, by go_num, by omega, by rw [HS.out], by first | exact hb | exact below_drewN hb _⟩
        case measure => simp [intOf]; omega
      · have em : mn X qx = X := by unfold mn; split <;> omega
        rw [em] at HS km kl kh klp khp
        have ez : X - X = 0 := by omega
        have u1 := kl.1
        have u2 : X * qy ≤ 9000000000000000000 := by omega
        have u3 : (0 : Int) ≤ 0 := by omega
        have u4 : (0 : Int) ≤ 9000000000000000000 := by omega
        have er : rnd ((X - X) * qz) = 0 := by rw [ez, Int.zero_mul]; rfl
        have er0 : rnd 0 = 0 := rfl
        rw [er] at HS
        have kw0 : IntKind.i64.wrap 0 = 0 := rfl
        have kw4 : IntKind.i64.wrap (X * qy) = X * qy := Go.IntWalk.i64_in _ (by omega)
        have kw5 : IntKind.i64.wrap (Y + rnd (X * qy)) = Y + rnd (X * qy) := Go.IntWalk.i64_in _ (by omega)
        clear em ez er
        go_wp2_with fail
        go_quiet ((go_at_call 47; exact Calls.quiet_of_same (mills_any _ _ (by assumption) (by assumption))))
        go_wp2_with fail
        go_roundw
        case rel => exact ⟨k + 1, by go_num, by omega, by rw [HS.out]; simp, by first | exact hb | exact below_drewN hb _⟩
        case measure => simp [intOf]; omega
    · have hlt' : ¬ (k : Int) < 3 := by omega
      have hke : k = 3 := by omega
      have HK := hideF hke
      clear hke
      go_wp2_with fail
      go_ret
      exact ⟨ret_int (by rw [HK.out]), below_then B0 hb⟩

end Go.Proofs.Ytjaffmmocbplaab

namespace Go.Proofs.Ytjaffmmocbplaab
open Go.RowKit Bil
set_option linter.unusedVariables false
attribute [local go_sem ↓] Go.wp_at_zero Go.wp_at_succ

theorem infoRL : (Try.prog.info? 108).map (fun i => (i.zero, i.size, i.bytes)) = some (some (.agg #[.int .i64 0, .int .i64 0, .int .i64 0, .int .i64 0, .int .i64 0, .int .i64 0, .int .i64 0, .int .i64 0, .int .i64 0, .int .i64 0, .int .i64 0, .int .i64 0, .int .i64 0, .int .i64 0, .int .i64 0]), 15, 120) := by kernel_rfl
theorem RL_cell (w : World) (x : Ln) : ∀ j u, (lcell x)[j]? = some u → (w.alloc (.cells #[.int .i64 x.i0, .int .i64 x.i1, .int .i64 x.i2, .int .i64 x.o, .int .i64 x.pk, .int .i64 x.bl, .int .i64 x.en, .int .i64 x.pw, .int .i64 x.ap, .int .i64 x.ex, .int .i64 x.pd, .int .i64 x.bk, .int .i64 x.su, .int .i64 x.tx, .int .i64 x.to] 108)).cell? ((⟨w.heap.size, 0, none⟩ : Addr).add j) = some u := by
  intro j u hj
  have hadd : (⟨w.heap.size, 0, none⟩ : Addr).add j = ⟨w.heap.size, j, none⟩ := by unfold Addr.add; split <;> simp_all
  rw [hadd, cell_of_row _ _ _ _ _ _ (heap_alloc_new _ _), ← hj]
  simp [lcell]

set_option maxRecDepth 100000 in
set_option maxHeartbeats 1000000 in
theorem line1_any (x : Ln) (w : World) :
    Calls Try.prog 49 #[.agg #[.int .i64 x.i0, .int .i64 x.i1, .int .i64 x.i2, .int .i64 x.o, .int .i64 x.pk, .int .i64 x.bl, .int .i64 x.en, .int .i64 x.pw, .int .i64 x.ap, .int .i64 x.ex, .int .i64 x.pd, .int .i64 x.bk, .int .i64 x.su, .int .i64 x.tx, .int .i64 x.to]] w fun e w' => e = .returned (.agg #[.int .i64 x.i0, .int .i64 x.i1, .int .i64 x.i2, .int .i64 x.o, .int .i64 x.pk, .int .i64 x.bl, .int .i64 x.en, .int .i64 x.pw, .int .i64 x.ap, .int .i64 x.ex, .int .i64 x.pd, .int .i64 x.bk, .int .i64 x.su, .int .i64 x.tx, .int .i64 x.to]) ∧ Below w.heap.size w w' := by
  go_enter Try.func49, Try.ntmps49
  go_wp2_with fail
  refine bodyPost_ret (v := .agg #[.int .i64 x.i0, .int .i64 x.i1, .int .i64 x.i2, .int .i64 x.o, .int .i64 x.pk, .int .i64 x.bl, .int .i64 x.en, .int .i64 x.pw, .int .i64 x.ap, .int .i64 x.ex, .int .i64 x.pd, .int .i64 x.bk, .int .i64 x.su, .int .i64 x.tx, .int .i64 x.to]) (by simp [results, Try.results49, go_sem]) rfl ⟨rfl, ?_⟩
  exact below_more (below_more (Below.refl _ _) _) _

set_option maxRecDepth 100000 in
set_option maxHeartbeats 2000000 in
theorem lines_any (v : Value) (l : List Ln) (w : World) (h : LRow w v l) (hl : l.length ≤ 100000) :
    Calls Try.prog 22 #[v] w fun e w' => ∃ v', e = .returned v' ∧ w'.ownsRow w.heap.size 108 15 v' l.length (lcs l) ∧ Below w.heap.size w w' := by
  obtain ⟨i0, hi, hz0, hz1, hz2⟩ := info_parts infoRL
  obtain ⟨a, cap, rfl⟩ := h.form
  have HV := hideF h
  clear h
  go_enter Try.func22, Try.ntmps22
  go_wp2_with fail
  go_loopw [3, 4] (fun f p wr => ∃ k : Nat, p = .int .i64 k ∧ k ≤ l.length ∧ wr.ownsRow w.heap.size 108 15 f k (lcs (l.take k)) ∧ Below w.heap.size w wr) (fun _ p _ => l.length - (intOf p).toNat)
  case atStart => exact ⟨0, rfl, by omega, World.ownsRow_nil _ _ _ _, Below.refl _ _⟩
  case round =>
    obtain ⟨k, rfl, hk, hown, hb⟩ := hrel
    obtain ⟨a0, cap0, rfl⟩ := own_slice hown
    have hsz := hb.size
    by_cases hlt : k < l.length
    · have hlt' : (k : Int) < (l.length : Int) := by omega
      have hk0 : (0 : Int) ≤ (k : Int) := by omega
      obtain ⟨x, hx⟩ : ∃ x, l[k]? = some x := ⟨l[k], List.getElem?_eq_getElem hlt⟩
      obtain ⟨b, rfl, hcap, hblt, cc⟩ := (HV.out.below hb).at hx
      have hcap' : (l.length : Int) ≤ (cap : Int) := by omega
      have HT : Hid (l.take (k + 1) = l.take k ++ [x]) := take_snoc hx
      have c0 : wr.cell? ⟨b, k * 15, none⟩ = some (.int .i64 x.i0) := cc 0 _ rfl
      have c1 : wr.cell? ⟨b, k * 15 + 1, none⟩ = some (.int .i64 x.i1) := cc 1 _ rfl
      have c2 : wr.cell? ⟨b, k * 15 + 2, none⟩ = some (.int .i64 x.i2) := cc 2 _ rfl
      have c3 : wr.cell? ⟨b, k * 15 + 3, none⟩ = some (.int .i64 x.o) := cc 3 _ rfl
      have c4 : wr.cell? ⟨b, k * 15 + 4, none⟩ = some (.int .i64 x.pk) := cc 4 _ rfl
      have c5 : wr.cell? ⟨b, k * 15 + 5, none⟩ = some (.int .i64 x.bl) := cc 5 _ rfl
      have c6 : wr.cell? ⟨b, k * 15 + 6, none⟩ = some (.int .i64 x.en) := cc 6 _ rfl
      have c7 : wr.cell? ⟨b, k * 15 + 7, none⟩ = some (.int .i64 x.pw) := cc 7 _ rfl
      have c8 : wr.cell? ⟨b, k * 15 + 8, none⟩ = some (.int .i64 x.ap) := cc 8 _ rfl
      have c9 : wr.cell? ⟨b, k * 15 + 9, none⟩ = some (.int .i64 x.ex) := cc 9 _ rfl
      have c10 : wr.cell? ⟨b, k * 15 + 10, none⟩ = some (.int .i64 x.pd) := cc 10 _ rfl
      have c11 : wr.cell? ⟨b, k * 15 + 11, none⟩ = some (.int .i64 x.bk) := cc 11 _ rfl
      have c12 : wr.cell? ⟨b, k * 15 + 12, none⟩ = some (.int .i64 x.su) := cc 12 _ rfl
      have c13 : wr.cell? ⟨b, k * 15 + 13, none⟩ = some (.int .i64 x.tx) := cc 13 _ rfl
      have c14 : wr.cell? ⟨b, k * 15 + 14, none⟩ = some (.int .i64 x.to) := cc 14 _ rfl
      have hoN : ∀ j, (Value.ownBlock (.slice a0 k cap0)) = some j → w.heap.size ≤ j := fun j hj => (hown.lt j hj).1
      clear cc hx
      go_wp2_with (first
        | (go_at_call 49; refine (line1_any x _).mono ?_; rintro e w2 ⟨rfl, hb2⟩; have own2 := own_below hown hb2; have B2 := below_then hb hb2; have hs2 := hb2.size)
        | (at_builtin; have _ := B2; refine wpList_append_own _ rfl _ _ 76 rfl w.heap.size 108 i0 (.agg #[.int .i64 0, .int .i64 0, .int .i64 0, .int .i64 0, .int .i64 0, .int .i64 0, .int .i64 0, .int .i64 0, .int .i64 0, .int .i64 0, .int .i64 0, .int .i64 0, .int .i64 0, .int .i64 0, .int .i64 0]) 15 120 Try.underlying76 hi hz0 hz1 hz2 rfl (by decide) _ _ _ rfl (own2.alloc _) ⟨w2.heap.size, 0, none⟩ 1 1 (lcell x) rfl rfl (RL_cell _ x) (fun y hy => by simp [lcell] at hy; rcases hy with rfl | rfl | rfl | rfl | rfl | rfl | rfl | rfl | rfl | rfl | rfl | rfl | rfl | rfl | rfl <;> rfl) (by unfold maxLen; omega) (by omega) (by simp; omega) ?_; intro v' w6 own6 g6 nil6; obtain ⟨a6, cap6, rfl⟩ := own_slice own6))
      go_roundw
      case rel => exact ⟨k + 1, by go_num, by omega, by rw [HT.out, lcs_snoc]; exact own6, Below.grown (below_more B2 _) g6 (by simp; omega) (fun j hj => hoN j hj)⟩
      case measure => simp [intOf]; omega
    · have hlt' : ¬ (k : Int) < (l.length : Int) := by omega
      have HKE : Hid (k = l.length) := (by omega : k = l.length)
      have HK : Hid (l.take k = l) := List.take_of_length_le (by omega)
      go_wp2_with fail
      refine bodyPost_ret (v := .slice a0 k cap0) (by simp [results, Try.results22, go_sem]) rfl ⟨_, rfl, ?_, hb⟩
      rw [HK.out] at hown
      rw [← HKE.out]; exact hown

end Go.Proofs.Ytjaffmmocbplaab

namespace Go.Proofs.Ytjaffmmocbplaab
open Go.RowKit Bil
set_option linter.unusedVariables false
attribute [local go_sem ↓] Go.wp_at_zero Go.wp_at_succ

set_option maxRecDepth 100000 in
set_option maxHeartbeats 1000000 in
theorem Numbers_any (x : Ln) (w : World) :
    Calls Try.prog 48 #[.agg #[.int .i64 x.i0, .int .i64 x.i1, .int .i64 x.i2, .int .i64 x.o, .int .i64 x.pk, .int .i64 x.bl, .int .i64 x.en, .int .i64 x.pw, .int .i64 x.ap, .int .i64 x.ex, .int .i64 x.pd, .int .i64 x.bk, .int .i64 x.su, .int .i64 x.tx, .int .i64 x.to]] w fun e w' => ∃ g, e = .returned (.slice (some ⟨g, 0, none⟩) 15 15) ∧ w.heap.size ≤ g ∧ w'.heap[g]? = some (.cells #[.int .i64 x.i0, .int .i64 x.i1, .int .i64 x.i2, .int .i64 x.o, .int .i64 x.pk, .int .i64 x.bl, .int .i64 x.en, .int .i64 x.pw, .int .i64 x.ap, .int .i64 x.ex, .int .i64 x.pd, .int .i64 x.bk, .int .i64 x.su, .int .i64 x.tx, .int .i64 x.to] 3 (0, 0)) ∧ Below w.heap.size w w' := by
  go_enter Try.func48, Try.ntmps48
  go_wp2_with fail
  refine bodyPost_ret (v := .slice (some ⟨w.heap.size + 1, 0, none⟩) 15 15) (by simp [results, Try.results48, go_sem]) rfl ⟨_, rfl, by omega, heap_alloc2_new _ _ _, below_more (below_more (Below.refl _ _) _) _⟩

def lnN (x : Ln) (j : Nat) : Int := [x.i0, x.i1, x.i2, x.o, x.pk, x.bl, x.en, x.pw, x.ap, x.ex, x.pd, x.bk, x.su, x.tx, x.to].getD j 0
theorem lnN_at (x : Ln) (j : Nat) (hj : j < 15) : (#[.int .i64 x.i0, .int .i64 x.i1, .int .i64 x.i2, .int .i64 x.o, .int .i64 x.pk, .int .i64 x.bl, .int .i64 x.en, .int .i64 x.pw, .int .i64 x.ap, .int .i64 x.ex, .int .i64 x.pd, .int .i64 x.bk, .int .i64 x.su, .int .i64 x.tx, .int .i64 x.to] : Array Value)[j]? = some (.int .i64 (lnN x j)) := by
  match j, hj with
  | 0, _ => rfl
  | 1, _ => rfl
  | 2, _ => rfl
  | 3, _ => rfl
  | 4, _ => rfl
  | 5, _ => rfl
  | 6, _ => rfl
  | 7, _ => rfl
  | 8, _ => rfl
  | 9, _ => rfl
  | 10, _ => rfl
  | 11, _ => rfl
  | 12, _ => rfl
  | 13, _ => rfl
  | 14, _ => rfl

set_option maxRecDepth 100000 in
set_option maxHeartbeats 2000000 in
theorem sameLines_any (v v' : Value) (l : List Ln) (w : World) (h : LRow w v l) (h' : LRow w v' l) (hl : l.length ≤ 100000) :
    Calls Try.prog 21 #[v, v'] w fun e w' => e = .returned (.bool true) ∧ Below w.heap.size w w' := by
  obtain ⟨a, cap, rfl⟩ := h.form
  obtain ⟨a', cap', rfl⟩ := h'.form
  have HA := hideF h
  have HB := hideF h'
  clear h h'
  go_enter Try.func21, Try.ntmps21
  go_wp2_with fail
  go_loopw [5] (fun p wr => ∃ k : Nat, p = .int .i64 k ∧ k ≤ l.length ∧ Below w.heap.size w wr) (fun p _ => l.length - (intOf p).toNat)
  case atStart => exact ⟨0, rfl, by omega, Below.refl _ _⟩
  case round =>
    obtain ⟨k, rfl, hk, hb⟩ := hrel
    have hsz := hb.size
    by_cases hlt : k < l.length
    · have hlt' : (k : Int) < (l.length : Int) := by omega
      have hk0 : (0 : Int) ≤ (k : Int) := by omega
      obtain ⟨x, hx⟩ : ∃ x, l[k]? = some x := ⟨l[k], List.getElem?_eq_getElem hlt⟩
      obtain ⟨b, rfl, hcap, hblt, cc⟩ := (HA.out.below hb).at hx
      obtain ⟨b', rfl, hcap2, hblt', dc⟩ := (HB.out.below hb).at hx
      have hcap' : (l.length : Int) ≤ (cap : Int) := by omega
      have hcap2' : (l.length : Int) ≤ (cap' : Int) := by omega
      have c0 : wr.cell? ⟨b, k * 15, none⟩ = some (.int .i64 x.i0) := cc 0 _ rfl
      have c1 : wr.cell? ⟨b, k * 15 + 1, none⟩ = some (.int .i64 x.i1) := cc 1 _ rfl
      have c2 : wr.cell? ⟨b, k * 15 + 2, none⟩ = some (.int .i64 x.i2) := cc 2 _ rfl
      have c3 : wr.cell? ⟨b, k * 15 + 3, none⟩ = some (.int .i64 x.o) := cc 3 _ rfl
      have c4 : wr.cell? ⟨b, k * 15 + 4, none⟩ = some (.int .i64 x.pk) := cc 4 _ rfl
      have c5 : wr.cell? ⟨b, k * 15 + 5, none⟩ = some (.int .i64 x.bl) := cc 5 _ rfl
      have c6 : wr.cell? ⟨b, k * 15 + 6, none⟩ = some (.int .i64 x.en) := cc 6 _ rfl
      have c7 : wr.cell? ⟨b, k * 15 + 7, none⟩ = some (.int .i64 x.pw) := cc 7 _ rfl
      have c8 : wr.cell? ⟨b, k * 15 + 8, none⟩ = some (.int .i64 x.ap) := cc 8 _ rfl
      have c9 : wr.cell? ⟨b, k * 15 + 9, none⟩ = some (.int .i64 x.ex) := cc 9 _ rfl
      have c10 : wr.cell? ⟨b, k * 15 + 10, none⟩ = some (.int .i64 x.pd) := cc 10 _ rfl
      have c11 : wr.cell? ⟨b, k * 15 + 11, none⟩ = some (.int .i64 x.bk) := cc 11 _ rfl
      have c12 : wr.cell? ⟨b, k * 15 + 12, none⟩ = some (.int .i64 x.su) := cc 12 _ rfl
      have c13 : wr.cell? ⟨b, k * 15 + 13, none⟩ = some (.int .i64 x.tx) := cc 13 _ rfl
      have c14 : wr.cell? ⟨b, k * 15 + 14, none⟩ = some (.int .i64 x.to) := cc 14 _ rfl
      have hdc := hideF dc
      clear cc dc hx
      go_wp2_with (first
        | (go_at_call 48; have _ := hb2; refine (Numbers_any x _).mono ?_; rintro e w3 ⟨g2, rfl, hg2, R2, hb3⟩)
        | (go_at_call 48; refine (Numbers_any x _).mono ?_; rintro e w2 ⟨g1, rfl, hg1, R1, hb2⟩; have e0 : w2.cell? ⟨b', k * 15, none⟩ = some (.int .i64 x.i0) := vcell_below hb2 hblt' (hdc.out 0 _ rfl); have e1 : w2.cell? ⟨b', k * 15 + 1, none⟩ = some (.int .i64 x.i1) := vcell_below hb2 hblt' (hdc.out 1 _ rfl); have e2 : w2.cell? ⟨b', k * 15 + 2, none⟩ = some (.int .i64 x.i2) := vcell_below hb2 hblt' (hdc.out 2 _ rfl); have e3 : w2.cell? ⟨b', k * 15 + 3, none⟩ = some (.int .i64 x.o) := vcell_below hb2 hblt' (hdc.out 3 _ rfl); have e4 : w2.cell? ⟨b', k * 15 + 4, none⟩ = some (.int .i64 x.pk) := vcell_below hb2 hblt' (hdc.out 4 _ rfl); have e5 : w2.cell? ⟨b', k * 15 + 5, none⟩ = some (.int .i64 x.bl) := vcell_below hb2 hblt' (hdc.out 5 _ rfl); have e6 : w2.cell? ⟨b', k * 15 + 6, none⟩ = some (.int .i64 x.en) := vcell_below hb2 hblt' (hdc.out 6 _ rfl); have e7 : w2.cell? ⟨b', k * 15 + 7, none⟩ = some (.int .i64 x.pw) := vcell_below hb2 hblt' (hdc.out 7 _ rfl); have e8 : w2.cell? ⟨b', k * 15 + 8, none⟩ = some (.int .i64 x.ap) := vcell_below hb2 hblt' (hdc.out 8 _ rfl); have e9 : w2.cell? ⟨b', k * 15 + 9, none⟩ = some (.int .i64 x.ex) := vcell_below hb2 hblt' (hdc.out 9 _ rfl); have e10 : w2.cell? ⟨b', k * 15 + 10, none⟩ = some (.int .i64 x.pd) := vcell_below hb2 hblt' (hdc.out 10 _ rfl); have e11 : w2.cell? ⟨b', k * 15 + 11, none⟩ = some (.int .i64 x.bk) := vcell_below hb2 hblt' (hdc.out 11 _ rfl); have e12 : w2.cell? ⟨b', k * 15 + 12, none⟩ = some (.int .i64 x.su) := vcell_below hb2 hblt' (hdc.out 12 _ rfl); have e13 : w2.cell? ⟨b', k * 15 + 13, none⟩ = some (.int .i64 x.tx) := vcell_below hb2 hblt' (hdc.out 13 _ rfl); have e14 : w2.cell? ⟨b', k * 15 + 14, none⟩ = some (.int .i64 x.to) := vcell_below hb2 hblt' (hdc.out 14 _ rfl)))
      have hg1l : g1 < w2.heap.size := (Array.getElem?_eq_some_iff.1 R1).1
      have hg2l : g2 < w3.heap.size := (Array.getElem?_eq_some_iff.1 R2).1
      have R1' : w3.heap[g1]? = some (.cells #[.int .i64 x.i0, .int .i64 x.i1, .int .i64 x.i2, .int .i64 x.o, .int .i64 x.pk, .int .i64 x.bl, .int .i64 x.en, .int .i64 x.pw, .int .i64 x.ap, .int .i64 x.ex, .int .i64 x.pd, .int .i64 x.bk, .int .i64 x.su, .int .i64 x.tx, .int .i64 x.to] 3 (0, 0)) := (hb3.block g1 hg1l).trans R1
      have H1 := hideF R1'
      have H2 := hideF R2
      have B3 := below_then hb (below_then hb2 hb3)
      have hs3 := hb3.size
      clear R1 R2 R1' hb2 hb3 c0 e0 c1 e1 c2 e2 c3 e3 c4 e4 c5 e5 c6 e6 c7 e7 c8 e8 c9 e9 c10 e10 c11 e11 c12 e12 c13 e13 c14 e14
      go_loopw [8] (fun p wi => ∃ j : Nat, p = .int .i64 j ∧ j ≤ 15 ∧ Below w3.heap.size w3 wi) (fun p _ => 15 - (intOf p).toNat)
      case atStart => exact ⟨0, rfl, by omega, Below.refl _ _⟩
      case round =>
        obtain ⟨j, rfl, hj, hbi⟩ := hrel
        by_cases hjl : j < 15
        · have hjl' : (j : Int) < 15 := by omega
          have hj0 : (0 : Int) ≤ (j : Int) := by omega
          have p1 : wr.cell? ⟨g1, j, none⟩ = some (.int .i64 (lnN x j)) := vcell_below hbi (by omega) ((cell_of_row _ _ _ _ _ _ H1.out).trans (lnN_at x j hjl))
          have p2 : wr.cell? ⟨g2, j, none⟩ = some (.int .i64 (lnN x j)) := vcell_below hbi hg2l ((cell_of_row _ _ _ _ _ _ H2.out).trans (lnN_at x j hjl))
          go_wp2_with fail
          go_quiet (fail)
          go_wp2_with fail
          go_roundw
          case rel => exact ⟨j + 1, by go_num, by omega, by first | exact below_drewN hbi _ | exact Below.drew hbi⟩
          case measure => simp [intOf]; omega
        · have hjl' : ¬ (j : Int) < 15 := by omega
          go_wp2_with fail
          go_roundw
          case rel => exact ⟨k + 1, by go_num, by omega, below_then B3 hbi⟩
          case measure => simp [intOf]; omega
    · have hlt' : ¬ (k : Int) < (l.length : Int) := by omega
      go_wp2_with fail
      go_ret
      exact ⟨rfl, hb⟩

end Go.Proofs.Ytjaffmmocbplaab

namespace Go.Proofs.Ytjaffmmocbplaab
open Go.RowKit Bil
set_option linter.unusedVariables false

/-- the line under way, in block b -/
def RR (w : World) (b : Nat) (x : Ln) : Prop := w.heap[b]? = some (.cells #[.int .i64 x.i0, .int .i64 x.i1, .int .i64 x.i2, .int .i64 x.o, .int .i64 x.pk, .int .i64 x.bl, .int .i64 x.en, .int .i64 x.pw, .int .i64 x.ap, .int .i64 x.ex, .int .i64 x.pd, .int .i64 x.bk, .int .i64 x.su, .int .i64 x.tx, .int .i64 x.to] 108 (0, 0))
theorem RR.put {w : World} {b : Nat} {x : Ln} (h : RR w b x) (j : Nat) (u : Value) : (w.setCell ⟨b, j, none⟩ u).heap[b]? = some (.cells ((#[.int .i64 x.i0, .int .i64 x.i1, .int .i64 x.i2, .int .i64 x.o, .int .i64 x.pk, .int .i64 x.bl, .int .i64 x.en, .int .i64 x.pw, .int .i64 x.ap, .int .i64 x.ex, .int .i64 x.pd, .int .i64 x.bk, .int .i64 x.su, .int .i64 x.tx, .int .i64 x.to] : Array Value).setIfInBounds j u) 108 (0, 0)) := heap_setCell_same w b j _ _ u h
theorem RR.lt {w : World} {b : Nat} {x : Ln} (h : RR w b x) : b < w.heap.size := (Array.getElem?_eq_some_iff.1 h).1
theorem RR.frz {w : World} {b : Nat} {x : Ln} (h : RR w b x) (j : Nat) : w.frozen? ⟨b, j, none⟩ = false := frozen_of_row _ _ _ _ _ h
theorem RR.c0 {w : World} {b : Nat} {x : Ln} (h : RR w b x) : w.cell? ⟨b, 0, none⟩ = some (.int .i64 x.i0) := cell_of_row _ _ _ _ _ _ h
theorem RR.c1 {w : World} {b : Nat} {x : Ln} (h : RR w b x) : w.cell? ⟨b, 1, none⟩ = some (.int .i64 x.i1) := cell_of_row _ _ _ _ _ _ h
theorem RR.c2 {w : World} {b : Nat} {x : Ln} (h : RR w b x) : w.cell? ⟨b, 2, none⟩ = some (.int .i64 x.i2) := cell_of_row _ _ _ _ _ _ h
theorem RR.c3 {w : World} {b : Nat} {x : Ln} (h : RR w b x) : w.cell? ⟨b, 3, none⟩ = some (.int .i64 x.o) := cell_of_row _ _ _ _ _ _ h
theorem RR.c4 {w : World} {b : Nat} {x : Ln} (h : RR w b x) : w.cell? ⟨b, 4, none⟩ = some (.int .i64 x.pk) := cell_of_row _ _ _ _ _ _ h
theorem RR.c5 {w : World} {b : Nat} {x : Ln} (h : RR w b x) : w.cell? ⟨b, 5, none⟩ = some (.int .i64 x.bl) := cell_of_row _ _ _ _ _ _ h
theorem RR.bl {w : World} {b : Nat} {x : Ln} (h : RR w b x) (v : Int) : RR (w.setCell ⟨b, 5, none⟩ (.int .i64 v)) b { x with bl := v } := h.put 5 _
theorem RR.c6 {w : World} {b : Nat} {x : Ln} (h : RR w b x) : w.cell? ⟨b, 6, none⟩ = some (.int .i64 x.en) := cell_of_row _ _ _ _ _ _ h
theorem RR.en {w : World} {b : Nat} {x : Ln} (h : RR w b x) (v : Int) : RR (w.setCell ⟨b, 6, none⟩ (.int .i64 v)) b { x with en := v } := h.put 6 _
theorem RR.c7 {w : World} {b : Nat} {x : Ln} (h : RR w b x) : w.cell? ⟨b, 7, none⟩ = some (.int .i64 x.pw) := cell_of_row _ _ _ _ _ _ h
theorem RR.pw {w : World} {b : Nat} {x : Ln} (h : RR w b x) (v : Int) : RR (w.setCell ⟨b, 7, none⟩ (.int .i64 v)) b { x with pw := v } := h.put 7 _
theorem RR.c8 {w : World} {b : Nat} {x : Ln} (h : RR w b x) : w.cell? ⟨b, 8, none⟩ = some (.int .i64 x.ap) := cell_of_row _ _ _ _ _ _ h
theorem RR.ap {w : World} {b : Nat} {x : Ln} (h : RR w b x) (v : Int) : RR (w.setCell ⟨b, 8, none⟩ (.int .i64 v)) b { x with ap := v } := h.put 8 _
theorem RR.c9 {w : World} {b : Nat} {x : Ln} (h : RR w b x) : w.cell? ⟨b, 9, none⟩ = some (.int .i64 x.ex) := cell_of_row _ _ _ _ _ _ h
theorem RR.ex {w : World} {b : Nat} {x : Ln} (h : RR w b x) (v : Int) : RR (w.setCell ⟨b, 9, none⟩ (.int .i64 v)) b { x with ex := v } := h.put 9 _
theorem RR.c10 {w : World} {b : Nat} {x : Ln} (h : RR w b x) : w.cell? ⟨b, 10, none⟩ = some (.int .i64 x.pd) := cell_of_row _ _ _ _ _ _ h
theorem RR.pd {w : World} {b : Nat} {x : Ln} (h : RR w b x) (v : Int) : RR (w.setCell ⟨b, 10, none⟩ (.int .i64 v)) b { x with pd := v } := h.put 10 _
theorem RR.c11 {w : World} {b : Nat} {x : Ln} (h : RR w b x) : w.cell? ⟨b, 11, none⟩ = some (.int .i64 x.bk) := cell_of_row _ _ _ _ _ _ h
theorem RR.bk {w : World} {b : Nat} {x : Ln} (h : RR w b x) (v : Int) : RR (w.setCell ⟨b, 11, none⟩ (.int .i64 v)) b { x with bk := v } := h.put 11 _
theorem RR.c12 {w : World} {b : Nat} {x : Ln} (h : RR w b x) : w.cell? ⟨b, 12, none⟩ = some (.int .i64 x.su) := cell_of_row _ _ _ _ _ _ h
theorem RR.su {w : World} {b : Nat} {x : Ln} (h : RR w b x) (v : Int) : RR (w.setCell ⟨b, 12, none⟩ (.int .i64 v)) b { x with su := v } := h.put 12 _
theorem RR.c13 {w : World} {b : Nat} {x : Ln} (h : RR w b x) : w.cell? ⟨b, 13, none⟩ = some (.int .i64 x.tx) := cell_of_row _ _ _ _ _ _ h
theorem RR.tx {w : World} {b : Nat} {x : Ln} (h : RR w b x) (v : Int) : RR (w.setCell ⟨b, 13, none⟩ (.int .i64 v)) b { x with tx := v } := h.put 13 _
theorem RR.c14 {w : World} {b : Nat} {x : Ln} (h : RR w b x) : w.cell? ⟨b, 14, none⟩ = some (.int .i64 x.to) := cell_of_row _ _ _ _ _ _ h
theorem RR.to {w : World} {b : Nat} {x : Ln} (h : RR w b x) (v : Int) : RR (w.setCell ⟨b, 14, none⟩ (.int .i64 v)) b { x with to := v } := h.put 14 _

/-- the state of the document's Bill within a round: the line in block B, the credits cv, the lines so far fv -/
structure BSt (w1 : World) (B k m : Nat) (cv fv : Value) (ls : List Ln) (wi : World) (x : Ln) (c : List Int) : Prop where
  n : RR wi B x
  c : wi.ownsRow w1.heap.size 3 1 cv m (ints c)
  f : wi.ownsRow w1.heap.size 108 15 fv k (lcs ls)
  b : Below w1.heap.size w1 wi
  hB : w1.heap.size ≤ B
theorem BSt.nc {w1 wi : World} {B k m : Nat} {cv fv : Value} {ls : List Ln} {x : Ln} {c : List Int} (h : BSt w1 B k m cv fv ls wi x c) : cv.ownBlock ≠ some B := by
  intro hk
  obtain ⟨cc, z, q⟩ := Lib.ownsRow_kind h.c B hk
  rw [show wi.heap[B]? = _ from h.n] at q
  injection q with q
  injection q with _ q _
  exact absurd q (by decide)
theorem BSt.fc {w1 wi : World} {B k m : Nat} {cv fv : Value} {ls : List Ln} {x : Ln} {c : List Int} (h : BSt w1 B k m cv fv ls wi x c) : ∀ g, cv.ownBlock = some g → fv.ownBlock ≠ some g := own_apart h.c h.f (by decide)
theorem BSt.below {w1 wi w' : World} {B k m : Nat} {cv fv : Value} {ls : List Ln} {x : Ln} {c : List Int} (h : BSt w1 B k m cv fv ls wi x c) (hb : Below wi.heap.size wi w') : BSt w1 B k m cv fv ls w' x c :=
  ⟨(hb.block B h.n.lt).trans h.n, own_below h.c hb, own_below h.f hb, below_then h.b hb, h.hB⟩
theorem BSt.drewN {w1 wi : World} {B k m : Nat} {cv fv : Value} {ls : List Ln} {x : Ln} {c : List Int} (h : BSt w1 B k m cv fv ls wi x c) (n : Nat) : BSt w1 B k m cv fv ls (wi.drewN n) x c := h.below (below_drewN (Below.refl _ _) n)
theorem BSt.drew {w1 wi : World} {B k m : Nat} {cv fv : Value} {ls : List Ln} {x : Ln} {c : List Int} (h : BSt w1 B k m cv fv ls wi x c) : BSt w1 B k m cv fv ls wi.drew x c := h.below (Below.drew (Below.refl _ _))
theorem BSt.set {w1 wi : World} {B k m : Nat} {cv fv : Value} {ls : List Ln} {x x' : Ln} {c : List Int} (h : BSt w1 B k m cv fv ls wi x c) (hf : fv.ownBlock ≠ some B) (j : Nat) (u : Value) (hn : RR (wi.setCell ⟨B, j, none⟩ u) B x') : BSt w1 B k m cv fv ls (wi.setCell ⟨B, j, none⟩ u) x' c :=
  ⟨hn, own_far h.c h.nc j u, own_far h.f hf j u, Below.setCell h.b h.hB _, h.hB⟩
/-- the credit at j, and its place -/
theorem BSt.at {w1 wi : World} {B k m : Nat} {cv fv : Value} {ls : List Ln} {x : Ln} {c : List Int} (h : BSt w1 B k m cv fv ls wi x c) (hn : c.length = m) {j : Nat} (hj : j < m) :
    ∃ g cap, cv = .slice (some ⟨g, 0, none⟩) m cap ∧ m ≤ cap ∧ g < wi.heap.size ∧ w1.heap.size ≤ g ∧ ¬ g = B ∧ wi.cell? ⟨g, j, none⟩ = some (.int .i64 (cAt c j)) ∧ wi.frozen? ⟨g, j, none⟩ = false := by
  have own := h.c
  obtain ⟨g, cap, rfl, hb, hlt⟩ := own.form (by omega)
  have hcap : m ≤ cap := by
    rcases own.2 with ⟨h1, _⟩ | ⟨g', cap', cur, hv, _, _, hc, _⟩
    · cases h1
    · cases hv; exact hc
  refine ⟨g, cap, rfl, hcap, hlt, hb, fun e => h.nc (by rw [e]; rfl), ?_, own.frozenAt j⟩
  rw [own.cellAt j (by omega), ints_get (by omega)]
theorem BSt.put {w1 wi : World} {B k m g cap : Nat} {fv : Value} {ls : List Ln} {x : Ln} {c : List Int} (h : BSt w1 B k m (.slice (some ⟨g, 0, none⟩) m cap) fv ls wi x c) (hg : ¬ g = B) (hgb : w1.heap.size ≤ g) (j : Nat) (v : Int) :
    BSt w1 B k m (.slice (some ⟨g, 0, none⟩) m cap) fv ls (wi.setCell ⟨g, j, none⟩ (.int .i64 v)) x (c.set j v) := by
  obtain ⟨s1, s2⟩ := h.c.stored j (.int .i64 v)
  refine ⟨?_, ?_, own_far h.f (h.fc g rfl) j _, Below.setCell h.b hgb _, h.hB⟩
  · have e : (wi.setCell ⟨g, j, none⟩ (.int .i64 v)).heap[B]? = wi.heap[B]? := s2.block B h.n.lt (fun e => hg (by injection e with e; exact e.symm))
    exact e.trans h.n
  · have : ints (c.set j v) = (ints c).set j (.int .i64 v) := by simp [ints, List.map_set]
    rw [this]; exact s1
theorem BSt.app {w1 wi w' : World} {B k m m' : Nat} {cv cv' fv : Value} {ls : List Ln} {x : Ln} {c c' : List Int} (h : BSt w1 B k m cv fv ls wi x c) (o : Obj) (g : (wi.alloc o).grownBy w' cv.ownBlock) (own : w'.ownsRow w1.heap.size 3 1 cv' m' (ints c')) : BSt w1 B k m' cv' fv ls w' x c' := by
  have hz := h.b.size
  refine ⟨?_, own, (own_below h.f (below_more (Below.refl _ _) o)).kept g (own_ne' h.fc), Below.grown (below_more h.b o) g (by simp; omega) (fun j hj => (h.c.lt j hj).1), h.hB⟩
  exact ((g.block B (by have := h.n.lt; simp; omega) (fun e => h.nc e.symm)).trans (heap_alloc_old _ _ h.n.lt)).trans h.n
theorem set_self {c : List Int} {j : Nat} {v : Int} (hj : j < c.length) (h : cAt c j = v) : c.set j v = c := by
  refine list_ext (by rw [List.length_set]) fun i hi => ?_
  rw [cAt_set hj]
  by_cases e : j = i
  · rw [if_pos e, ← h, e]
  · rw [if_neg e]
/-- the document's tariff, in block b -/
def UR (w : World) (b : Nat) (t : Trf) : Prop := w.heap[b]? = some (.cells #[.int .i64 t.z.off, .int .i64 t.z.f.m, .int .i64 t.z.f.w, .int .i64 t.z.f.d, .int .i64 t.z.f.h, .int .i64 t.z.t.m, .int .i64 t.z.t.w, .int .i64 t.z.t.d, .int .i64 t.z.t.h, .int .i64 t.days, .int .i64 t.gap, .int .i64 t.first, .int .i64 t.last, .string t.h0, .string t.h1, .string t.h2, .string t.h3, .int .i64 t.b0.x, .int .i64 t.b0.y, .int .i64 t.b0.z, .int .i64 t.b1.x, .int .i64 t.b1.y, .int .i64 t.b1.z, .int .i64 t.b2.x, .int .i64 t.b2.y, .int .i64 t.b2.z, .int .i64 t.d.x, .int .i64 t.d.y, .int .i64 t.d.z, .int .i64 t.np, .int .i64 t.nn, .int .i64 t.fix, .int .i64 t.min, .int .i64 t.tax] 61)
theorem UR.c26 {w : World} {b : Nat} {t : Trf} (h : UR w b t) : w.cell? ⟨b, 26, none⟩ = some (.int .i64 t.d.x) := cell_of_row _ _ _ _ _ _ h
theorem UR.c29 {w : World} {b : Nat} {t : Trf} (h : UR w b t) : w.cell? ⟨b, 29, none⟩ = some (.int .i64 t.np) := cell_of_row _ _ _ _ _ _ h
theorem UR.c30 {w : World} {b : Nat} {t : Trf} (h : UR w b t) : w.cell? ⟨b, 30, none⟩ = some (.int .i64 t.nn) := cell_of_row _ _ _ _ _ _ h
theorem UR.c31 {w : World} {b : Nat} {t : Trf} (h : UR w b t) : w.cell? ⟨b, 31, none⟩ = some (.int .i64 t.fix) := cell_of_row _ _ _ _ _ _ h
theorem UR.c32 {w : World} {b : Nat} {t : Trf} (h : UR w b t) : w.cell? ⟨b, 32, none⟩ = some (.int .i64 t.min) := cell_of_row _ _ _ _ _ _ h
theorem UR.c33 {w : World} {b : Nat} {t : Trf} (h : UR w b t) : w.cell? ⟨b, 33, none⟩ = some (.int .i64 t.tax) := cell_of_row _ _ _ _ _ _ h
end Go.Proofs.Ytjaffmmocbplaab
