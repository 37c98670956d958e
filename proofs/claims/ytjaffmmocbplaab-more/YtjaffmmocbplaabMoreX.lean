/-
  MorM, MorF, MorW, More in one text (made by tools/merge.py).
-/
import Derived.Test.YtjaffmmocbplaabBilM
import Derived.Test.YtjaffmmocbplaabLinR
import Derived.BigQuiet
import Derived.Test.YtjaffmmocbplaabRows
import Derived.Test.YtjaffmmocbplaabFormM
import Derived.Test.YtjaffmmocbplaabFormT
import Derived.ProofKit
import Derived.OpenShut
namespace Go.Proofs.Ytjaffmmocbplaab
open Txt (Val)
set_option linter.unusedVariables false
/-- a value with more of In, where that is valid still -/
def fedV (v : Val) (a : Int) : Val := if 0 < a ∧ a ≤ 999999999 ∧ 0 ≤ v.i ∧ v.i ≤ 999999999 - a ∧ v.m = false then ⟨v.i + a, v.o, v.m⟩ else v
def fedL (l : List Val) (add : List Int) : List Val := (List.range l.length).map fun i => fedV (Fil.vAt l i) (add.getD i 0)
def fedK (l : List Val) (add : List Int) (k : Nat) : List Val := (List.range k).map fun i => fedV (Fil.vAt l i) (add.getD i 0)
theorem fedK_succ (l : List Val) (add : List Int) (k : Nat) : fedK l add (k + 1) = fedK l add k ++ [fedV (Fil.vAt l k) (add.getD k 0)] := by simp [fedK, List.range_succ]
theorem fedK_len (l : List Val) (add : List Int) (k : Nat) : (fedK l add k).length = k := by simp [fedK]
theorem fedK_get {l : List Val} {add : List Int} {k i : Nat} (h : i < k) : (fedK l add k)[i]? = some (fedV (Fil.vAt l i) (add.getD i 0)) := by simp [fedK, h]
/-- the same but for more of In -/
structure VLe (l l2 : List Val) : Prop where
  len : l2.length = l.length
  m : ∀ i, i < l.length → (Fil.vAt l2 i).m = (Fil.vAt l i).m
  o : ∀ i, (Fil.vAt l2 i).o = (Fil.vAt l i).o
  i : ∀ i, (Fil.vAt l i).i ≤ (Fil.vAt l2 i).i
  v : l2.all valB = l.all valB
theorem fedV_facts (v : Val) (a : Int) : (fedV v a).m = v.m ∧ (fedV v a).o = v.o ∧ v.i ≤ (fedV v a).i ∧ valB (fedV v a) = valB v := by
  unfold fedV
  split
  · rename_i h
    obtain ⟨h1, h2, h3, h4, h5⟩ := h
    refine ⟨rfl, rfl, by simp only; omega, ?_⟩
    unfold valB
    simp only [h5, Bool.false_eq_true, if_false]
    rw [inB_true (n := v.i + a) (by omega) (by omega), inB_true (n := v.i) (by omega) (by omega)]
  · exact ⟨rfl, rfl, Int.le_refl _, rfl⟩
theorem vAt_out {l : List Val} {i : Nat} (h : ¬ i < l.length) : Fil.vAt l i = ⟨0, 0, false⟩ := by
  unfold Fil.vAt; rw [List.getElem?_eq_none (by omega)]
theorem all_vAt {l : List Val} : l.all valB = true ↔ ∀ i, i < l.length → valB (Fil.vAt l i) = true := by
  rw [List.all_eq_true]
  constructor
  · exact fun h i hi => h _ (List.mem_of_getElem? (Fil.get_ex hi))
  · intro h x hx
    obtain ⟨i, hi, e⟩ := List.getElem_of_mem hx
    have := h i hi
    rw [Fil.vAt_some (List.getElem?_eq_getElem hi), e] at this; exact this
theorem fed_le (l : List Val) (add : List Int) : VLe l (fedK l add l.length) := by
  have at_ : ∀ i, i < l.length → Fil.vAt (fedK l add l.length) i = fedV (Fil.vAt l i) (add.getD i 0) := fun i hi => Fil.vAt_some (fedK_get hi)
  have out : ∀ i, ¬ i < l.length → Fil.vAt (fedK l add l.length) i = ⟨0, 0, false⟩ := fun i hi => vAt_out (by rw [fedK_len]; exact hi)
  refine ⟨fedK_len _ _ _, fun i hi => ?_, fun i => ?_, fun i => ?_, ?_⟩
  · rw [at_ i hi]; exact (fedV_facts _ _).1
  · by_cases hi : i < l.length
    · rw [at_ i hi]; exact (fedV_facts _ _).2.1
    · rw [out i hi, vAt_out hi]
  · by_cases hi : i < l.length
    · rw [at_ i hi]; exact (fedV_facts _ _).2.2.1
    · rw [out i hi, vAt_out hi]; exact Int.le_refl _
  · rw [Bool.eq_iff_iff, all_vAt, all_vAt, fedK_len]
    constructor
    · intro h i hi; have := h i hi; rw [at_ i hi, (fedV_facts _ _).2.2.2] at this; exact this
    · intro h i hi; rw [at_ i hi, (fedV_facts _ _).2.2.2]; exact h i hi

namespace Fil
theorem mAt_le {l l2 : List Val} (h : VLe l l2) (i : Nat) : mAt l2 i = mAt l i := by
  by_cases hi : i < l.length
  · rw [mAt_v hi, mAt_v (by rw [h.len]; exact hi), h.m i hi]
  · unfold mAt; rw [List.getElem?_eq_none (by have := h.len; omega), List.getElem?_eq_none (by omega)]
theorem reF_le {l l2 : List Val} (h : VLe l l2) : ∀ f i, reF l2 f i = reF l f i
  | 0, i => rfl
  | f + 1, i => by
    show (if mAt l2 i = true then reF l2 f (i + 1) else i) = (if mAt l i = true then reF l f (i + 1) else i)
    rw [mAt_le h, reF_le h f (i + 1)]
theorem re_le2 {l l2 : List Val} (h : VLe l l2) (i : Nat) : re l2 i = re l i := by unfold re; rw [h.len, reF_le h]
theorem lf_le2 {l l2 : List Val} (h : VLe l l2) : ∀ i, lf l2 i = lf l i
  | 0 => rfl
  | i + 1 => by
    show (if mAt l2 (i + 1) = true then lf l2 i else i + 1) = (if mAt l (i + 1) = true then lf l i else i + 1)
    rw [mAt_le h, lf_le2 h i]
theorem rowsF_le {l l2 : List Val} (h : VLe l l2) (gap : Int) : ∀ f i, rowsF l2 gap f i = rowsF l gap f i
  | 0, i => rfl
  | f + 1, i => by
    show (if i < l2.length then (if mAt l2 i = true then (if i = 0 ∨ re l2 i = l2.length ∨ gap < (re l2 i : Int) - i then (i : Int) else rowsF l2 gap f (re l2 i)) else rowsF l2 gap f (i + 1)) else -1) = (if i < l.length then (if mAt l i = true then (if i = 0 ∨ re l i = l.length ∨ gap < (re l i : Int) - i then (i : Int) else rowsF l gap f (re l i)) else rowsF l gap f (i + 1)) else -1)
    rw [mAt_le h, re_le2 h, h.len, rowsF_le h gap f, rowsF_le h gap f]
theorem rows_le {l l2 : List Val} (h : VLe l l2) (gap : Int) (i : Nat) : rows l2 gap i = rows l gap i := by unfold rows; rw [h.len, rowsF_le h]
theorem btw_mono {a b a' b' i n : Int} (hn : 0 < n) (hi : 0 ≤ i) (hin : i ≤ n) (ha : a ≤ a') (hb : b ≤ b') : btw a b i n ≤ btw a' b' i n := by
  rw [← btw_one hn, ← btw_one hn]
  refine Int.ediv_le_ediv hn ?_
  have h1 := Int.mul_le_mul_of_nonneg_right ha (show 0 ≤ n - i by omega)
  have h2 := Int.mul_le_mul_of_nonneg_right hb hi
  omega
theorem fv_le {l l2 : List Val} (h : VLe l l2) {gap : Int} (hr : rows l gap 0 = -1) {i : Nat} (hi : i < l.length) : (fv l2 i).o = (fv l i).o ∧ (fv l i).i ≤ (fv l2 i).i := by
  unfold fv
  rw [mAt_le h, re_le2 h, lf_le2 h]
  cases g : mAt l i
  · simp only [Bool.false_eq_true, if_false]; exact ⟨h.o i, h.i i⟩
  · simp only [if_true]
    have h0 := rows_first hr
    have hlf := lf_lt h0 g
    have hgt := re_gt g
    rw [h.o, h.o]
    exact ⟨rfl, btw_mono (by omega) (by omega) (by omega) (h.i _) (h.i _)⟩
theorem fv_zero {l : List Val} (h : ∀ i, (vAt l i).o = 0) (i : Nat) : (fv l i).o = 0 := by
  unfold fv; split
  · show btw _ _ _ _ = 0
    rw [h, h]; unfold btw; simp
  · exact h i
end Fil

namespace Bil
structure PLe (p q : Per) : Prop where
  a : p.i0 ≤ q.i0
  b : p.i1 ≤ q.i1
  c : p.i2 ≤ q.i2
  k : p.pk ≤ q.pk
theorem PLe.refl (p : Per) : PLe p p := ⟨Int.le_refl _, Int.le_refl _, Int.le_refl _, Int.le_refl _⟩
theorem pAt_snoc (l : List Per) (p : Per) (k : Nat) : pAt (l ++ [p]) k = if k < l.length then pAt l k else if k = l.length then p else per0 := by
  unfold pAt
  rw [List.getD_eq_getElem?_getD, List.getD_eq_getElem?_getD]
  by_cases h : k < l.length
  · rw [if_pos h, List.getElem?_append_left h]
  · rw [if_neg h]
    by_cases e : k = l.length
    · rw [if_pos e, List.getElem?_append_right (by omega), e]; simp
    · rw [if_neg e, List.getElem?_eq_none (by simp; omega)]; rfl
structure SLe (s s2 : PSt) : Prop where
  e : s2.en = s.en
  n : s2.dn.length = s.dn.length
  d : ∀ k, PLe (pAt s.dn k) (pAt s2.dn k)
  p : PLe s.p s2.p
theorem snoc_le {l l2 : List Per} {p q : Per} (hn : l2.length = l.length) (h : ∀ k, PLe (pAt l k) (pAt l2 k)) (hp : PLe p q) (k : Nat) : PLe (pAt (l ++ [p]) k) (pAt (l2 ++ [q]) k) := by
  rw [pAt_snoc, pAt_snoc, hn]
  split
  · exact h k
  · split
    · exact hp
    · exact PLe.refl _
theorem push_le {days day : Int} (hd : 1 ≤ days) : ∀ (n : Nat) (s s2 : PSt), (day + 1 - s.en).toNat ≤ n → SLe s s2 → SLe (pushP days day s) (pushP days day s2)
  | n, s, s2, hn, h => by
    by_cases g : s.en ≤ day
    · cases n with
      | zero => omega
      | succ n =>
        rw [push_go hd g, push_go (s := s2) hd (by rw [h.e]; exact g)]
        refine push_le hd n _ _ (by simp only; omega) ⟨?_, ?_, ?_, PLe.refl _⟩
        · show s2.en + days = s.en + days; rw [h.e]
        · simp [h.n]
        · exact snoc_le h.n h.d h.p
    · rw [push_stop g, push_stop (s := s2) (by rw [h.e]; exact g)]; exact h
theorem pw_le {v v2 : Val} {step : Int} (hs : step = 15 ∨ step = 30 ∨ step = 60) (h : v.i ≤ v2.i) : pw v step ≤ pw v2 step := by
  unfold pw; exact Int.ediv_le_ediv (by omega) (by omega)
theorem add_le {p q : Per} {v v2 : Val} {c step : Int} (hs : step = 15 ∨ step = 30 ∨ step = 60) (h : PLe p q) (hv : v.i ≤ v2.i) : PLe (addV p v c step) (addV q v2 c step) := by
  have := pw_le hs hv
  obtain ⟨h1, h2, h3, h4⟩ := h
  unfold addV
  constructor
  · simp only; split <;> omega
  · simp only; split <;> omega
  · simp only; split <;> omega
  · simp only; split <;> split <;> omega
theorem run_le {t : Trf} {step start : Int} {L L2 : List Val} (hd : 1 ≤ t.days) (hs : step = 15 ∨ step = 30 ∨ step = 60) (h : ∀ i, (Fil.vAt L i).i ≤ (Fil.vAt L2 i).i) : ∀ k, SLe (runP t step start L k) (runP t step start L2 k)
  | 0 => ⟨rfl, rfl, fun _ => PLe.refl _, PLe.refl _⟩
  | k + 1 => by
    have ih := run_le (start := start) hd hs h k
    have hb : SLe (begP t step start (runP t step start L k) k) (begP t step start (runP t step start L2 k) k) := by
      unfold begP; split
      · exact ⟨rfl, ih.n, ih.d, ih.p⟩
      · exact ih
    have hp := push_le (day := dayAt t step start k) hd _ _ _ (Nat.le_refl _) hb
    exact ⟨hp.e, hp.n, hp.d, add_le hs hp.p (h k)⟩
def ZS (s : PSt) : Prop := (∀ k, (pAt s.dn k).o = 0) ∧ s.p.o = 0
theorem push_zero {days day : Int} (hd : 1 ≤ days) : ∀ (n : Nat) (s : PSt), (day + 1 - s.en).toNat ≤ n → ZS s → ZS (pushP days day s)
  | n, s, hn, h => by
    by_cases g : s.en ≤ day
    · cases n with
      | zero => omega
      | succ n =>
        rw [push_go hd g]
        refine push_zero hd n _ (by simp only; omega) ⟨fun k => ?_, rfl⟩
        show (pAt (s.dn ++ [s.p]) k).o = 0
        rw [pAt_snoc]
        split
        · exact h.1 k
        · split
          · exact h.2
          · rfl
    · rw [push_stop g]; exact h
theorem run_zero {t : Trf} {step start : Int} {L : List Val} (hd : 1 ≤ t.days) (h : ∀ i, (Fil.vAt L i).o = 0) : ∀ k, ZS (runP t step start L k)
  | 0 => ⟨fun k => by simp [runP, pAt, per0], rfl⟩
  | k + 1 => by
    have ih := run_zero (step := step) (start := start) hd h k
    have hb : ZS (begP t step start (runP t step start L k) k) := by
      unfold begP; split
      · exact ih
      · exact ih
    have hp := push_zero (day := dayAt t step start k) hd _ _ (Nat.le_refl _) hb
    refine ⟨hp.1, ?_⟩
    show (pushP t.days (dayAt t step start k) (begP t step start (runP t step start L k) k)).p.o + (Fil.vAt L k).o = 0
    rw [hp.2, h k]; rfl
theorem per_le {t : Trf} {step start : Int} {L L2 : List Val} (hd : 1 ≤ t.days) (hs : step = 15 ∨ step = 30 ∨ step = 60) (hl : L2.length = L.length) (h : ∀ i, (Fil.vAt L i).i ≤ (Fil.vAt L2 i).i) :
    (perL t step start L2).length = (perL t step start L).length ∧ ∀ k, PLe (pAt (perL t step start L) k) (pAt (perL t step start L2) k) := by
  have r := run_le (start := start) hd hs h L.length
  unfold perL
  rw [hl]
  exact ⟨by simp [r.n], snoc_le r.n r.d r.p⟩
theorem per_zero {t : Trf} {step start : Int} {L : List Val} (hd : 1 ≤ t.days) (h : ∀ i, (Fil.vAt L i).o = 0) (k : Nat) : (pAt (perL t step start L) k).o = 0 := by
  have r := run_zero (step := step) (start := start) hd h L.length
  unfold perL
  rw [pAt_snoc]
  split
  · exact r.1 k
  · split
    · exact r.2
    · rfl

/-! ### the line -/
theorem low_le {x y : Int} {b : Blk} (h : x ≤ y) (hb : 0 ≤ b.y) : lowP x b ≤ lowP y b := by
  unfold lowP
  refine rnd_mono (Int.mul_le_mul_of_nonneg_right ?_ hb)
  unfold mn; split <;> split <;> omega
theorem hi_le {x y : Int} {b : Blk} (h : x ≤ y) (hb : 0 ≤ b.z) : hiP x b ≤ hiP y b := by
  unfold hiP
  refine rnd_mono (Int.mul_le_mul_of_nonneg_right ?_ hb)
  unfold mn; split <;> split <;> omega
theorem en_le {t : Trf} {p q : Per} (ht : OkT t) (h : PLe p q) : enOf t p ≤ enOf t q := by
  obtain ⟨a1, a2, a3, a4, a5, a6⟩ := ht.a0
  obtain ⟨b1, b2, b3, b4, b5, b6⟩ := ht.a1
  obtain ⟨c1, c2, c3, c4, c5, c6⟩ := ht.a2
  have := low_le h.a a3
  have := hi_le h.a a5
  have := low_le h.b b3
  have := hi_le h.b b5
  have := low_le h.c c3
  have := hi_le h.c c5
  unfold enOf; omega
theorem mx_le {a b c d : Int} (h : a ≤ c) (h' : b ≤ d) : mx a b ≤ mx c d := by unfold mx; split <;> split <;> omega
theorem pkR_mon {ps ps2 : List Per} (h : ∀ k, PLe (pAt ps k) (pAt ps2 k)) (a : Nat) : ∀ n, pkR ps a n ≤ pkR ps2 a n
  | 0 => Int.le_refl _
  | n + 1 => mx_le (pkR_mon h a n) (h (a + n)).k
theorem bl_mon {t : Trf} {ps ps2 : List Per} (ht : OkT t) (h : ∀ k, PLe (pAt ps k) (pAt ps2 k)) (i : Nat) : blOf t ps i ≤ blOf t ps2 i := by
  obtain ⟨d1, d2, d3, d4, d5, d6⟩ := ht.d
  unfold blOf pkA
  exact mx_le (h i).k (Int.ediv_le_ediv (by omega) (Int.mul_le_mul_of_nonneg_right (pkR_mon h _ _) d3))
theorem pw2_le {t : Trf} {ps ps2 : List Per} (ht : OkT t) (h : ∀ k, PLe (pAt ps k) (pAt ps2 k)) (i : Nat) : pwOf t ps i ≤ pwOf t ps2 i := by
  unfold pwOf; exact rnd_mono (Int.mul_le_mul_of_nonneg_right (bl_mon ht h i) ht.d.1)
def ZC (c : List Int) : Prop := ∀ j, cAt c j = 0
theorem ZC_set {c : List Int} (h : ZC c) (k : Nat) {v : Int} (hv : v = 0) : ZC (c.set k v) := by
  intro j
  unfold cAt
  rw [List.getD_eq_getElem?_getD, List.getElem?_set]
  split
  · split
    · exact hv
    · rfl
  · exact h j
theorem ZC_snoc {c : List Int} (h : ZC c) {v : Int} (hv : v = 0) : ZC (c ++ [v]) := by
  intro j
  unfold cAt
  rw [List.getD_eq_getElem?_getD]
  by_cases e : j < c.length
  · rw [List.getElem?_append_left e]; exact h j
  · rw [List.getElem?_append_right (by omega)]
    by_cases q : j - c.length = 0
    · rw [q]; exact hv
    · rw [List.getElem?_eq_none (by simp; omega)]; rfl
theorem ZC_exp {c : List Int} (h : ZC c) : ∀ k, ZC (expC c k)
  | 0 => h
  | k + 1 => ZC_set (ZC_exp h k) k rfl
theorem ZC_mn {m : Int} (hm : 0 ≤ m) : mn 0 (m - 0) = 0 := by unfold mn; split <;> omega
theorem ZC_appA {m : Int} (hm : 0 ≤ m) {c : List Int} (h : ZC c) : ∀ k, appA m c k = 0
  | 0 => rfl
  | k + 1 => by
    show appA m c k + mn (cAt c k) (m - appA m c k) = 0
    rw [ZC_appA hm h k, h k, ZC_mn hm]; rfl
theorem ZC_appC {m : Int} (hm : 0 ≤ m) {c : List Int} (h : ZC c) : ∀ k, ZC (appC m c k)
  | 0 => h
  | k + 1 => ZC_set (ZC_appC hm h k) k (by rw [ZC_appA hm h k, h k, ZC_mn hm]; rfl)
theorem ZC_cr {t : Trf} {ps : List Per} (ht : OkT t) (hp : ∀ k, okP (pAt ps k) 200) (ho : ∀ k, (pAt ps k).o = 0) : ∀ k, ZC (crR t ps k)
  | 0 => fun j => by simp [crR, cAt]
  | k + 1 => ZC_snoc (ZC_appC (en_bd ht (hp k)).1 (ZC_exp (ZC_cr ht hp ho k) _) _) (by unfold pdOf; rw [ho k, Int.zero_mul]; rfl)
theorem ap_zero {t : Trf} {ps : List Per} (ht : OkT t) (hp : ∀ k, okP (pAt ps k) 200) (ho : ∀ k, (pAt ps k).o = 0) (k : Nat) : apOf t ps (crR t ps k) k = 0 :=
  ZC_appA (en_bd ht (hp k)).1 (ZC_exp (ZC_cr ht hp ho k) _) _
theorem to_le {t : Trf} {ps ps2 : List Per} (ht : OkT t) (hp : ∀ k, okP (pAt ps k) 200) (hp2 : ∀ k, okP (pAt ps2 k) 200) (ho : ∀ k, (pAt ps k).o = 0) (ho2 : ∀ k, (pAt ps2 k).o = 0) (h : ∀ k, PLe (pAt ps k) (pAt ps2 k)) (k : Nat) : (lnAt t ps k).to ≤ (lnAt t ps2 k).to := by
  have hs : suOf t ps (crR t ps k) k ≤ suOf t ps2 (crR t ps2 k) k := by
    unfold suOf
    rw [ap_zero ht hp ho, ap_zero ht hp2 ho2]
    have := en_le ht (h k)
    have := pw2_le ht h k
    exact mx_le (by omega) (Int.le_refl _)
  have ht' := rnd_mono (Int.mul_le_mul_of_nonneg_right hs ht.f.2.2.2.2.1)
  show suOf t ps (crR t ps k) k + rnd (suOf t ps (crR t ps k) k * t.tax) ≤ suOf t ps2 (crR t ps2 k) k + rnd (suOf t ps2 (crR t ps2 k) k * t.tax)
  omega
end Bil

theorem meterB_le {step start : Int} {l l2 : List Val} (h : VLe l l2) : meterB step start l2 = meterB step start l := by unfold meterB; rw [h.len, h.v]
/-- the two bills -/
theorem more {t : Trf} {step start : Int} {l l2 : List Val} (h : VLe l l2) :
    spE t step start l2 = spE t step start l ∧ (spL t step start l2).length = (spL t step start l).length ∧
      (spE t step start l = 0 → (∀ i, (Fil.vAt l i).o = 0) → ∀ k, (Bil.lnAt t (spL t step start l) k).to ≤ (Bil.lnAt t (spL t step start l2) k).to) := by
  have hB := meterB_le (step := step) (start := start) h
  have hO : fOk step start t.gap l2 = fOk step start t.gap l := by unfold fOk; rw [hB]
  have hR := Fil.rows_le h t.gap 0
  have hE : fE step start t.gap l2 = fE step start t.gap l := by unfold fE; rw [hO, hR]
  have hL : (fL step start t.gap l2).length = (fL step start t.gap l).length := by
    unfold fL; rw [hO, hR]; split
    · split
      · rw [Fil.fl_len, Fil.fl_len, h.len]
      · rfl
    · rfl
  have hN : ppN t step start (fL step start t.gap l2) = ppN t step start (fL step start t.gap l) := by unfold ppN; rw [hL]
  have hS : spE t step start l2 = spE t step start l := by
    unfold spE ppE; rw [hB, hE, hN, hL]
  by_cases hz : spE t step start l = 0
  · obtain ⟨hm, hb13, hfe, hokc, hsl⟩ := sp_ok hz
    obtain ⟨hm2, _, hfe2, hokc2, hsl2⟩ := sp_ok (hS.trans hz)
    have hs := (meterB_step hm).1
    have hd := (days_ok hb13).1
    have hr : Fil.rows l t.gap 0 = -1 ∧ fOk step start t.gap l = true := by
      unfold fE at hfe
      cases q : fOk step start t.gap l
      · rw [q] at hfe; simp at hfe
      · rw [q, if_pos rfl] at hfe
        by_cases g : Fil.rows l t.gap 0 = -1
        · exact ⟨g, rfl⟩
        · rw [if_neg g] at hfe; omega
    have hFL := (f_yes hr.2 hr.1).2.2
    have hFL2 := (f_yes (hO.trans hr.2) (hR.trans hr.1)).2.2
    have hv : ∀ i, (Fil.vAt (fL step start t.gap l) i).i ≤ (Fil.vAt (fL step start t.gap l2) i).i := fun i => by
      rw [hFL, hFL2, h.len]
      by_cases hi : i < l.length
      · rw [Fil.vAt_some (Fil.fl_get hi), Fil.vAt_some (Fil.fl_get hi)]; exact (Fil.fv_le h hr.1 hi).2
      · rw [vAt_out (by rw [Fil.fl_len]; exact hi), vAt_out (by rw [Fil.fl_len]; exact hi)]; exact Int.le_refl _
    obtain ⟨p1, p2⟩ := Bil.per_le (t := t) (step := step) (start := start) hd hs hL hv
    refine ⟨hS, by rw [hsl, hsl2, p1], fun _ hzo k => ?_⟩
    have z1 : ∀ i, (Fil.vAt (fL step start t.gap l) i).o = 0 := fun i => by
      rw [hFL]
      by_cases hi : i < l.length
      · rw [Fil.vAt_some (Fil.fl_get hi)]; exact Fil.fv_zero hzo i
      · rw [vAt_out (by rw [Fil.fl_len]; exact hi)]
    have z2 : ∀ i, (Fil.vAt (fL step start t.gap l2) i).o = 0 := fun i => by
      rw [hFL2, h.len]
      by_cases hi : i < l.length
      · rw [Fil.vAt_some (Fil.fl_get hi)]; exact Fil.fv_zero (fun j => (h.o j).trans (hzo j)) i
      · rw [vAt_out (by rw [Fil.fl_len]; exact hi)]
    have okp : ∀ (l : List Val), spE t step start l = 0 → ∀ k, okP (Bil.pAt (spL t step start l) k) 200 := fun l hz => by
      obtain ⟨hm, hb13, hfe, hokc, hsl⟩ := sp_ok hz
      obtain ⟨hst, hsa⟩ := meterB_step hm
      obtain ⟨len1, len2, hall⟩ := meterB_fit hm
      have hLn := (fL_len step start t.gap l).2
      have hLv : (fL step start t.gap l).all valB = true := by
        unfold fL; split
        · split
          · rename_i hr; exact fl_valB hall hr
          · rfl
        · rfl
      rw [hsl]; exact Bil.pAt_ok (perL_all hb13 hst hLv hLn hokc).1
    have k1 := okp l hz
    have k2 := okp l2 (hS.trans hz)
    rw [hsl] at k1 ⊢
    rw [hsl2] at k2 ⊢
    exact Bil.to_le (Bil.okT hb13) k1 k2 (Bil.per_zero hd z1) (Bil.per_zero hd z2) p2 k
  · refine ⟨hS, by rw [sp_no hz, sp_no (by rw [hS]; exact hz)], fun e => absurd e hz⟩
end Go.Proofs.Ytjaffmmocbplaab

namespace Go.Proofs.Ytjaffmmocbplaab.more
open Go.RowKit Bil
set_option linter.unusedVariables false
attribute [local go_sem ↓] Go.wp_at_zero Go.wp_at_succ

/-- a slice of integers that came in -/
def IRow (w : World) (v : Value) (c : List Int) : Prop :=
  ∃ a cap, v = .slice a c.length cap ∧ (c = [] ∨ ∃ b off, a = some ⟨b, off, none⟩ ∧ c.length ≤ cap ∧ b < w.heap.size ∧ ∀ i, i < c.length → w.cell? ⟨b, off + i, none⟩ = some (.int .i64 (c.getD i 0)))
theorem IRow.form {w : World} {v : Value} {c : List Int} (h : IRow w v c) : ∃ a cap, v = .slice a c.length cap := by
  obtain ⟨a, cap, hv, _⟩ := h; exact ⟨a, cap, hv⟩
theorem IRow.below {w w' : World} {v : Value} {c : List Int} (h : IRow w v c) (hb : Below w.heap.size w w') : IRow w' v c := by
  obtain ⟨a, cap, hv, h⟩ := h
  refine ⟨a, cap, hv, h.imp id ?_⟩
  rintro ⟨b, off, ha, hc, hlt, h⟩
  have := hb.size
  exact ⟨b, off, ha, hc, by omega, fun i hi => vcell_below hb hlt (h i hi)⟩
theorem IRow.at {w : World} {a : Option Addr} {n cap : Nat} {c : List Int} (h : IRow w (.slice a n cap) c) {k : Nat} (hk : k < c.length) :
    ∃ b off, a = some ⟨b, off, none⟩ ∧ n ≤ cap ∧ b < w.heap.size ∧ w.cell? ⟨b, off + k, none⟩ = some (.int .i64 (c.getD k 0)) := by
  obtain ⟨a', cap', hv, h⟩ := h
  cases hv
  rcases h with rfl | ⟨b, off, rfl, hc, hlt, h⟩
  · simp at hk
  · exact ⟨b, off, rfl, hc, hlt, h k hk⟩

set_option maxRecDepth 1000000 in
set_option maxHeartbeats 2000000 in
theorem fed_any (step start : Int) (v va : Value) (l : List Txt.Val) (add : List Int) (w : World) (h : VRow w v l) (ha : IRow w va add) (hreach : l.length * 24 ≤ 140737488351232) :
    Calls Try.prog 23 #[.agg #[.int .i64 step, .int .i64 start, v], va] w fun e w' => ∃ v', e = .returned (.agg #[.int .i64 step, .int .i64 start, v']) ∧ VRow w' v' (fedK l add l.length) ∧ Below w.heap.size w w' := by
  obtain ⟨i0, hi, hz0, hz1, hz2⟩ := info_parts infoV
  obtain ⟨a, cap, rfl⟩ := h.form
  obtain ⟨aa, acap, rfl⟩ := ha.form
  have HV := hideF h
  have HA := hideF ha
  clear h ha
  go_enter Try.func23, Try.ntmps23
  go_wp2_with fail
  obtain ⟨W0, hW0⟩ : ∃ W0, W0 = (w.alloc (.cells #[.int .i64 step, .int .i64 start, .slice a l.length cap] 24)).alloc (.cells #[.int .i64 0, .int .i64 0, .slice none 0 0] 24) := ⟨_, rfl⟩
  have HW0 := hideF hW0
  have B0 : Below w.heap.size w W0 := by rw [hW0]; exact below_more (below_more (Below.refl _ _) _) _
  have z0 : W0.heap.size = w.heap.size + 2 := by rw [hW0]; simp
  have R0 : W0.heap[w.heap.size]? = some (.cells #[.int .i64 step, .int .i64 start, .slice a l.length cap] 24) := by rw [hW0]; exact (heap_alloc_old _ _ (by simp)).trans (heap_alloc_new _ _)
  have R1 : W0.heap[w.heap.size + 1]? = some (.cells #[.int .i64 0, .int .i64 0, .slice none 0 0] 24) := by rw [hW0]; exact heap_alloc2_new _ _ _
  have HR0 := hideF R0
  have HR1 := hideF R1
  clear hW0 R0 R1
  go_loopw [5, 6] (fun o p wr => ∃ k : Nat, p = .int .i64 k ∧ k ≤ l.length ∧ wr.ownsRow W0.heap.size 69 3 o k (vcs (fedK l add k)) ∧ Below W0.heap.size W0 wr) (fun _ p _ => l.length - (intOf p).toNat)
  case atStart => exact ⟨0, rfl, by omega, by rw [HW0.out]; exact World.ownsRow_nil _ _ _ _, by rw [HW0.out]; exact Below.refl _ _⟩
  case round =>
    obtain ⟨k, rfl, hk, hown, hbw⟩ := hrel
    obtain ⟨a0, cap0, rfl⟩ := own_slice hown
    have hsz := hbw.size
    have HRr := hideF ((hbw.block w.heap.size (by omega)).trans HR0.out)
    have m2 : wr.cell? ⟨w.heap.size, 2, none⟩ = some (.slice a l.length cap) := cell_of_row _ _ _ _ _ _ HRr.out
    have hww : w.heap.size < wr.heap.size := by omega
    by_cases hlt : k < l.length
    · have hlt' : (k : Int) < (l.length : Int) := by omega
      have hk0 : (0 : Int) ≤ (k : Int) := by omega
      have hb2 := below_then B0 hbw
      obtain ⟨b, off, rfl, hcap, hblt, c0', c1', c2'⟩ := (HV.out.below hb2).at (Fil.get_ex hlt)
      have hcap' : (l.length : Int) ≤ (cap : Int) := by omega
      have HF : Hid (fedK l add (k + 1) = fedK l add k ++ [fedV (Fil.vAt l k) (add.getD k 0)]) := fedK_succ l add k
      obtain ⟨x, hx⟩ : ∃ x, x = Fil.vAt l k := ⟨_, rfl⟩
      rw [← hx] at c0' c1' c2' HF
      obtain ⟨xi, xo, xm⟩ := x
      have c0 := c0'
      have c1 := c1'
      have c2 := c2'
      clear c0' c1' c2' hx
      have hoN : ∀ j, (Value.ownBlock (.slice a0 k cap0)) = some j → W0.heap.size ≤ j := fun j hj => (hown.lt j hj).1
      have hkm : k + 1 ≤ maxLen := by unfold maxLen; omega
      by_cases q1 : k < add.length
      · have q1' : (k : Int) < (add.length : Int) := by omega
        obtain ⟨ab, aoff, rfl, hacap, hablt, ca'⟩ := (HA.out.below hb2).at q1
        have hacap' : (add.length : Int) ≤ (acap : Int) := by omega
        obtain ⟨A, hA⟩ : ∃ A, A = add.getD k 0 := ⟨_, rfl⟩
        rw [← hA] at ca' HF
        have ca := ca'
        clear ca' hA
        by_cases q2 : 0 < A
        · by_cases q3 : A ≤ 999999999
          · by_cases q4 : 0 ≤ xi
            · have kw : IntKind.i64.wrap (999999999 - A) = 999999999 - A := Go.IntWalk.i64_in _ (by omega)
              by_cases q5 : xi ≤ 999999999 - A
              · cases xm
                · have HG : Hid (fedV ⟨xi, xo, false⟩ A = ⟨xi + A, xo, false⟩) := by show _ = _; unfold fedV; rw [if_pos (by simp only; exact ⟨q2, q3, q4, q5, trivial⟩)]
                  have kw2 : IntKind.i64.wrap (xi + A) = xi + A := Go.IntWalk.i64_in _ (by omega)
                  go_wp2_with fail
                  go_quiet (fail)
                  go_wp2_with fail
                  obtain ⟨wq, hwq⟩ : ∃ wq, wq = (wr.alloc (.cells #[.int .i64 xi, .int .i64 xo, .bool false] 69)).drewN nq := ⟨_, rfl⟩
                  rw [← hwq]
                  have eR : wq.heap[wr.heap.size]? = some (.cells #[.int .i64 xi, .int .i64 xo, .bool false] 69) := by rw [hwq]; exact heap_alloc_new wr _
                  have Bq : Below wr.heap.size wr wq := by rw [hwq]; exact below_drewN (below_more (Below.refl _ _) _) _
                  have hzq : wq.heap.size = wr.heap.size + 1 := by rw [hwq]; show (wr.alloc _).heap.size = _; simp
                  clear hwq
                  have e0 : wq.cell? ⟨wr.heap.size, 0, none⟩ = some (.int .i64 xi) := cell_of_row _ _ _ _ _ _ eR
                  have e1 : wq.cell? ⟨wr.heap.size, 1, none⟩ = some (.int .i64 xo) := cell_of_row _ _ _ _ _ _ eR
                  have e2 : wq.cell? ⟨wr.heap.size, 2, none⟩ = some (.bool false) := cell_of_row _ _ _ _ _ _ eR
                  have ef : wq.frozen? ⟨wr.heap.size, 0, none⟩ = false := frozen_of_row _ _ _ _ _ eR
                  have ea : wq.cell? ⟨ab, aoff + k, none⟩ = some (.int .i64 A) := vcell_below Bq hablt ca
                  have hne : ¬ wr.heap.size = ab := by omega
                  clear c0 c1 c2 ca
                  go_region
                  all_goals
                    go_wp2_with (at_builtin; refine wpList_append_own _ rfl _ _ 22 rfl W0.heap.size 69 i0 (.agg #[.int .i64 0, .int .i64 0, .bool false]) 3 24 Try.underlying22 hi hz0 hz1 hz2 rfl (by decide) _ _ _ rfl (own_below hown (Below.drew (below_more (Below.setCell Bq (Nat.le_refl _) _) _))) ⟨wr.heap.size + 1, 0, none⟩ 1 1 (vcell ⟨xi + A, xo, false⟩) rfl rfl (by have := cell_three_new (wq.setCell ⟨wr.heap.size, 0, none⟩ (.int .i64 (xi + A))) (.int .i64 (xi + A)) (.int .i64 xo) (.bool false) 69; simpa [vcell, hzq] using this) (fun x hx => by simp [vcell] at hx; rcases hx with rfl | rfl | rfl <;> rfl) hkm (by omega) (by simp; omega) ?_; intro v' w4 own4 g4 nil4; obtain ⟨a4, cap4, rfl⟩ := own_slice own4)
                    go_roundw
                    case rel => exact ⟨k + 1, by go_num, by omega, by rw [HF.out, HG.out, vcs_snoc]; exact own4, Below.grown (below_then hbw (Below.drew (below_more (Below.setCell Bq (Nat.le_refl _) _) _))) g4 (by simp; omega) (fun j hj => hoN j hj)⟩
                    case measure => simp [intOf]; omega
                · have HG : Hid (fedV ⟨xi, xo, true⟩ A = ⟨xi, xo, true⟩) := by show _ = _; unfold fedV; rw [if_neg (by simp)]
                  go_wp2_with fail
                  go_quiet (fail)
                  go_wp2_with (at_builtin; refine wpList_append_own _ rfl _ _ 22 rfl W0.heap.size 69 i0 (.agg #[.int .i64 0, .int .i64 0, .bool false]) 3 24 Try.underlying22 hi hz0 hz1 hz2 rfl (by decide) _ _ _ rfl (own_below hown (below_more (below_drewN (below_more (Below.refl _ _) _) _) _)) ⟨wr.heap.size + 1, 0, none⟩ 1 1 (vcell ⟨xi, xo, true⟩) rfl rfl (by have := cell_three_new ((wr.alloc (.cells #[.int .i64 xi, .int .i64 xo, .bool true] 69)).drewN nq) (.int .i64 (xi)) (.int .i64 xo) (.bool true) 69; simpa [vcell] using this) (fun x hx => by simp [vcell] at hx; rcases hx with rfl | rfl | rfl <;> rfl) hkm (by omega) (by simp; omega) ?_; intro v' w4 own4 g4 nil4; obtain ⟨a4, cap4, rfl⟩ := own_slice own4)
                  go_roundw
                  case rel => exact ⟨k + 1, by go_num, by omega, by rw [HF.out, HG.out, vcs_snoc]; exact own4, Below.grown (below_then hbw (below_more (below_drewN (below_more (Below.refl _ _) _) _) _)) g4 (by simp; omega) (fun j hj => hoN j hj)⟩
                  case measure => simp [intOf]; omega
              · have HG : Hid (fedV ⟨xi, xo, xm⟩ A = ⟨xi, xo, xm⟩) := by show _ = _; unfold fedV; rw [if_neg (by simp only; omega)]
                have d5 : decide (xi ≤ 999999999 - A) = false := decide_eq_false (by omega)
                go_wp2_with fail
                go_quiet (fail)
                go_wp2_with (at_builtin; refine wpList_append_own _ rfl _ _ 22 rfl W0.heap.size 69 i0 (.agg #[.int .i64 0, .int .i64 0, .bool false]) 3 24 Try.underlying22 hi hz0 hz1 hz2 rfl (by decide) _ _ _ rfl (own_below hown (below_more (below_drewN (below_more (Below.refl _ _) _) _) _)) ⟨wr.heap.size + 1, 0, none⟩ 1 1 (vcell ⟨xi, xo, xm⟩) rfl rfl (by have := cell_three_new ((wr.alloc (.cells #[.int .i64 xi, .int .i64 xo, .bool xm] 69)).drewN nq) (.int .i64 (xi)) (.int .i64 xo) (.bool xm) 69; simpa [vcell] using this) (fun x hx => by simp [vcell] at hx; rcases hx with rfl | rfl | rfl <;> rfl) hkm (by omega) (by simp; omega) ?_; intro v' w4 own4 g4 nil4; obtain ⟨a4, cap4, rfl⟩ := own_slice own4)
                go_roundw
                case rel => exact ⟨k + 1, by go_num, by omega, by rw [HF.out, HG.out, vcs_snoc]; exact own4, Below.grown (below_then hbw (below_more (below_drewN (below_more (Below.refl _ _) _) _) _)) g4 (by simp; omega) (fun j hj => hoN j hj)⟩
                case measure => simp [intOf]; omega
            · have HG : Hid (fedV ⟨xi, xo, xm⟩ A = ⟨xi, xo, xm⟩) := by show _ = _; unfold fedV; rw [if_neg (by simp only; omega)]
              have d4 : decide (0 ≤ xi) = false := decide_eq_false (by omega)
              go_wp2_with fail
              go_quiet (fail)
              go_wp2_with (at_builtin; refine wpList_append_own _ rfl _ _ 22 rfl W0.heap.size 69 i0 (.agg #[.int .i64 0, .int .i64 0, .bool false]) 3 24 Try.underlying22 hi hz0 hz1 hz2 rfl (by decide) _ _ _ rfl (own_below hown (below_more (below_drewN (below_more (Below.refl _ _) _) _) _)) ⟨wr.heap.size + 1, 0, none⟩ 1 1 (vcell ⟨xi, xo, xm⟩) rfl rfl (by have := cell_three_new ((wr.alloc (.cells #[.int .i64 xi, .int .i64 xo, .bool xm] 69)).drewN nq) (.int .i64 (xi)) (.int .i64 xo) (.bool xm) 69; simpa [vcell] using this) (fun x hx => by simp [vcell] at hx; rcases hx with rfl | rfl | rfl <;> rfl) hkm (by omega) (by simp; omega) ?_; intro v' w4 own4 g4 nil4; obtain ⟨a4, cap4, rfl⟩ := own_slice own4)
              go_roundw
              case rel => exact ⟨k + 1, by go_num, by omega, by rw [HF.out, HG.out, vcs_snoc]; exact own4, Below.grown (below_then hbw (below_more (below_drewN (below_more (Below.refl _ _) _) _) _)) g4 (by simp; omega) (fun j hj => hoN j hj)⟩
              case measure => simp [intOf]; omega
          · have HG : Hid (fedV ⟨xi, xo, xm⟩ A = ⟨xi, xo, xm⟩) := by show _ = _; unfold fedV; rw [if_neg (by simp only; omega)]
            have d3 : decide (A ≤ 999999999) = false := decide_eq_false (by omega)
            go_wp2_with fail
            go_quiet (fail)
            go_wp2_with (at_builtin; refine wpList_append_own _ rfl _ _ 22 rfl W0.heap.size 69 i0 (.agg #[.int .i64 0, .int .i64 0, .bool false]) 3 24 Try.underlying22 hi hz0 hz1 hz2 rfl (by decide) _ _ _ rfl (own_below hown (below_more (below_drewN (below_more (Below.refl _ _) _) _) _)) ⟨wr.heap.size + 1, 0, none⟩ 1 1 (vcell ⟨xi, xo, xm⟩) rfl rfl (by have := cell_three_new ((wr.alloc (.cells #[.int .i64 xi, .int .i64 xo, .bool xm] 69)).drewN nq) (.int .i64 (xi)) (.int .i64 xo) (.bool xm) 69; simpa [vcell] using this) (fun x hx => by simp [vcell] at hx; rcases hx with rfl | rfl | rfl <;> rfl) hkm (by omega) (by simp; omega) ?_; intro v' w4 own4 g4 nil4; obtain ⟨a4, cap4, rfl⟩ := own_slice own4)
            go_roundw
            case rel => exact ⟨k + 1, by go_num, by omega, by rw [HF.out, HG.out, vcs_snoc]; exact own4, Below.grown (below_then hbw (below_more (below_drewN (below_more (Below.refl _ _) _) _) _)) g4 (by simp; omega) (fun j hj => hoN j hj)⟩
            case measure => simp [intOf]; omega
        · have HG : Hid (fedV ⟨xi, xo, xm⟩ A = ⟨xi, xo, xm⟩) := by show _ = _; unfold fedV; rw [if_neg (by simp only; omega)]
          have d2 : decide (0 < A) = false := decide_eq_false (by omega)
          go_wp2_with fail
          go_quiet (fail)
          go_wp2_with (at_builtin; refine wpList_append_own _ rfl _ _ 22 rfl W0.heap.size 69 i0 (.agg #[.int .i64 0, .int .i64 0, .bool false]) 3 24 Try.underlying22 hi hz0 hz1 hz2 rfl (by decide) _ _ _ rfl (own_below hown (below_more (below_drewN (below_more (Below.refl _ _) _) _) _)) ⟨wr.heap.size + 1, 0, none⟩ 1 1 (vcell ⟨xi, xo, xm⟩) rfl rfl (by have := cell_three_new ((wr.alloc (.cells #[.int .i64 xi, .int .i64 xo, .bool xm] 69)).drewN nq) (.int .i64 (xi)) (.int .i64 xo) (.bool xm) 69; simpa [vcell] using this) (fun x hx => by simp [vcell] at hx; rcases hx with rfl | rfl | rfl <;> rfl) hkm (by omega) (by simp; omega) ?_; intro v' w4 own4 g4 nil4; obtain ⟨a4, cap4, rfl⟩ := own_slice own4)
          go_roundw
          case rel => exact ⟨k + 1, by go_num, by omega, by rw [HF.out, HG.out, vcs_snoc]; exact own4, Below.grown (below_then hbw (below_more (below_drewN (below_more (Below.refl _ _) _) _) _)) g4 (by simp; omega) (fun j hj => hoN j hj)⟩
          case measure => simp [intOf]; omega
      · have q1' : ¬ (k : Int) < (add.length : Int) := by omega
        have HG : Hid (fedV ⟨xi, xo, xm⟩ (add.getD k 0) = ⟨xi, xo, xm⟩) := by
          show _ = _
          rw [List.getD_eq_getElem?_getD, List.getElem?_eq_none (by omega)]; simp [fedV]
        go_wp2_with fail
        go_quiet (fail)
        go_wp2_with (at_builtin; refine wpList_append_own _ rfl _ _ 22 rfl W0.heap.size 69 i0 (.agg #[.int .i64 0, .int .i64 0, .bool false]) 3 24 Try.underlying22 hi hz0 hz1 hz2 rfl (by decide) _ _ _ rfl (own_below hown (below_more (below_drewN (below_more (Below.refl _ _) _) _) _)) ⟨wr.heap.size + 1, 0, none⟩ 1 1 (vcell ⟨xi, xo, xm⟩) rfl rfl (by have := cell_three_new ((wr.alloc (.cells #[.int .i64 xi, .int .i64 xo, .bool xm] 69)).drewN nq) (.int .i64 (xi)) (.int .i64 xo) (.bool xm) 69; simpa [vcell] using this) (fun x hx => by simp [vcell] at hx; rcases hx with rfl | rfl | rfl <;> rfl) hkm (by omega) (by simp; omega) ?_; intro v' w4 own4 g4 nil4; obtain ⟨a4, cap4, rfl⟩ := own_slice own4)
        go_roundw
        case rel => exact ⟨k + 1, by go_num, by omega, by rw [HF.out, HG.out, vcs_snoc]; exact own4, Below.grown (below_then hbw (below_more (below_drewN (below_more (Below.refl _ _) _) _) _)) g4 (by simp; omega) (fun j hj => hoN j hj)⟩
        case measure => simp [intOf]; omega
    · have hlt' : ¬ (k : Int) < (l.length : Int) := by omega
      have HKE : Hid (k = l.length) := (by omega : k = l.length)
      have r0 : wr.cell? ⟨w.heap.size + 1, 0, none⟩ = some (.int .i64 0) := cell_of_row _ _ _ _ _ _ ((hbw.block (w.heap.size + 1) (by omega)).trans HR1.out)
      have r1 : wr.cell? ⟨w.heap.size + 1, 1, none⟩ = some (.int .i64 0) := cell_of_row _ _ _ _ _ _ ((hbw.block (w.heap.size + 1) (by omega)).trans HR1.out)
      have r2 : wr.cell? ⟨w.heap.size + 1, 2, none⟩ = some (.slice none 0 0) := cell_of_row _ _ _ _ _ _ ((hbw.block (w.heap.size + 1) (by omega)).trans HR1.out)
      have f0 : wr.frozen? ⟨w.heap.size + 1, 0, none⟩ = false := frozen_of_row _ _ _ _ _ ((hbw.block (w.heap.size + 1) (by omega)).trans HR1.out)
      have f1 : wr.frozen? ⟨w.heap.size + 1, 1, none⟩ = false := frozen_of_row _ _ _ _ _ ((hbw.block (w.heap.size + 1) (by omega)).trans HR1.out)
      have f2 : wr.frozen? ⟨w.heap.size + 1, 2, none⟩ = false := frozen_of_row _ _ _ _ _ ((hbw.block (w.heap.size + 1) (by omega)).trans HR1.out)
      have m0 : wr.cell? ⟨w.heap.size, 0, none⟩ = some (.int .i64 step) := cell_of_row _ _ _ _ _ _ HRr.out
      have m1 : wr.cell? ⟨w.heap.size, 1, none⟩ = some (.int .i64 start) := cell_of_row _ _ _ _ _ _ HRr.out
      go_wp2_with fail
      refine bodyPost_ret (v := .agg #[.int .i64 step, .int .i64 start, .slice a0 k cap0]) (by simp [results, Try.results23, go_sem, r0, r1, r2]) rfl ⟨_, rfl, ?_, ?_⟩
      · have own2 : ((((wr.setCell ⟨w.heap.size + 1, 0, none⟩ (.int .i64 step)).setCell ⟨w.heap.size + 1, 1, none⟩ (.int .i64 start)).setCell ⟨w.heap.size + 1, 2, none⟩ (.slice a0 k cap0))).ownsRow W0.heap.size 69 3 (.slice a0 k cap0) k (vcs (fedK l add k)) := ownsRow_setCell_below (ownsRow_setCell_below (ownsRow_setCell_below hown (by simp; omega) _) (by simp; omega) _) (by simp; omega) _
        rw [HKE.out] at own2 ⊢
        exact VRow.of_own own2 (fedK_len _ _ _)
      · exact Below.setCell (Below.setCell (Below.setCell (below_then B0 hbw) (by simp) _) (by simp) _) (by simp) _

end Go.Proofs.Ytjaffmmocbplaab.more

namespace Go.Proofs.Ytjaffmmocbplaab.more
open Go.RowKit Bil
set_option linter.unusedVariables false
attribute [local go_sem ↓] Go.wp_at_zero Go.wp_at_succ

set_option maxRecDepth 1000000 in
set_option maxHeartbeats 2000000 in
theorem walk_no (t : Trf) (step start : Int) (v va : Value) (l : List Txt.Val) (add : List Int) (w : World) (h : VRow w v l) (ha : IRow w va add) (hreach : l.length * 24 ≤ 140737488351232) (s0 : t.h0.size ≤ maxLen) (s1 : t.h1.size ≤ maxLen) (s2 : t.h2.size ≤ maxLen) (s3 : t.h3.size ≤ maxLen) (hne : ¬ spE t step start l = 0) :
    Calls Try.prog 9 #[.agg #[.int .i64 step, .int .i64 start, v], .agg #[.int .i64 t.z.off, .int .i64 t.z.f.m, .int .i64 t.z.f.w, .int .i64 t.z.f.d, .int .i64 t.z.f.h, .int .i64 t.z.t.m, .int .i64 t.z.t.w, .int .i64 t.z.t.d, .int .i64 t.z.t.h, .int .i64 t.days, .int .i64 t.gap, .int .i64 t.first, .int .i64 t.last, .string t.h0, .string t.h1, .string t.h2, .string t.h3, .int .i64 t.b0.x, .int .i64 t.b0.y, .int .i64 t.b0.z, .int .i64 t.b1.x, .int .i64 t.b1.y, .int .i64 t.b1.z, .int .i64 t.b2.x, .int .i64 t.b2.y, .int .i64 t.b2.z, .int .i64 t.d.x, .int .i64 t.d.y, .int .i64 t.d.z, .int .i64 t.np, .int .i64 t.nn, .int .i64 t.fix, .int .i64 t.min, .int .i64 t.tax], va] w fun e w' => e = .returned (.bool true) ∧ Below w.heap.size w w' := by
  obtain ⟨M1, M2, M3⟩ := more (t := t) (step := step) (start := start) (fed_le l add)
  have fd := fun w1 (hb : Below w.heap.size w w1) => fed_any step start v va l add w1 (h.below hb) (ha.below hb) hreach
  have b1 := fun w1 (hb : Below w.heap.size w w1) => Bill_no t step start v l w1 (h.below hb) s0 s1 s2 s3 hne
  have b2 := fun w1 v' (V : VRow w1 v' (fedK l add l.length)) => Bill_no t step start v' (fedK l add l.length) w1 V s0 s1 s2 s3 (by rw [M1]; exact hne)
  rw [M1] at b2
  obtain ⟨l2, hl2⟩ : ∃ l2, l2 = fedK l add l.length := ⟨_, rfl⟩
  rw [← hl2] at fd b2
  obtain ⟨a, cap, rfl⟩ := h.form
  obtain ⟨aa, acap, rfl⟩ := ha.form
  obtain ⟨E, hE⟩ : ∃ E, E = spE t step start l := ⟨_, rfl⟩
  obtain ⟨A, hA⟩ : ∃ A, A = spA t step start l := ⟨_, rfl⟩
  obtain ⟨A2, hA2⟩ : ∃ A, A = spA t step start l2 := ⟨_, rfl⟩
  rw [← hE, ← hA] at b1
  rw [← hE, ← hA2] at b2
  rw [← hE] at hne
  have hEB : (E != 0) = true := by simpa using hne
  have B0 : Below w.heap.size w ((w.alloc (.cells #[.int .i64 step, .int .i64 start, .slice a l.length cap] 24)).alloc (.cells #[.int .i64 t.z.off, .int .i64 t.z.f.m, .int .i64 t.z.f.w, .int .i64 t.z.f.d, .int .i64 t.z.f.h, .int .i64 t.z.t.m, .int .i64 t.z.t.w, .int .i64 t.z.t.d, .int .i64 t.z.t.h, .int .i64 t.days, .int .i64 t.gap, .int .i64 t.first, .int .i64 t.last, .string t.h0, .string t.h1, .string t.h2, .string t.h3, .int .i64 t.b0.x, .int .i64 t.b0.y, .int .i64 t.b0.z, .int .i64 t.b1.x, .int .i64 t.b1.y, .int .i64 t.b1.z, .int .i64 t.b2.x, .int .i64 t.b2.y, .int .i64 t.b2.z, .int .i64 t.d.x, .int .i64 t.d.y, .int .i64 t.d.z, .int .i64 t.np, .int .i64 t.nn, .int .i64 t.fix, .int .i64 t.min, .int .i64 t.tax] 38)) := below_more (below_more (Below.refl _ _) _) _
  have MT : ((w.alloc (.cells #[.int .i64 step, .int .i64 start, .slice a l.length cap] 24)).alloc (.cells #[.int .i64 t.z.off, .int .i64 t.z.f.m, .int .i64 t.z.f.w, .int .i64 t.z.f.d, .int .i64 t.z.f.h, .int .i64 t.z.t.m, .int .i64 t.z.t.w, .int .i64 t.z.t.d, .int .i64 t.z.t.h, .int .i64 t.days, .int .i64 t.gap, .int .i64 t.first, .int .i64 t.last, .string t.h0, .string t.h1, .string t.h2, .string t.h3, .int .i64 t.b0.x, .int .i64 t.b0.y, .int .i64 t.b0.z, .int .i64 t.b1.x, .int .i64 t.b1.y, .int .i64 t.b1.z, .int .i64 t.b2.x, .int .i64 t.b2.y, .int .i64 t.b2.z, .int .i64 t.d.x, .int .i64 t.d.y, .int .i64 t.d.z, .int .i64 t.np, .int .i64 t.nn, .int .i64 t.fix, .int .i64 t.min, .int .i64 t.tax] 38)).heap[w.heap.size + 1]? = some (.cells #[.int .i64 t.z.off, .int .i64 t.z.f.m, .int .i64 t.z.f.w, .int .i64 t.z.f.d, .int .i64 t.z.f.h, .int .i64 t.z.t.m, .int .i64 t.z.t.w, .int .i64 t.z.t.d, .int .i64 t.z.t.h, .int .i64 t.days, .int .i64 t.gap, .int .i64 t.first, .int .i64 t.last, .string t.h0, .string t.h1, .string t.h2, .string t.h3, .int .i64 t.b0.x, .int .i64 t.b0.y, .int .i64 t.b0.z, .int .i64 t.b1.x, .int .i64 t.b1.y, .int .i64 t.b1.z, .int .i64 t.b2.x, .int .i64 t.b2.y, .int .i64 t.b2.z, .int .i64 t.d.x, .int .i64 t.d.y, .int .i64 t.d.z, .int .i64 t.np, .int .i64 t.nn, .int .i64 t.fix, .int .i64 t.min, .int .i64 t.tax] 38) := heap_alloc2_new _ _ _
  have MM : ((w.alloc (.cells #[.int .i64 step, .int .i64 start, .slice a l.length cap] 24)).alloc (.cells #[.int .i64 t.z.off, .int .i64 t.z.f.m, .int .i64 t.z.f.w, .int .i64 t.z.f.d, .int .i64 t.z.f.h, .int .i64 t.z.t.m, .int .i64 t.z.t.w, .int .i64 t.z.t.d, .int .i64 t.z.t.h, .int .i64 t.days, .int .i64 t.gap, .int .i64 t.first, .int .i64 t.last, .string t.h0, .string t.h1, .string t.h2, .string t.h3, .int .i64 t.b0.x, .int .i64 t.b0.y, .int .i64 t.b0.z, .int .i64 t.b1.x, .int .i64 t.b1.y, .int .i64 t.b1.z, .int .i64 t.b2.x, .int .i64 t.b2.y, .int .i64 t.b2.z, .int .i64 t.d.x, .int .i64 t.d.y, .int .i64 t.d.z, .int .i64 t.np, .int .i64 t.nn, .int .i64 t.fix, .int .i64 t.min, .int .i64 t.tax] 38)).heap[w.heap.size]? = some (.cells #[.int .i64 step, .int .i64 start, .slice a l.length cap] 24) := (heap_alloc_old _ _ (by simp)).trans (heap_alloc_new _ _)
  clear hE hA hA2 hne h ha hl2 M1 M2 M3 hreach s0 s1 s2 s3
  go_enter Try.func9, Try.ntmps9
  go_wp2_with (first
    | (go_at_call 23; refine (fd _ B0).mono ?_; rintro e w1 ⟨v1, rfl, V1, hb1⟩; obtain ⟨a1, cap1, rfl⟩ := V1.form; have hs1 : w.heap.size + 1 < w1.heap.size := (by have := hb1.size; simp at this; omega); have hs1' : w.heap.size < w1.heap.size := (by omega); have RM1 := hideF ((hb1.block w.heap.size (by simp; omega)).trans MM); have m0 : w1.cell? ⟨w.heap.size, 0, none⟩ = some (.int .i64 step) := cell_of_row _ _ _ _ _ _ RM1.out; have m1 : w1.cell? ⟨w.heap.size, 1, none⟩ = some (.int .i64 start) := cell_of_row _ _ _ _ _ _ RM1.out; have m2 : w1.cell? ⟨w.heap.size, 2, none⟩ = some (.slice a l.length cap) := cell_of_row _ _ _ _ _ _ RM1.out; have MT1 : (w1.alloc (.cells #[.int .i64 step, .int .i64 start, .slice a1 l2.length cap1] 24)).heap[w.heap.size + 1]? = some (.cells #[.int .i64 t.z.off, .int .i64 t.z.f.m, .int .i64 t.z.f.w, .int .i64 t.z.f.d, .int .i64 t.z.f.h, .int .i64 t.z.t.m, .int .i64 t.z.t.w, .int .i64 t.z.t.d, .int .i64 t.z.t.h, .int .i64 t.days, .int .i64 t.gap, .int .i64 t.first, .int .i64 t.last, .string t.h0, .string t.h1, .string t.h2, .string t.h3, .int .i64 t.b0.x, .int .i64 t.b0.y, .int .i64 t.b0.z, .int .i64 t.b1.x, .int .i64 t.b1.y, .int .i64 t.b1.z, .int .i64 t.b2.x, .int .i64 t.b2.y, .int .i64 t.b2.z, .int .i64 t.d.x, .int .i64 t.d.y, .int .i64 t.d.z, .int .i64 t.np, .int .i64 t.nn, .int .i64 t.fix, .int .i64 t.min, .int .i64 t.tax] 38) := (heap_alloc_old _ _ hs1).trans ((hb1.block (w.heap.size + 1) (by simp)).trans MT); have B1 := below_then B0 hb1)
    | (with_reducible show wpList _ _ _ _ _ (w1.alloc (.cells #[.int .i64 step, .int .i64 start, .slice a1 l2.length cap1] 24)); refine wpList_load_row rfl 38 _ rfl (w.heap.size + 1) rfl 38 _ (0, 0) _ MT1 Try.underlying38 rfl (by kernel_rfl) ?_)
    | (with_reducible show wpList _ _ _ _ _ w2; refine wpList_load_row rfl 38 _ rfl (w.heap.size + 1) rfl 38 _ (0, 0) _ MT2 Try.underlying38 rfl (by kernel_rfl) ?_)
    | (go_at_call 19; have _ := MT2; refine (b2 _ _ (V1.below hb12)).mono ?_; rintro e w3 ⟨rfl, hb3⟩)
    | (go_at_call 19; refine (b1 _ (below_more B1 _)).mono ?_; rintro e w2 ⟨rfl, hb2⟩; have MT2 : w2.heap[w.heap.size + 1]? = some (.cells #[.int .i64 t.z.off, .int .i64 t.z.f.m, .int .i64 t.z.f.w, .int .i64 t.z.f.d, .int .i64 t.z.f.h, .int .i64 t.z.t.m, .int .i64 t.z.t.w, .int .i64 t.z.t.d, .int .i64 t.z.t.h, .int .i64 t.days, .int .i64 t.gap, .int .i64 t.first, .int .i64 t.last, .string t.h0, .string t.h1, .string t.h2, .string t.h3, .int .i64 t.b0.x, .int .i64 t.b0.y, .int .i64 t.b0.z, .int .i64 t.b1.x, .int .i64 t.b1.y, .int .i64 t.b1.z, .int .i64 t.b2.x, .int .i64 t.b2.y, .int .i64 t.b2.z, .int .i64 t.d.x, .int .i64 t.d.y, .int .i64 t.d.z, .int .i64 t.np, .int .i64 t.nn, .int .i64 t.fix, .int .i64 t.min, .int .i64 t.tax] 38) := (hb2.block (w.heap.size + 1) (by simp; omega)).trans MT1; have RN := hideF ((hb2.block w1.heap.size (by simp)).trans (heap_alloc_new _ _)); have n0 : w2.cell? ⟨w1.heap.size, 0, none⟩ = some (.int .i64 step) := cell_of_row _ _ _ _ _ _ RN.out; have n1 : w2.cell? ⟨w1.heap.size, 1, none⟩ = some (.int .i64 start) := cell_of_row _ _ _ _ _ _ RN.out; have n2 : w2.cell? ⟨w1.heap.size, 2, none⟩ = some (.slice a1 l2.length cap1) := cell_of_row _ _ _ _ _ _ RN.out; have hb12 := below_then (below_more (Below.refl w1.heap.size w1) (.cells #[.int .i64 step, .int .i64 start, .slice a1 l2.length cap1] 24)) hb2)
    | (go_at_call 16; refine (num_any _ _).mono ?_; rintro e w7 ⟨rfl, h7⟩; have h8 := h7.symm; subst h8))
  go_ret
  exact ⟨rfl, below_then (below_then B1 hb12) hb3⟩

set_option maxRecDepth 1000000 in
set_option maxHeartbeats 2000000 in
theorem walk_yes (t : Trf) (step start : Int) (v va : Value) (l : List Txt.Val) (add : List Int) (w : World) (h : VRow w v l) (ha : IRow w va add) (hreach : l.length * 24 ≤ 140737488351232) (s0 : t.h0.size ≤ maxLen) (s1 : t.h1.size ≤ maxLen) (s2 : t.h2.size ≤ maxLen) (s3 : t.h3.size ≤ maxLen) (hz : spE t step start l = 0) :
    Calls Try.prog 9 #[.agg #[.int .i64 step, .int .i64 start, v], .agg #[.int .i64 t.z.off, .int .i64 t.z.f.m, .int .i64 t.z.f.w, .int .i64 t.z.f.d, .int .i64 t.z.f.h, .int .i64 t.z.t.m, .int .i64 t.z.t.w, .int .i64 t.z.t.d, .int .i64 t.z.t.h, .int .i64 t.days, .int .i64 t.gap, .int .i64 t.first, .int .i64 t.last, .string t.h0, .string t.h1, .string t.h2, .string t.h3, .int .i64 t.b0.x, .int .i64 t.b0.y, .int .i64 t.b0.z, .int .i64 t.b1.x, .int .i64 t.b1.y, .int .i64 t.b1.z, .int .i64 t.b2.x, .int .i64 t.b2.y, .int .i64 t.b2.z, .int .i64 t.d.x, .int .i64 t.d.y, .int .i64 t.d.z, .int .i64 t.np, .int .i64 t.nn, .int .i64 t.fix, .int .i64 t.min, .int .i64 t.tax], va] w fun e w' => e = .returned (.bool true) ∧ Below w.heap.size w w' := by
  obtain ⟨M1, M2, M3⟩ := more (t := t) (step := step) (start := start) (fed_le l add)
  have fd := fun w1 (hb : Below w.heap.size w w1) => fed_any step start v va l add w1 (h.below hb) (ha.below hb) hreach
  have b1 := fun w1 (hb : Below w.heap.size w w1) => Bill_yes t step start v l w1 (h.below hb) s0 s1 s2 s3 hz
  have b2 := fun w1 v' (V : VRow w1 v' (fedK l add l.length)) => Bill_yes t step start v' (fedK l add l.length) w1 V s0 s1 s2 s3 (M1.trans hz)
  have ok := bok hz
  have M3' := M3 hz
  obtain ⟨a, cap, rfl⟩ := h.form
  obtain ⟨aa, acap, rfl⟩ := ha.form
  obtain ⟨l2, hl2⟩ : ∃ l2, l2 = fedK l add l.length := ⟨_, rfl⟩
  rw [← hl2] at fd b2 M2 M3'
  obtain ⟨ps, hps⟩ : ∃ ps, ps = spL t step start l := ⟨_, rfl⟩
  rw [← hps] at b1 M2 M3' ok
  obtain ⟨qs, hqs⟩ : ∃ qs, qs = spL t step start l2 := ⟨_, rfl⟩
  rw [← hqs] at b2 M2 M3'
  rw [M2] at b2
  obtain ⟨pn1, pn2⟩ := ok.n
  have pn3 : (0 : Int) < (ps.length : Int) := by omega
  have HM3 := hideF M3'
  have HH := hideF h
  have B0 : Below w.heap.size w ((w.alloc (.cells #[.int .i64 step, .int .i64 start, .slice a l.length cap] 24)).alloc (.cells #[.int .i64 t.z.off, .int .i64 t.z.f.m, .int .i64 t.z.f.w, .int .i64 t.z.f.d, .int .i64 t.z.f.h, .int .i64 t.z.t.m, .int .i64 t.z.t.w, .int .i64 t.z.t.d, .int .i64 t.z.t.h, .int .i64 t.days, .int .i64 t.gap, .int .i64 t.first, .int .i64 t.last, .string t.h0, .string t.h1, .string t.h2, .string t.h3, .int .i64 t.b0.x, .int .i64 t.b0.y, .int .i64 t.b0.z, .int .i64 t.b1.x, .int .i64 t.b1.y, .int .i64 t.b1.z, .int .i64 t.b2.x, .int .i64 t.b2.y, .int .i64 t.b2.z, .int .i64 t.d.x, .int .i64 t.d.y, .int .i64 t.d.z, .int .i64 t.np, .int .i64 t.nn, .int .i64 t.fix, .int .i64 t.min, .int .i64 t.tax] 38)) := below_more (below_more (Below.refl _ _) _) _
  have MT : ((w.alloc (.cells #[.int .i64 step, .int .i64 start, .slice a l.length cap] 24)).alloc (.cells #[.int .i64 t.z.off, .int .i64 t.z.f.m, .int .i64 t.z.f.w, .int .i64 t.z.f.d, .int .i64 t.z.f.h, .int .i64 t.z.t.m, .int .i64 t.z.t.w, .int .i64 t.z.t.d, .int .i64 t.z.t.h, .int .i64 t.days, .int .i64 t.gap, .int .i64 t.first, .int .i64 t.last, .string t.h0, .string t.h1, .string t.h2, .string t.h3, .int .i64 t.b0.x, .int .i64 t.b0.y, .int .i64 t.b0.z, .int .i64 t.b1.x, .int .i64 t.b1.y, .int .i64 t.b1.z, .int .i64 t.b2.x, .int .i64 t.b2.y, .int .i64 t.b2.z, .int .i64 t.d.x, .int .i64 t.d.y, .int .i64 t.d.z, .int .i64 t.np, .int .i64 t.nn, .int .i64 t.fix, .int .i64 t.min, .int .i64 t.tax] 38)).heap[w.heap.size + 1]? = some (.cells #[.int .i64 t.z.off, .int .i64 t.z.f.m, .int .i64 t.z.f.w, .int .i64 t.z.f.d, .int .i64 t.z.f.h, .int .i64 t.z.t.m, .int .i64 t.z.t.w, .int .i64 t.z.t.d, .int .i64 t.z.t.h, .int .i64 t.days, .int .i64 t.gap, .int .i64 t.first, .int .i64 t.last, .string t.h0, .string t.h1, .string t.h2, .string t.h3, .int .i64 t.b0.x, .int .i64 t.b0.y, .int .i64 t.b0.z, .int .i64 t.b1.x, .int .i64 t.b1.y, .int .i64 t.b1.z, .int .i64 t.b2.x, .int .i64 t.b2.y, .int .i64 t.b2.z, .int .i64 t.d.x, .int .i64 t.d.y, .int .i64 t.d.z, .int .i64 t.np, .int .i64 t.nn, .int .i64 t.fix, .int .i64 t.min, .int .i64 t.tax] 38) := heap_alloc2_new _ _ _
  have MM : ((w.alloc (.cells #[.int .i64 step, .int .i64 start, .slice a l.length cap] 24)).alloc (.cells #[.int .i64 t.z.off, .int .i64 t.z.f.m, .int .i64 t.z.f.w, .int .i64 t.z.f.d, .int .i64 t.z.f.h, .int .i64 t.z.t.m, .int .i64 t.z.t.w, .int .i64 t.z.t.d, .int .i64 t.z.t.h, .int .i64 t.days, .int .i64 t.gap, .int .i64 t.first, .int .i64 t.last, .string t.h0, .string t.h1, .string t.h2, .string t.h3, .int .i64 t.b0.x, .int .i64 t.b0.y, .int .i64 t.b0.z, .int .i64 t.b1.x, .int .i64 t.b1.y, .int .i64 t.b1.z, .int .i64 t.b2.x, .int .i64 t.b2.y, .int .i64 t.b2.z, .int .i64 t.d.x, .int .i64 t.d.y, .int .i64 t.d.z, .int .i64 t.np, .int .i64 t.nn, .int .i64 t.fix, .int .i64 t.min, .int .i64 t.tax] 38)).heap[w.heap.size]? = some (.cells #[.int .i64 step, .int .i64 start, .slice a l.length cap] 24) := (heap_alloc_old _ _ (by simp)).trans (heap_alloc_new _ _)
  have hlB : l.length ≤ 5864062014635 := by omega
  clear hps hqs hl2 M1 M2 M3 M3' h ha ok hz hreach s0 s1 s2 s3
  go_enter Try.func9, Try.ntmps9
  go_wp2_with (first
    | (go_at_call 23; refine (fd _ B0).mono ?_; rintro e w1 ⟨v1, rfl, V1, hb1⟩; obtain ⟨a1, cap1, rfl⟩ := V1.form; have hs1 : w.heap.size + 1 < w1.heap.size := (by have := hb1.size; simp at this; omega); have hs1' : w.heap.size < w1.heap.size := (by omega); have RM1 := hideF ((hb1.block w.heap.size (by simp; omega)).trans MM); have m0 : w1.cell? ⟨w.heap.size, 0, none⟩ = some (.int .i64 step) := cell_of_row _ _ _ _ _ _ RM1.out; have m1 : w1.cell? ⟨w.heap.size, 1, none⟩ = some (.int .i64 start) := cell_of_row _ _ _ _ _ _ RM1.out; have m2 : w1.cell? ⟨w.heap.size, 2, none⟩ = some (.slice a l.length cap) := cell_of_row _ _ _ _ _ _ RM1.out; have MT1 : (w1.alloc (.cells #[.int .i64 step, .int .i64 start, .slice a1 l2.length cap1] 24)).heap[w.heap.size + 1]? = some (.cells #[.int .i64 t.z.off, .int .i64 t.z.f.m, .int .i64 t.z.f.w, .int .i64 t.z.f.d, .int .i64 t.z.f.h, .int .i64 t.z.t.m, .int .i64 t.z.t.w, .int .i64 t.z.t.d, .int .i64 t.z.t.h, .int .i64 t.days, .int .i64 t.gap, .int .i64 t.first, .int .i64 t.last, .string t.h0, .string t.h1, .string t.h2, .string t.h3, .int .i64 t.b0.x, .int .i64 t.b0.y, .int .i64 t.b0.z, .int .i64 t.b1.x, .int .i64 t.b1.y, .int .i64 t.b1.z, .int .i64 t.b2.x, .int .i64 t.b2.y, .int .i64 t.b2.z, .int .i64 t.d.x, .int .i64 t.d.y, .int .i64 t.d.z, .int .i64 t.np, .int .i64 t.nn, .int .i64 t.fix, .int .i64 t.min, .int .i64 t.tax] 38) := (heap_alloc_old _ _ hs1).trans ((hb1.block (w.heap.size + 1) (by simp)).trans MT); have B1 := below_then B0 hb1)
    | (with_reducible show wpList _ _ _ _ _ (w1.alloc (.cells #[.int .i64 step, .int .i64 start, .slice a1 l2.length cap1] 24)); refine wpList_load_row rfl 38 _ rfl (w.heap.size + 1) rfl 38 _ (0, 0) _ MT1 Try.underlying38 rfl (by kernel_rfl) ?_)
    | (with_reducible show wpList _ _ _ _ _ w2; refine wpList_load_row rfl 38 _ rfl (w.heap.size + 1) rfl 38 _ (0, 0) _ MT2 Try.underlying38 rfl (by kernel_rfl) ?_)
    | (go_at_call 19; have _ := MT2; refine (b2 _ _ (V1.below hb12)).mono ?_; rintro e w3 ⟨v3, rfl, own3, hb3⟩; obtain ⟨g3, cap3, rfl, hg3, hg3l⟩ := own3.form (by omega))
    | (go_at_call 19; refine (b1 _ (below_more B1 _)).mono ?_; rintro e w2 ⟨v2, rfl, own2, hb2⟩; obtain ⟨g2, cap2, rfl, hg2, hg2l⟩ := own2.form (by omega); have MT2 : w2.heap[w.heap.size + 1]? = some (.cells #[.int .i64 t.z.off, .int .i64 t.z.f.m, .int .i64 t.z.f.w, .int .i64 t.z.f.d, .int .i64 t.z.f.h, .int .i64 t.z.t.m, .int .i64 t.z.t.w, .int .i64 t.z.t.d, .int .i64 t.z.t.h, .int .i64 t.days, .int .i64 t.gap, .int .i64 t.first, .int .i64 t.last, .string t.h0, .string t.h1, .string t.h2, .string t.h3, .int .i64 t.b0.x, .int .i64 t.b0.y, .int .i64 t.b0.z, .int .i64 t.b1.x, .int .i64 t.b1.y, .int .i64 t.b1.z, .int .i64 t.b2.x, .int .i64 t.b2.y, .int .i64 t.b2.z, .int .i64 t.d.x, .int .i64 t.d.y, .int .i64 t.d.z, .int .i64 t.np, .int .i64 t.nn, .int .i64 t.fix, .int .i64 t.min, .int .i64 t.tax] 38) := (hb2.block (w.heap.size + 1) (by simp; omega)).trans MT1; have RN := hideF ((hb2.block w1.heap.size (by simp)).trans (heap_alloc_new _ _)); have n0 : w2.cell? ⟨w1.heap.size, 0, none⟩ = some (.int .i64 step) := cell_of_row _ _ _ _ _ _ RN.out; have n1 : w2.cell? ⟨w1.heap.size, 1, none⟩ = some (.int .i64 start) := cell_of_row _ _ _ _ _ _ RN.out; have n2 : w2.cell? ⟨w1.heap.size, 2, none⟩ = some (.slice a1 l2.length cap1) := cell_of_row _ _ _ _ _ _ RN.out; have hb12 := below_then (below_more (Below.refl w1.heap.size w1) (.cells #[.int .i64 step, .int .i64 start, .slice a1 l2.length cap1] 24)) hb2)
    | (go_at_call 16; refine (num_any _ _).mono ?_; rintro e w7 ⟨rfl, h7⟩; have h8 := h7.symm; subst h8))
  have BW := below_then (below_then B1 hb12) hb3
  have hs2 := hb12.size
  have hs3 := hb3.size
  have RM3 := hideF ((hb3.block w.heap.size (by omega)).trans ((hb12.block w.heap.size (by omega)).trans RM1.out))
  have UL := hideF (LRow.below (LRow.of_own own2 (lnR_len t ps _)) hb3)
  have UK := hideF (LRow.of_own own3 (lnR_len t qs _))
  have hw3 : w.heap.size < w3.heap.size := by omega
  clear own2 own3 hb3 hb12 hb2 hb1 n0 n1 n2 m0 m1 m2 MT MT1 MT2 MM fd b1 b2 V1 RN RM1 B0 B1
  go_loopw [14] (fun p wr => ∃ k : Nat, p = .int .i64 k ∧ k ≤ l.length ∧ (∀ i, i < k → (Fil.vAt l i).o = 0) ∧ Below w3.heap.size w3 wr) (fun p _ => l.length - (intOf p).toNat)
  case atStart => exact ⟨0, rfl, by omega, fun i hi => by omega, Below.refl _ _⟩
  case round =>
    obtain ⟨k, rfl, hk, hzo, hbw⟩ := hrel
    have HZO := hideF hzo
    clear hzo
    have m2 : wr.cell? ⟨w.heap.size, 2, none⟩ = some (.slice a l.length cap) := vcell_below hbw hw3 (cell_of_row _ _ _ _ _ _ RM3.out)
    by_cases hlt : k < l.length
    · have hlt' : (k : Int) < (l.length : Int) := by omega
      have hk0 : (0 : Int) ≤ (k : Int) := by omega
      obtain ⟨b, off, eb, hcap, hblt, c0, c1', c2⟩ := (HH.out.below (below_then BW hbw)).at (Fil.get_ex hlt)
      subst eb
      have hcap' : (l.length : Int) ≤ (cap : Int) := by omega
      obtain ⟨O, hO⟩ : ∃ O, O = (Fil.vAt l k).o := ⟨_, rfl⟩
      rw [← hO] at c1'
      have c1 := c1'
      have HO := hideF hO
      clear c0 c1' c2 hO
      by_cases ho : O = 0
      · have hOB : (O != 0) = false := by simpa using ho
        have HO0 := hideF ho
        clear ho
        go_wp2_with fail
        go_roundw
        case rel => exact ⟨k + 1, by go_num, by omega, fun i hi => by
          rcases Nat.lt_or_ge i k with q | q
          · exact HZO.out i q
          · have : i = k := by omega
            subst this; rw [← HO.out]; exact HO0.out, hbw⟩
        case measure => simp [intOf]; omega
      · have hOB : (O != 0) = true := by simpa using ho
        go_wp2_with fail
        go_ret
        exact ⟨ret_bool (by simp; omega), below_then BW hbw⟩
    · have hlt' : ¬ (k : Int) < (l.length : Int) := by omega
      have TO := hideF (HM3.out (fun i => by
        by_cases hi : i < l.length
        · exact HZO.out i (by omega)
        · rw [vAt_out hi]))
      go_wp2_with fail
      go_loopw [15] (fun p wi => ∃ j : Nat, p = .int .i64 j ∧ j ≤ ps.length ∧ Below w3.heap.size w3 wi) (fun p _ => ps.length - (intOf p).toNat)
      case atStart => exact ⟨0, rfl, by omega, hbw⟩
      case round =>
        clear hbw m2
        obtain ⟨j, rfl, hj, hbw⟩ := hrel
        by_cases hjl : j < ps.length
        · have hjl' : (j : Int) < (ps.length : Int) := by omega
          have hj0 : (0 : Int) ≤ (j : Int) := by omega
          obtain ⟨b2, eb2, hcap2, hb2lt, cc⟩ := (UL.out.below hbw).at (lnR_get t ps ps.length j hjl)
          obtain ⟨b3, eb3, hcap3, hb3lt, dd⟩ := (UK.out.below hbw).at (lnR_get t qs ps.length j hjl)
          injection eb2 with eb2
          injection eb2 with eb2 _ _
          injection eb3 with eb3
          injection eb3 with eb3 _ _
          subst eb2 eb3
          have hcap2' : (ps.length : Int) ≤ (cap2 : Int) := by omega
          have hcap3' : (ps.length : Int) ≤ (cap3 : Int) := by omega
          have c14 : wr.cell? ⟨g2, j * 15 + 14, none⟩ = some (.int .i64 (lnAt t ps j).to) := cc 14 _ rfl
          have d14 : wr.cell? ⟨g3, j * 15 + 14, none⟩ = some (.int .i64 (lnAt t qs j).to) := dd 14 _ rfl
          have hto := TO.out j
          obtain ⟨X, hX⟩ : ∃ X, X = (lnAt t ps j).to := ⟨_, rfl⟩
          obtain ⟨Y, hY⟩ : ∃ Y, Y = (lnAt t qs j).to := ⟨_, rfl⟩
          rw [← hX] at c14 hto
          rw [← hY] at d14 hto
          have hno : ¬ Y < X := by omega
          clear cc dd hX hY
          go_wp2_with fail
          go_quiet (fail)
          go_wp2_with fail
          go_roundw
          case rel => exact ⟨j + 1, by go_num, by omega, by first | exact below_drewN hbw _ | exact Below.drew hbw⟩
          case measure => simp [intOf]; omega
        · have hjl' : ¬ (j : Int) < (ps.length : Int) := by omega
          go_wp2_with fail
          go_ret
          exact ⟨ret_bool (by simp; omega), below_then BW hbw⟩

theorem walk (t : Trf) (step start : Int) (v va : Value) (l : List Txt.Val) (add : List Int) (w : World) (h : VRow w v l) (ha : IRow w va add) (hreach : l.length * 24 ≤ 140737488351232) (s0 : t.h0.size ≤ maxLen) (s1 : t.h1.size ≤ maxLen) (s2 : t.h2.size ≤ maxLen) (s3 : t.h3.size ≤ maxLen) :
    Calls Try.prog 9 #[.agg #[.int .i64 step, .int .i64 start, v], .agg #[.int .i64 t.z.off, .int .i64 t.z.f.m, .int .i64 t.z.f.w, .int .i64 t.z.f.d, .int .i64 t.z.f.h, .int .i64 t.z.t.m, .int .i64 t.z.t.w, .int .i64 t.z.t.d, .int .i64 t.z.t.h, .int .i64 t.days, .int .i64 t.gap, .int .i64 t.first, .int .i64 t.last, .string t.h0, .string t.h1, .string t.h2, .string t.h3, .int .i64 t.b0.x, .int .i64 t.b0.y, .int .i64 t.b0.z, .int .i64 t.b1.x, .int .i64 t.b1.y, .int .i64 t.b1.z, .int .i64 t.b2.x, .int .i64 t.b2.y, .int .i64 t.b2.z, .int .i64 t.d.x, .int .i64 t.d.y, .int .i64 t.d.z, .int .i64 t.np, .int .i64 t.nn, .int .i64 t.fix, .int .i64 t.min, .int .i64 t.tax], va] w fun e w' => e = .returned (.bool true) ∧ Below w.heap.size w w' := by
  by_cases hz : spE t step start l = 0
  · exact walk_yes t step start v va l add w h ha hreach s0 s1 s2 s3 hz
  · exact walk_no t step start v va l add w h ha hreach s0 s1 s2 s3 hz

end Go.Proofs.Ytjaffmmocbplaab.more

namespace Go.Proofs.Ytjaffmmocbplaab.more
open Go.ChangeShapes Go.WideShapes Go.ChangeAt Go.RowKit
set_option linter.unusedVariables false

theorem own : ownKnob Try.prog.godebug = none := by kernel_rfl
theorem laidOut : laidOutB Try.prog = true := by kernel_rfl
set_option maxRecDepth 100000 in
theorem open_add {H : Type} {enc : TypeId × Value → H} {w : World} {base : Nat} {spare : Nat → Bool} {held : Bool} {r : Reach} {b0 : Nat} {v : Value} {d : DataW H} {p : List MemPlace} (hv : Value.okWide Try.prog w r b0 81 v) (h : DataW.Trod enc Try.prog w base spare held 81 v d p) : ∃ add, IRow w v add := by
  obtain ⟨a0, len, cap, rfl⟩ := okWide_slice Try.underlying81 hv
  obtain ⟨fuel, hf⟩ := h
  rcases open_ints Try.underlying81 Try.underlying3 cells3 hf with ⟨hcs, hx⟩ | ⟨a, len', cap', zs, hcs, _, hl, hm, hz, hx, hcell, hwz⟩
  · refine ⟨[], none, 0, ?_, .inl rfl⟩
    simpa [Value.cells] using hcs
  · have e : Value.slice a0 len cap = .slice (some a) len' cap' := by simpa [Value.cells] using hcs
    cases e
    have hlz : len ≤ zs.length := by rw [hz]; split <;> omega
    have hlt : (zs.take len).length = len := by rw [List.length_take]; omega
    refine ⟨zs.take len, some a, cap, by rw [hlt], ?_⟩
    rcases Nat.eq_zero_or_pos len with h0 | h0
    · left; subst h0; rfl
    · right
      have c0 := hcell 0 (by omega)
      have hs : a.spot = none := by
        have := World.cell?_spot c0
        simpa [Addr.add] using this
      obtain ⟨ab, ao, asp⟩ := a
      simp only at hs; subst hs
      refine ⟨ab, ao, rfl, by omega, ?_, fun i hi => ?_⟩
      · have := World.block_lt_of_cell? w _ c0
        simpa [Addr.add] using this
      · have hi' : i < len := by omega
        have c := hcell i (by omega)
        have ea : (⟨ab, ao, none⟩ : Addr).add i = ⟨ab, ao + i, none⟩ := by unfold Addr.add; split <;> simp_all
        rw [ea] at c
        rw [c]
        congr 2
        rw [List.getD_eq_getElem?_getD, List.getD_eq_getElem?_getD, List.getElem?_take_of_lt hi']

/-! ### THE ROW's STEP -/
set_option maxRecDepth 100000 in
theorem lifted (os : Os) (started : os.Started) (H : Type) (enc : TypeId × Value → H) :
    ReturnsInHanded {} Try.checked os 9 .any (Rows.moreSpec.pre6 enc Try.prog Try.f9 Rows.moreRow.domain false) (Rows.moreSpec.post enc Try.prog Try.f9 false true false false) := by
  refine returnsInHanded_of_change_sized (C := Try.checked) own started (by kernel_rfl) Try.func9
    (ChangeSpec.witness6 (enc := enc) (C := Try.checked) false ⟨#[], #[.agg #[.int .i64 0, .int .i64 0, .slice none 0 0], .agg #[.int .i64 0, .int .i64 0, .int .i64 0, .int .i64 0, .int .i64 0, .int .i64 0, .int .i64 0, .int .i64 0, .int .i64 0, .int .i64 0, .int .i64 0, .int .i64 0, .int .i64 0, .string ByteArray.empty, .string ByteArray.empty, .string ByteArray.empty, .string ByteArray.empty, .int .i64 0, .int .i64 0, .int .i64 0, .int .i64 0, .int .i64 0, .int .i64 0, .int .i64 0, .int .i64 0, .int .i64 0, .int .i64 0, .int .i64 0, .int .i64 0, .int .i64 0, .int .i64 0, .int .i64 0, .int .i64 0, .int .i64 0], .slice none 0 0], []⟩ 8 (by kernel_rfl) (by kernel_rfl) (by kernel_rfl) (by kernel_rfl)) ?_
  intro W base args ds gs before hval0 hW hcnd hsz0 _
  have hsz : (DataW.weightsEach Try.prog (Try.f9.params.toList ++ Rows.moreSpec.plain.varTypes Try.prog) (ds ++ gs)).all (· ≤ reachBytes) = true := hsz0
  have hval : ∀ (j : Nat) t v, Try.f9.params[j]? = some t → args[j]? = some v → Value.okWide Try.prog W .any base t v := hval0
  have hW' := hW
  obtain ⟨p, q, hA0, hV, rfl, hfz, hnd⟩ := hW
  have hA : DataW.TrodAll enc Try.prog W 0 (fun _ => true) true Try.f9.params.toList args.toList ds p := hA0
  rw [Try.params9] at hA hval hsz
  obtain ⟨v0, vs0, d0, ds0, p0, q0, hargs, rfl, rfl, h0, r0⟩ := trodAll_cons hA
  obtain ⟨v1, vs1, d1, ds1, p1, q1, rfl, rfl, rfl, h1, r1⟩ := trodAll_cons r0
  obtain ⟨v2, vs2, d2, ds2, p2, q2, rfl, rfl, rfl, h2, r2⟩ := trodAll_cons r1
  obtain ⟨rfl, rfl, rfl⟩ := trodAll_nil r2
  obtain rfl : args = #[v0, v1, v2] := by cases args; simp_all
  obtain ⟨rfl, rfl⟩ := trodVars_none hV
  have k0 := h0
  have lt0 : ∀ x ∈ p0, x.block < W.heap.size := by obtain ⟨m, hm⟩ := k0; exact DataW.trod_lt m _ _ _ hm
  obtain ⟨step, start, u, l, e0, e1, e2, rfl, hu, rfl, hle⟩ := open_meter (hval 0 24 v0 rfl rfl) h0
  have k1 := h1
  have lt1 : ∀ x ∈ p1, x.block < W.heap.size := by obtain ⟨m, hm⟩ := k1; exact DataW.trod_lt m _ _ _ hm
  obtain ⟨t, rfl, s0, s1, s2, s3⟩ := open_tariff (hval 1 38 v1 rfl rfl) h1
  have k2 := h2
  have lt2 : ∀ x ∈ p2, x.block < W.heap.size := by obtain ⟨m, hm⟩ := k2; exact DataW.trod_lt m _ _ _ hm
  obtain ⟨add, hadd⟩ := open_add (hval 2 81 v2 rfl rfl) h2
  have hreach := reach_meter hsz
  clear hA0 hval0
  refine (walk t step start u v2 l add W hu hadd (by omega) s0 s1 s2 s3).mono fun e W' ⟨he, bel⟩ => ?_
  subst he
  exact ⟨_, rfl, _, _, _, [], _, [], hW', trodAll_mk1 (shut_bool Try.underlying4 _), (trodAll_cons_mk (Below.trod laidOut (by kernel_rfl) (of_decide_eq_true (by kernel_rfl)) k0 bel lt0) (trodAll_cons_mk (Below.trod laidOut (by kernel_rfl) (of_decide_eq_true (by kernel_rfl)) k1 bel lt1) (trodAll_cons_mk (Below.trod laidOut (by kernel_rfl) (of_decide_eq_true (by kernel_rfl)) k2 bel lt2) trodAll_mk0))), rfl, bel.frame _, fun h => by cases h⟩

theorem over : Rows.moreRow.holds Try.pinned (OpenSpec.ofChange Rows.moreSpec) :=
  OpenClaim.holds_of_wide 9 Try.f9 rfl rfl rfl rfl rfl rfl rfl ⟨rfl, rfl, rfl, rfl, rfl⟩ rfl rfl rfl rfl rfl (by kernel_rfl) Try.func9 (by kernel_rfl)
    (of_decide_eq_true (by kernel_rfl)) (by unfold Func.isWrapper; first | (rw [if_pos (by decide +kernel)]; kernel_rfl) | (rw [if_neg (by decide +kernel)]; exact ⟨rfl, rfl⟩))
    (fun os started H enc _ => lifted os started H enc)

theorem proved : Rows.MoreSaid := over
#print axioms proved
end Go.Proofs.Ytjaffmmocbplaab.more
namespace Go.Proofs.Ytjaffmmocbplaab
theorem more_holds : Rows.MoreSaid := more.proved
end Go.Proofs.Ytjaffmmocbplaab
