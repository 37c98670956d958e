/-
  What periods add up to; what Split answers: as plain mathematics.
-/
import Derived.Test.YtjaffmmocbplaabDoorJPerY
namespace Go.Proofs.YtjaffmmocbplaabDoor
open Txt (Val)
set_option linter.unusedVariables false

def mx (a b : Int) : Int := if b < a then a else b
def pI (p : Per) : Int := p.i0 + p.i1 + p.i2
def tI (l : List Per) : Int := l.foldl (fun s p => s + pI p) 0
def tO (l : List Per) : Int := l.foldl (fun s p => s + p.o) 0
def tP (l : List Per) : Int := l.foldl (fun s p => mx s p.pk) 0
def vI (l : List Val) : Int := l.foldl (fun s v => s + v.i) 0
def vO (l : List Val) : Int := l.foldl (fun s v => s + v.o) 0
def vP (step : Int) (l : List Val) : Int := l.foldl (fun s v => mx s (pw v step)) 0
theorem tI_snoc (l : List Per) (p : Per) : tI (l ++ [p]) = tI l + pI p := by simp [tI]
theorem tO_snoc (l : List Per) (p : Per) : tO (l ++ [p]) = tO l + p.o := by simp [tO]
theorem tP_snoc (l : List Per) (p : Per) : tP (l ++ [p]) = mx (tP l) p.pk := by simp [tP]
theorem vI_snoc (l : List Val) (p : Val) : vI (l ++ [p]) = vI l + p.i := by simp [vI]
theorem vO_snoc (l : List Val) (p : Val) : vO (l ++ [p]) = vO l + p.o := by simp [vO]
theorem vP_snoc (step : Int) (l : List Val) (p : Val) : vP step (l ++ [p]) = mx (vP step l) (pw p step) := by simp [vP]
theorem tP_nonneg (l : List Per) : 0 ≤ tP l := by
  suffices h : ∀ (l : List Per) (s : Int), 0 ≤ s → 0 ≤ l.foldl (fun s p => mx s p.pk) s from h l 0 (Int.le_refl _)
  intro l
  induction l with
  | nil => intro s h; exact h
  | cons p l ih => intro s h; exact ih _ (by show 0 ≤ mx s p.pk; unfold mx; split <;> omega)
theorem push_tot {days day : Int} (hd : 1 ≤ days) : ∀ (n : Nat) (s : PSt), (day + 1 - s.en).toNat ≤ n →
    tI (pushP days day s).dn + pI (pushP days day s).p = tI s.dn + pI s.p ∧ tO (pushP days day s).dn + (pushP days day s).p.o = tO s.dn + s.p.o ∧ mx (tP (pushP days day s).dn) (pushP days day s).p.pk = mx (tP s.dn) s.p.pk
  | n, s, hn => by
    by_cases g : s.en ≤ day
    · cases n with
      | zero => omega
      | succ n =>
        rw [push_go hd g]
        obtain ⟨a, b, c⟩ := push_tot (day := day) hd n ⟨s.dn ++ [s.p], per0, s.en + days⟩ (by simp only; omega)
        refine ⟨?_, ?_, ?_⟩
        · rw [a]; simp only [tI_snoc]; simp only [pI, per0]; omega
        · rw [b]; simp only [tO_snoc]; simp only [per0]; omega
        · rw [c]; simp only [tP_snoc]
          have := tP_nonneg s.dn
          simp only [mx, per0]; split <;> split <;> omega
    · rw [push_stop g]; exact ⟨rfl, rfl, rfl⟩
theorem run_tot {t : Trf} {step start : Int} {l : List Val} (ht : badN t = 13) : ∀ k, k ≤ l.length → (∀ j, j < k → okC t step start j = true) →
    tI (runP t step start l k).dn + pI (runP t step start l k).p = vI (l.take k) ∧ tO (runP t step start l k).dn + (runP t step start l k).p.o = vO (l.take k) ∧ mx (tP (runP t step start l k).dn) (runP t step start l k).p.pk = vP step (l.take k)
  | 0, _, _ => ⟨rfl, rfl, rfl⟩
  | k + 1, hk, hc => by
    obtain ⟨a, b, c⟩ := run_tot (step := step) (start := start) (l := l) ht k (by omega) (fun j hj => hc j (by omega))
    obtain ⟨d0, _⟩ := days_ok ht
    obtain ⟨e0, e1, e2, e3⟩ := okC_day (hc k (by omega))
    obtain ⟨p1, p2, p3⟩ := push_tot (day := dayAt t step start k) d0 _ (begP t step start (runP t step start l k) k) (Nat.le_refl _)
    have hb : (begP t step start (runP t step start l k) k).dn = (runP t step start l k).dn ∧ (begP t step start (runP t step start l k) k).p = (runP t step start l k).p := by unfold begP; split <;> exact ⟨rfl, rfl⟩
    rw [hb.1, hb.2] at p1 p2 p3
    have cb := clsOf_bd ht (day := dayAt t step start k) (hour := minAt t step start k / 60) (by omega) (by omega)
    have ht' : l.take (k + 1) = l.take k ++ [Fil.vAt l k] := by rw [List.take_add_one, Fil.get_ex (show k < l.length by omega)]; rfl
    rw [ht', vI_snoc, vO_snoc, vP_snoc, ← a, ← b, ← c, ← p1, ← p2, ← p3]
    show tI (stepP t step start l (runP t step start l k) k).dn + pI (stepP t step start l (runP t step start l k) k).p = _ ∧ tO (stepP t step start l (runP t step start l k) k).dn + (stepP t step start l (runP t step start l k) k).p.o = _ ∧ mx (tP (stepP t step start l (runP t step start l k) k).dn) (stepP t step start l (runP t step start l k) k).p.pk = _
    unfold stepP
    simp only [addV, pI]
    obtain ⟨C, hC⟩ : ∃ C, C = clsOf t (dayAt t step start k) (minAt t step start k / 60) := ⟨_, rfl⟩
    rw [← hC] at cb ⊢
    refine ⟨?_, by omega, ?_⟩
    · rcases (by omega : C = 0 ∨ C = 1 ∨ C = 2) with h | h | h <;> rw [h] <;> simp <;> omega
    · simp only [mx]; (repeat' split) <;> omega
theorem perL_tot {t : Trf} {step start : Int} {l : List Val} (ht : badN t = 13) (hc : ∀ j, j < l.length → okC t step start j = true) : tI (perL t step start l) = vI l ∧ tO (perL t step start l) = vO l ∧ tP (perL t step start l) = vP step l := by
  obtain ⟨a, b, c⟩ := run_tot ht l.length (Nat.le_refl _) hc
  rw [List.take_of_length_le (Nat.le_refl _)] at a b c
  unfold perL
  rw [tI_snoc, tO_snoc, tP_snoc]
  exact ⟨a, b, c⟩

/-- what is filled is valid -/
theorem fl_valB {l : List Val} {gap : Int} (hall : l.all valB = true) (hr : Fil.rows l gap 0 = -1) : (Fil.fl l l.length).all valB = true := by
  rw [List.all_eq_true]
  intro y hy
  obtain ⟨i, hi, rfl⟩ : ∃ i, i < l.length ∧ Fil.fv l i = y := by
    unfold Fil.fl at hy
    rw [List.mem_map] at hy
    obtain ⟨i, h1, h2⟩ := hy
    exact ⟨i, List.mem_range.1 h1, h2⟩
  have val : ∀ k, k < l.length → valB (Fil.vAt l k) = true := fun k hk => List.all_eq_true.mp hall _ (List.mem_of_getElem? (Fil.get_ex hk))
  cases g : Fil.mAt l i
  · rw [Fil.fv_not g]; exact val i hi
  · have h0 := Fil.rows_first hr
    have hlf := Fil.lf_lt h0 g
    have hgt := Fil.re_gt g
    have hre := Fil.rows_ok l gap _ 0 (Nat.le_refl _) hr i (by omega) hi
    obtain ⟨a1, a2⟩ := valB_bd (val (Fil.lf l i) (by omega))
    obtain ⟨b1, b2⟩ := valB_bd (val (Fil.re l i) hre)
    have c1 := Fil.btw_in (a := (Fil.vAt l (Fil.lf l i)).i) (b := (Fil.vAt l (Fil.re l i)).i) (i := (i : Int) - Fil.lf l i) (n := (Fil.re l i : Int) - Fil.lf l i) (by omega) (by omega) (by omega)
    have c2 := Fil.btw_in (a := (Fil.vAt l (Fil.lf l i)).o) (b := (Fil.vAt l (Fil.re l i)).o) (i := (i : Int) - Fil.lf l i) (n := (Fil.re l i : Int) - Fil.lf l i) (by omega) (by omega) (by omega)
    have hv : Fil.fv l i = ⟨Fil.btw (Fil.vAt l (Fil.lf l i)).i (Fil.vAt l (Fil.re l i)).i ((i : Int) - Fil.lf l i) ((Fil.re l i : Int) - Fil.lf l i), Fil.btw (Fil.vAt l (Fil.lf l i)).o (Fil.vAt l (Fil.re l i)).o ((i : Int) - Fil.lf l i) ((Fil.re l i : Int) - Fil.lf l i), false⟩ := by unfold Fil.fv; rw [if_pos g]
    rw [hv]
    simp only [valB, Bool.false_eq_true, if_false, Bool.and_eq_true, inB_iff]
    omega

def spE (t : Trf) (step start : Int) (l : List Val) : Int :=
  if meterB step start l then (if badN t < 13 then 5 else if fE step start t.gap l = 0 then ppE t step start (fL step start t.gap l) else fE step start t.gap l) else 3
def spA (t : Trf) (step start : Int) (l : List Val) : Int :=
  if meterB step start l then (if badN t < 13 then 0 else if fE step start t.gap l = 0 then ppA t step start (fL step start t.gap l) else fA step start t.gap l) else 0
def spL (t : Trf) (step start : Int) (l : List Val) : List Per :=
  if meterB step start l then (if badN t < 13 then [] else if fE step start t.gap l = 0 then ppL t step start (fL step start t.gap l) else []) else []
theorem meterB_step {step start : Int} {l : List Val} (h : meterB step start l = true) : (step = 15 ∨ step = 30 ∨ step = 60) ∧ 0 ≤ start ∧ start ≤ 52596000 := by
  have hf := meterB_fit h
  unfold meterB at h
  simp only [Bool.and_eq_true, Bool.or_eq_true, decide_eq_true_eq, inB_iff] at h
  obtain ⟨⟨⟨⟨h1, _⟩, h2⟩, _⟩, _⟩ := h
  refine ⟨by omega, h2.1, ?_⟩
  have := h2.2
  rcases (by omega : step = 15 ∨ step = 30 ∨ step = 60) with rfl | rfl | rfl <;> omega
end Go.Proofs.YtjaffmmocbplaabDoor
