/-
  Bounds for Nothing.
-/
import Derived.Test.YtjaffmmocbplaabDoorJSplW
import Derived.Test.YtjaffmmocbplaabDoorJFormT
namespace Go.Proofs.YtjaffmmocbplaabDoor
open Txt (Val)
open Go.RowKit
set_option linter.unusedVariables false

theorem okP_le {p : Per} {k n : Nat} (h : okP p k) (hn : k ≤ n) : okP p n := by simp only [okP] at h ⊢; omega
theorem push_all {days day : Int} {k : Nat} (hd : 1 ≤ days) : ∀ (n : Nat) (s : PSt), (day + 1 - s.en).toNat ≤ n → okP s.p k → (∀ p ∈ s.dn, okP p k) → ∀ p ∈ (pushP days day s).dn, okP p k
  | n, s, hn, h, ha => by
    by_cases g : s.en ≤ day
    · cases n with
      | zero => omega
      | succ n =>
        rw [push_go hd g]
        refine push_all (day := day) hd n ⟨s.dn ++ [s.p], per0, s.en + days⟩ (by simp only; omega) (okP_zero k) ?_
        intro p hp
        simp only [List.mem_append, List.mem_singleton] at hp
        rcases hp with hp | rfl
        · exact ha p hp
        · exact h
    · rw [push_stop g]; exact ha
theorem run_all {t : Trf} {step start : Int} {l : List Val} (ht : badN t = 13) (hs : step = 15 ∨ step = 30 ∨ step = 60) (hall : l.all valB = true) : ∀ k, k ≤ l.length → (∀ j, j < k → okC t step start j = true) → ∀ p ∈ (runP t step start l k).dn, okP p k
  | 0, _, _ => fun p hp => by cases hp
  | k + 1, hk, hc => by
    have ih := run_all (step := step) (start := start) (l := l) ht hs hall k (by omega) (fun j hj => hc j (by omega))
    have ok := run_ok (step := step) (start := start) (l := l) ht hs hall k (by omega) (fun j hj => hc j (by omega))
    have hb : (begP t step start (runP t step start l k) k).dn = (runP t step start l k).dn ∧ (begP t step start (runP t step start l k) k).p = (runP t step start l k).p := by unfold begP; split <;> exact ⟨rfl, rfl⟩
    intro p hp
    have := push_all (day := dayAt t step start k) (k := k) (days_ok ht).1 _ (begP t step start (runP t step start l k) k) (Nat.le_refl _) (by rw [hb.2]; exact ok.1) (by rw [hb.1]; exact ih) p hp
    exact okP_more this
theorem perL_all {t : Trf} {step start : Int} {l : List Val} (ht : badN t = 13) (hs : step = 15 ∨ step = 30 ∨ step = 60) (hall : l.all valB = true) (hl : l.length ≤ 200) (hc : ∀ j, j < l.length → okC t step start j = true) : (∀ p ∈ perL t step start l, okP p 200) ∧ (perL t step start l).length ≤ 36556 := by
  have ok := run_ok (step := step) (start := start) (l := l) ht hs hall l.length (Nat.le_refl _) hc
  refine ⟨fun p hp => ?_, ?_⟩
  · unfold perL at hp
    simp only [List.mem_append, List.mem_singleton] at hp
    rcases hp with hp | rfl
    · exact okP_le (run_all ht hs hall l.length (Nat.le_refl _) hc p hp) hl
    · exact okP_le ok.1 hl
  · unfold perL
    simp only [List.length_append, List.length_singleton]
    obtain ⟨_, a, b⟩ := ok
    omega
theorem take_snoc {α : Type} {l : List α} {k : Nat} {x : α} (h : l[k]? = some x) : l.take (k + 1) = l.take k ++ [x] := by rw [List.take_add_one, h]; rfl
theorem v_bd {step : Int} {l : List Val} (hall : l.all valB = true) (hs : step = 15 ∨ step = 30 ∨ step = 60) : ∀ k, k ≤ l.length → (0 ≤ vI (l.take k) ∧ vI (l.take k) ≤ k * 999999999) ∧ (0 ≤ vO (l.take k) ∧ vO (l.take k) ≤ k * 999999999) ∧ (0 ≤ vP step (l.take k) ∧ vP step (l.take k) ≤ 4000000000)
  | 0, _ => by simp [vI, vO, vP]
  | k + 1, hk => by
    obtain ⟨a, b, c⟩ := v_bd (step := step) hall hs k (by omega)
    have hg := Fil.get_ex (show k < l.length by omega)
    obtain ⟨d1, d2⟩ := valB_bd (List.all_eq_true.mp hall _ (List.mem_of_getElem? hg))
    have e := pw_bd d1 hs
    rw [take_snoc hg, vI_snoc, vO_snoc, vP_snoc]
    refine ⟨by omega, by omega, ?_⟩
    unfold mx; split <;> omega
theorem t_bd {ps : List Per} (hall : ∀ p ∈ ps, okP p 200) : ∀ k, k ≤ ps.length → (0 ≤ tI (ps.take k) ∧ tI (ps.take k) ≤ k * 600000000000) ∧ (0 ≤ tO (ps.take k) ∧ tO (ps.take k) ≤ k * 600000000000)
  | 0, _ => by simp [tI, tO]
  | k + 1, hk => by
    obtain ⟨a, b⟩ := t_bd hall k (by omega)
    have hg : ps[k]? = some ps[k] := List.getElem?_eq_getElem (by omega)
    have ok := hall ps[k] (List.getElem_mem _)
    rw [take_snoc hg, tI_snoc, tO_snoc]
    simp only [okP] at ok
    simp only [pI]
    omega
theorem pcs_get (l : List Per) : ∀ i x, l[i]? = some x → (pcs l)[i * 5]? = some (.int .i64 x.i0) ∧ (pcs l)[i * 5 + 1]? = some (.int .i64 x.i1) ∧ (pcs l)[i * 5 + 2]? = some (.int .i64 x.i2) ∧ (pcs l)[i * 5 + 3]? = some (.int .i64 x.o) ∧ (pcs l)[i * 5 + 4]? = some (.int .i64 x.pk) := by
  induction l with
  | nil => intro i x h; simp at h
  | cons y l ih =>
    intro i x h
    have e : pcs (y :: l) = .int .i64 y.i0 :: .int .i64 y.i1 :: .int .i64 y.i2 :: .int .i64 y.o :: .int .i64 y.pk :: pcs l := rfl
    rw [e]
    cases i with
    | zero => simp at h; subst h; simp
    | succ i =>
      simp at h
      obtain ⟨h1, h2, h3, h4, h5⟩ := ih i x h
      rw [show (i + 1) * 5 = i * 5 + 1 + 1 + 1 + 1 + 1 by omega]
      refine ⟨by simpa using h1, ?_, ?_, ?_, ?_⟩
      · rw [show i * 5 + 1 + 1 + 1 + 1 + 1 + 1 = (i * 5 + 1) + 1 + 1 + 1 + 1 + 1 by omega]; simpa using h2
      · rw [show i * 5 + 1 + 1 + 1 + 1 + 1 + 2 = (i * 5 + 2) + 1 + 1 + 1 + 1 + 1 by omega]; simpa using h3
      · rw [show i * 5 + 1 + 1 + 1 + 1 + 1 + 3 = (i * 5 + 3) + 1 + 1 + 1 + 1 + 1 by omega]; simpa using h4
      · rw [show i * 5 + 1 + 1 + 1 + 1 + 1 + 4 = (i * 5 + 4) + 1 + 1 + 1 + 1 + 1 by omega]; simpa using h5
/-- where Split answers -/
theorem sp_ok {t : Trf} {step start : Int} {l : List Val} (h : spE t step start l = 0) : meterB step start l = true ∧ badN t = 13 ∧ fE step start t.gap l = 0 ∧ (∀ j, j < (fL step start t.gap l).length → okC t step start j = true) ∧ spL t step start l = perL t step start (fL step start t.gap l) := by
  unfold spE at h
  cases hm : meterB step start l
  · rw [hm] at h; simp at h
  · rw [hm] at h
    simp only [if_true] at h
    by_cases hb : badN t < 13
    · rw [if_pos hb] at h; omega
    · rw [if_neg hb] at h
      by_cases hf : fE step start t.gap l = 0
      · rw [if_pos hf] at h
        have hp : ¬ ppN t step start (fL step start t.gap l) < (fL step start t.gap l).length := by
          intro g; unfold ppE at h; rw [if_pos g] at h; omega
        refine ⟨rfl, by have := badN_le t; omega, hf, fun j hj => ?_, ?_⟩
        · obtain ⟨_, b, c, _⟩ := firstBad_facts (p := okC t step start) (fL step start t.gap l).length 0
          exact c j (by omega) (by unfold ppN at hp; omega)
        · unfold spL; rw [hm, if_pos rfl, if_neg hb, if_pos hf]; unfold ppL; rw [if_neg hp]
      · rw [if_neg hf] at h; exact absurd h hf
theorem sp_no {t : Trf} {step start : Int} {l : List Val} (h : ¬ spE t step start l = 0) : spL t step start l = [] := by
  unfold spL
  unfold spE at h
  split
  · rename_i hm
    rw [hm, if_pos rfl] at h
    split
    · rfl
    · rename_i hb
      rw [if_neg hb] at h
      split
      · rename_i hf
        rw [if_pos hf] at h
        unfold ppL
        split
        · rfl
        · rename_i hp; unfold ppE at h; rw [if_neg hp] at h; exact absurd rfl h
      · rfl
  · rfl
end Go.Proofs.YtjaffmmocbplaabDoor
