/-
  The document's Split: what its walk leans on.
-/
import Derived.Test.YtjaffmmocbplaabSplP
import Derived.Test.YtjaffmmocbplaabClsW
import Derived.Test.YtjaffmmocbplaabGdW
import Derived.Test.YtjaffmmocbplaabSamP
import Derived.Test.YtjaffmmocbplaabClockM
import Derived.Test.YtjaffmmocbplaabSplW
import Derived.Test.YtjaffmmocbplaabRowY
import Derived.Test.YtjaffmmocbplaabNotM
import Derived.Deep.RegionHeld3
import Derived.BigQuiet
namespace Go.Proofs.Ytjaffmmocbplaab
open Go.RowKit
open Txt (Val)
set_option linter.unusedVariables false

theorem infoRP : (Try.prog.info? 93).map (fun i => (i.zero, i.size, i.bytes)) = some (some (.agg #[.int .i64 0, .int .i64 0, .int .i64 0, .int .i64 0, .int .i64 0]), 5, 40) := by kernel_rfl
theorem docG_len (out : List Per) (k : Nat) : (docG out k).length = if k < out.length then out.length else k + 1 := by
  simp only [docG, List.length_append, List.length_replicate]; split <;> omega
theorem docG_lt (out : List Per) (k : Nat) : k < (docG out k).length := by rw [docG_len]; split <;> omega
theorem sp_at {l : List Per} {k : Nat} (h : k < l.length) : l[k]? = some (pAt l k) := by simp [pAt, h]
/-- the list of the document behind k values: its elements, its length -/
theorem doc_ok {t : Trf} {step start : Int} {l : List Val} (ht : badN t = 13) (hs : step = 15 ∨ step = 30 ∨ step = 60) (hall : l.all valB = true) : ∀ k, k ≤ l.length → (∀ j, j < k → okC t step start j = true) →
    (∀ p ∈ docR t step start l k, okP p k) ∧ (docR t step start l k).length ≤ 36556
  | 0, _, _ => ⟨fun p hp => by simp [docR] at hp, by simp [docR]⟩
  | k + 1, hk, hc => by
    obtain ⟨e, _⟩ := doc_run (l := l) ht (by omega) k hc
    have r := run_ok (step := step) (start := start) (l := l) ht hs hall (k + 1) hk hc
    have a := run_all (step := step) (start := start) (l := l) ht hs hall (k + 1) hk hc
    rw [e]
    refine ⟨fun p hp => ?_, ?_⟩
    · simp only [List.mem_append, List.mem_singleton] at hp
      rcases hp with hp | rfl
      · exact a p hp
      · exact r.1
    · have := r.2; simp only [List.length_append, List.length_singleton]; omega
theorem docP_ok {t : Trf} {step start : Int} {l : List Val} (ht : badN t = 13) (hs : step = 15 ∨ step = 30 ∨ step = 60) (hall : l.all valB = true) {k : Nat} (hk : k ≤ l.length) (hc : ∀ j, j < k → okC t step start j = true) (K : Nat) :
    okP (pAt (docG (docR t step start l k) K) K) k := by
  obtain ⟨a, _⟩ := doc_ok (l := l) ht hs hall k hk hc
  have hlt := docG_lt (docR t step start l k) K
  have hg := sp_at hlt
  have hm := List.mem_of_getElem? hg
  unfold docG at hm
  rw [List.mem_append] at hm
  rcases hm with hm | hm
  · exact a _ hm
  · rw [List.mem_replicate] at hm; rw [show pAt (docG (docR t step start l k) K) K = per0 from hm.2]; exact okP_zero k
theorem docK_bd {t : Trf} {step start : Int} (ht : badN t = 13) {k : Nat} (h0 : okC t step start 0 = true) (hk : okC t step start k = true) (hm : dayAt t step start 0 ≤ dayAt t step start k) : (docK t step start k : Int) = (dayAt t step start k - dayAt t step start 0) / t.days ∧ docK t step start k ≤ 36524 := by
  obtain ⟨d0, d1⟩ := days_ok ht
  have a := okC_day h0
  have b := okC_day hk
  have q0 : 0 ≤ (dayAt t step start k - dayAt t step start 0) / t.days := Int.ediv_nonneg (by omega) (by omega)
  have q1 : (dayAt t step start k - dayAt t step start 0) / t.days ≤ dayAt t step start k - dayAt t step start 0 := Int.ediv_le_self _ (by omega)
  unfold docK
  omega
theorem day0_le {t : Trf} {step start : Int} (hs : 0 ≤ step) : ∀ k, (∀ j, j < k + 1 → okC t step start j = true) → dayAt t step start 0 ≤ dayAt t step start k
  | 0, _ => Int.le_refl _
  | k + 1, h => Int.le_trans (day0_le hs k (fun j hj => h j (by omega))) (day_mono hs (h k (by omega)) (h (k + 1) (by omega)))
theorem pcs_set (q : Per) : ∀ (l : List Per) (k : Nat), k < l.length → pcs (l.set k q) = (((((pcs l).set (k * 5) (.int .i64 q.i0)).set (k * 5 + 1) (.int .i64 q.i1)).set (k * 5 + 2) (.int .i64 q.i2)).set (k * 5 + 3) (.int .i64 q.o)).set (k * 5 + 4) (.int .i64 q.pk)
  | [], k, h => by simp at h
  | p :: l, 0, _ => by simp [pcs, pcell]
  | p :: l, k + 1, h => by
    have ih := pcs_set q l k (by simpa using h)
    show pcell p ++ pcs (l.set k q) = _
    rw [ih]
    show _ = (((((pcell p ++ pcs l).set ((k + 1) * 5) _).set ((k + 1) * 5 + 1) _).set ((k + 1) * 5 + 2) _).set ((k + 1) * 5 + 3) _).set ((k + 1) * 5 + 4) _
    have e : (pcell p).length = 5 := rfl
    rw [List.set_append_right _ _ (by rw [e]; omega), List.set_append_right _ _ (by rw [e]; omega), List.set_append_right _ _ (by rw [e]; omega), List.set_append_right _ _ (by rw [e]; omega), List.set_append_right _ _ (by rw [e]; omega), e]
    rw [show (k + 1) * 5 - 5 = k * 5 by omega, show (k + 1) * 5 + 1 - 5 = k * 5 + 1 by omega, show (k + 1) * 5 + 2 - 5 = k * 5 + 2 by omega, show (k + 1) * 5 + 3 - 5 = k * 5 + 3 by omega, show (k + 1) * 5 + 4 - 5 = k * 5 + 4 by omega]
/-- a period put into a list in memory -/
theorem own_putP {w : World} {base g n cap : Nat} {e : TypeId} {l : List Per} (h : w.ownsRow base e 5 (.slice (some ⟨g, 0, none⟩) n cap) n (pcs l)) {k : Nat} (hk : k < l.length) (q : Per) :
    (((((w.setCell ⟨g, k * 5, none⟩ (.int .i64 q.i0)).setCell ⟨g, k * 5 + 1, none⟩ (.int .i64 q.i1)).setCell ⟨g, k * 5 + 2, none⟩ (.int .i64 q.i2)).setCell ⟨g, k * 5 + 3, none⟩ (.int .i64 q.o)).setCell ⟨g, k * 5 + 4, none⟩ (.int .i64 q.pk)).ownsRow base e 5 (.slice (some ⟨g, 0, none⟩) n cap) n (pcs (l.set k q)) := by
  rw [pcs_set q l k hk]
  exact ((((h.stored _ _).1.stored _ _).1.stored _ _).1.stored _ _).1.stored _ _ |>.1
end Go.Proofs.Ytjaffmmocbplaab
