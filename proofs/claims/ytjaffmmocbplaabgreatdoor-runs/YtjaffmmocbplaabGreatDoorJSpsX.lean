/-
  RspW, RspX, RspY, SpsW in one text (made by tools/merge.py).
-/
import Derived.Test.YtjaffmmocbplaabGreatDoorJ22
import Derived.Test.YtjaffmmocbplaabGreatDoorJ19
import Derived.Test.YtjaffmmocbplaabGreatDoorJ16
import Derived.Test.YtjaffmmocbplaabGreatDoorJClockM
import Derived.Test.YtjaffmmocbplaabGreatDoorJSplW
import Derived.Test.YtjaffmmocbplaabGreatDoorJ08
import Derived.Test.YtjaffmmocbplaabGreatDoorJ15
import Derived.Deep.RegionHeld3
import Derived.BigQuiet
import Derived.Test.YtjaffmmocbplaabGreatDoorJ11
import Derived.Deep.CutRange
import Derived.Test.YtjaffmmocbplaabGreatDoorJTarD
import Derived.Test.YtjaffmmocbplaabGreatDoorJRowZ
import Derived.Test.YtjaffmmocbplaabGreatDoorJ14
namespace Go.Proofs.YtjaffmmocbplaabGreatDoor
open Go.RowKit
open Txt (Val)
set_option linter.unusedVariables false

theorem infoRP : (Tryz.prog.info? 117).map (fun i => (i.zero, i.size, i.bytes)) = some (some (.agg #[.int .i64 0, .int .i64 0, .int .i64 0, .int .i64 0, .int .i64 0]), 5, 40) := by kernel_rfl
theorem docG_len (out : List Per) (k : Nat) : (docG out k).length = if k < out.length then out.length else k + 1 := by
  simp only [docG, List.length_append, List.length_replicate]; split <;> omega
theorem docG_lt (out : List Per) (k : Nat) : k < (docG out k).length := by rw [docG_len]; split <;> omega
theorem sp_at {l : List Per} {k : Nat} (h : k < l.length) : l[k]? = some (pAt l k) := by simp [pAt, h]
/-- the list of the document behind k values: its elements, its length -/
theorem doc_ok {t : Trf} {step start : Int} {l : List Val} (ht : badN t = 13) (hs : step = 15 ∨ step = 30 ∨ step = 60) (hall : l.all valB = true) : ∀ k, k ≤ l.length → (∀ j, j < k → okC t step start j = true) →
    (∀ p ∈ docR t step start l k, okP p k) ∧ (docR t step start l k).length ≤ 36556
  | 0, _, _ => ⟨fun p hp => by simp [docR] at hp, by simp [docR]⟩
  | k + 1, hk, hc => by
    obtain ⟨e, _⟩ := doc_run (l := l) ht (by omega) k hc
    have r := run_ok (step := step) (start := start) (l := l) ht hs hall (k + 1) hk hc
    have a := run_all (step := step) (start := start) (l := l) ht hs hall (k + 1) hk hc
    rw [e]
    refine ⟨fun p hp => ?_, ?_⟩
    · simp only [List.mem_append, List.mem_singleton] at hp
      rcases hp with hp | rfl
      · exact a p hp
      · exact r.1
    · have := r.2; simp only [List.length_append, List.length_singleton]; omega
theorem docP_ok {t : Trf} {step start : Int} {l : List Val} (ht : badN t = 13) (hs : step = 15 ∨ step = 30 ∨ step = 60) (hall : l.all valB = true) {k : Nat} (hk : k ≤ l.length) (hc : ∀ j, j < k → okC t step start j = true) (K : Nat) :
    okP (pAt (docG (docR t step start l k) K) K) k := by
  obtain ⟨a, _⟩ := doc_ok (l := l) ht hs hall k hk hc
  have hlt := docG_lt (docR t step start l k) K
  have hg := sp_at hlt
  have hm := List.mem_of_getElem? hg
  unfold docG at hm
  rw [List.mem_append] at hm
  rcases hm with hm | hm
  · exact a _ hm
  · rw [List.mem_replicate] at hm; rw [show pAt (docG (docR t step start l k) K) K = per0 from hm.2]; exact okP_zero k
theorem docK_bd {t : Trf} {step start : Int} (ht : badN t = 13) {k : Nat} (h0 : okC t step start 0 = true) (hk : okC t step start k = true) (hm : dayAt t step start 0 ≤ dayAt t step start k) : (docK t step start k : Int) = (dayAt t step start k - dayAt t step start 0) / t.days ∧ docK t step start k ≤ 36524 := by
  obtain ⟨d0, d1⟩ := days_ok ht
  have a := okC_day h0
  have b := okC_day hk
  have q0 : 0 ≤ (dayAt t step start k - dayAt t step start 0) / t.days := Int.ediv_nonneg (by omega) (by omega)
  have q1 : (dayAt t step start k - dayAt t step start 0) / t.days ≤ dayAt t step start k - dayAt t step start 0 := Int.ediv_le_self _ (by omega)
  unfold docK
  omega
theorem day0_le {t : Trf} {step start : Int} (hs : 0 ≤ step) : ∀ k, (∀ j, j < k + 1 → okC t step start j = true) → dayAt t step start 0 ≤ dayAt t step start k
  | 0, _ => Int.le_refl _
  | k + 1, h => Int.le_trans (day0_le hs k (fun j hj => h j (by omega))) (day_mono hs (h k (by omega)) (h (k + 1) (by omega)))
theorem pcs_set (q : Per) : ∀ (l : List Per) (k : Nat), k < l.length → pcs (l.set k q) = (((((pcs l).set (k * 5) (.int .i64 q.i0)).set (k * 5 + 1) (.int .i64 q.i1)).set (k * 5 + 2) (.int .i64 q.i2)).set (k * 5 + 3) (.int .i64 q.o)).set (k * 5 + 4) (.int .i64 q.pk)
  | [], k, h => by simp at h
  | p :: l, 0, _ => by simp [pcs, pcell]
  | p :: l, k + 1, h => by
    have ih := pcs_set q l k (by simpa using h)
    show pcell p ++ pcs (l.set k q) = _
    rw [ih]
    show _ = (((((pcell p ++ pcs l).set ((k + 1) * 5) _).set ((k + 1) * 5 + 1) _).set ((k + 1) * 5 + 2) _).set ((k + 1) * 5 + 3) _).set ((k + 1) * 5 + 4) _
    have e : (pcell p).length = 5 := rfl
    rw [List.set_append_right _ _ (by rw [e]; omega), List.set_append_right _ _ (by rw [e]; omega), List.set_append_right _ _ (by rw [e]; omega), List.set_append_right _ _ (by rw [e]; omega), List.set_append_right _ _ (by rw [e]; omega), e]
    rw [show (k + 1) * 5 - 5 = k * 5 by omega, show (k + 1) * 5 + 1 - 5 = k * 5 + 1 by omega, show (k + 1) * 5 + 2 - 5 = k * 5 + 2 by omega, show (k + 1) * 5 + 3 - 5 = k * 5 + 3 by omega, show (k + 1) * 5 + 4 - 5 = k * 5 + 4 by omega]
/-- a period put into a list in memory -/
theorem own_putP {w : World} {base g n cap : Nat} {e : TypeId} {l : List Per} (h : w.ownsRow base e 5 (.slice (some ⟨g, 0, none⟩) n cap) n (pcs l)) {k : Nat} (hk : k < l.length) (q : Per) :
    (((((w.setCell ⟨g, k * 5, none⟩ (.int .i64 q.i0)).setCell ⟨g, k * 5 + 1, none⟩ (.int .i64 q.i1)).setCell ⟨g, k * 5 + 2, none⟩ (.int .i64 q.i2)).setCell ⟨g, k * 5 + 3, none⟩ (.int .i64 q.o)).setCell ⟨g, k * 5 + 4, none⟩ (.int .i64 q.pk)).ownsRow base e 5 (.slice (some ⟨g, 0, none⟩) n cap) n (pcs (l.set k q)) := by
  rw [pcs_set q l k hk]
  exact ((((h.stored _ _).1.stored _ _).1.stored _ _).1.stored _ _).1.stored _ _ |>.1
end Go.Proofs.YtjaffmmocbplaabGreatDoor

namespace Go.Proofs.YtjaffmmocbplaabGreatDoor
open Go.RowKit
set_option linter.unusedVariables false
attribute [local go_sem ↓] Go.wp_at_zero Go.wp_at_succ

set_option maxRecDepth 1000000 in
set_option maxHeartbeats 2000000 in
theorem refSplit_no (t : Trf) (step start : Int) (v : Value) (l : List Txt.Val) (w : World) (h : VRow w v l) (s0 : t.h0.size ≤ maxLen) (s1 : t.h1.size ≤ maxLen) (s2 : t.h2.size ≤ maxLen) (s3 : t.h3.size ≤ maxLen) (hno : meterB step start l = false ∨ badN t < 13 ∨ ¬ fE step start t.gap l = 0) :
    Calls Tryz.prog 44 #[.agg #[.int .i64 step, .int .i64 start, v], .agg #[.int .i64 t.z.off, .int .i64 t.z.f.m, .int .i64 t.z.f.w, .int .i64 t.z.f.d, .int .i64 t.z.f.h, .int .i64 t.z.t.m, .int .i64 t.z.t.w, .int .i64 t.z.t.d, .int .i64 t.z.t.h, .int .i64 t.days, .int .i64 t.gap, .int .i64 t.first, .int .i64 t.last, .string t.h0, .string t.h1, .string t.h2, .string t.h3, .int .i64 t.b0.x, .int .i64 t.b0.y, .int .i64 t.b0.z, .int .i64 t.b1.x, .int .i64 t.b1.y, .int .i64 t.b1.z, .int .i64 t.b2.x, .int .i64 t.b2.y, .int .i64 t.b2.z, .int .i64 t.d.x, .int .i64 t.d.y, .int .i64 t.d.z, .int .i64 t.np, .int .i64 t.nn, .int .i64 t.fix, .int .i64 t.min, .int .i64 t.tax]] w fun e w' => e = .returned (.tuple #[.slice none 0 0, .int .i64 (spE t step start l), .int .i64 (spA t step start l)]) ∧ Below w.heap.size w w' := by
  have vm := fun w1 (hb : Below w.heap.size w w1) => GoodMeter_any step start v l w1 (h.below hb)
  have bl := fun w1 => GoodTariff_any t w1 s0 s1 s2 s3
  have fl1 := fun w1 (hb : Below w.heap.size w w1) => refFill_any step start t.gap v l w1 (h.below hb)
  obtain ⟨a, cap, rfl⟩ := h.form
  have B0 : Below w.heap.size w ((w.alloc (.cells #[.int .i64 step, .int .i64 start, .slice a l.length cap] 56)).alloc (.cells #[.int .i64 t.z.off, .int .i64 t.z.f.m, .int .i64 t.z.f.w, .int .i64 t.z.f.d, .int .i64 t.z.f.h, .int .i64 t.z.t.m, .int .i64 t.z.t.w, .int .i64 t.z.t.d, .int .i64 t.z.t.h, .int .i64 t.days, .int .i64 t.gap, .int .i64 t.first, .int .i64 t.last, .string t.h0, .string t.h1, .string t.h2, .string t.h3, .int .i64 t.b0.x, .int .i64 t.b0.y, .int .i64 t.b0.z, .int .i64 t.b1.x, .int .i64 t.b1.y, .int .i64 t.b1.z, .int .i64 t.b2.x, .int .i64 t.b2.y, .int .i64 t.b2.z, .int .i64 t.d.x, .int .i64 t.d.y, .int .i64 t.d.z, .int .i64 t.np, .int .i64 t.nn, .int .i64 t.fix, .int .i64 t.min, .int .i64 t.tax] 67)) := below_more (below_more (Below.refl _ _) _) _
  have MT : ((w.alloc (.cells #[.int .i64 step, .int .i64 start, .slice a l.length cap] 56)).alloc (.cells #[.int .i64 t.z.off, .int .i64 t.z.f.m, .int .i64 t.z.f.w, .int .i64 t.z.f.d, .int .i64 t.z.f.h, .int .i64 t.z.t.m, .int .i64 t.z.t.w, .int .i64 t.z.t.d, .int .i64 t.z.t.h, .int .i64 t.days, .int .i64 t.gap, .int .i64 t.first, .int .i64 t.last, .string t.h0, .string t.h1, .string t.h2, .string t.h3, .int .i64 t.b0.x, .int .i64 t.b0.y, .int .i64 t.b0.z, .int .i64 t.b1.x, .int .i64 t.b1.y, .int .i64 t.b1.z, .int .i64 t.b2.x, .int .i64 t.b2.y, .int .i64 t.b2.z, .int .i64 t.d.x, .int .i64 t.d.y, .int .i64 t.d.z, .int .i64 t.np, .int .i64 t.nn, .int .i64 t.fix, .int .i64 t.min, .int .i64 t.tax] 67)).heap[w.heap.size + 1]? = some (.cells #[.int .i64 t.z.off, .int .i64 t.z.f.m, .int .i64 t.z.f.w, .int .i64 t.z.f.d, .int .i64 t.z.f.h, .int .i64 t.z.t.m, .int .i64 t.z.t.w, .int .i64 t.z.t.d, .int .i64 t.z.t.h, .int .i64 t.days, .int .i64 t.gap, .int .i64 t.first, .int .i64 t.last, .string t.h0, .string t.h1, .string t.h2, .string t.h3, .int .i64 t.b0.x, .int .i64 t.b0.y, .int .i64 t.b0.z, .int .i64 t.b1.x, .int .i64 t.b1.y, .int .i64 t.b1.z, .int .i64 t.b2.x, .int .i64 t.b2.y, .int .i64 t.b2.z, .int .i64 t.d.x, .int .i64 t.d.y, .int .i64 t.d.z, .int .i64 t.np, .int .i64 t.nn, .int .i64 t.fix, .int .i64 t.min, .int .i64 t.tax] 67) := heap_alloc2_new _ _ _
  cases hm : meterB step start l
  case false =>
    have HG : Hid (spE t step start l = 3 ∧ spA t step start l = 0) := by show _ ∧ _; unfold spE spA; rw [hm]; exact ⟨rfl, rfl⟩
    rw [HG.out.1, HG.out.2]
    rw [hm] at vm
    clear bl fl1 MT h
    go_enter Tryz.func44, Tryz.ntmps44
    go_wp2_with (go_at_call 39; refine (vm _ B0).mono ?_; rintro e w1 ⟨rfl, hb1⟩)
    exact bodyPost_ret (v := .tuple #[.slice none 0 0, .int .i64 3, .int .i64 0]) (by simp [results, Tryz.results44, go_sem]) rfl ⟨rfl, below_then B0 hb1⟩
  case true =>
    rw [hm] at vm
    by_cases hbd : badN t < 13
    case pos =>
      have HG : Hid (spE t step start l = 5 ∧ spA t step start l = 0) := by show _ ∧ _; unfold spE spA; rw [hm]; simp [hbd]
      rw [HG.out.1, HG.out.2]
      have hgb : goodB t = false := by unfold goodB; simp; omega
      rw [hgb] at bl
      clear fl1 h hbd hm hgb
      go_enter Tryz.func44, Tryz.ntmps44
      go_wp2_with (first
        | (refine wpList_load_row rfl 67 _ rfl (w.heap.size + 1) rfl 67 _ (0, 0) _ mt1 Tryz.underlying67 rfl (by kernel_rfl) ?_)
        | (go_at_call 39; refine (vm _ B0).mono ?_; rintro e w1 ⟨rfl, hb1⟩; have mt1 := (hb1.block (w.heap.size + 1) (by simp)).trans MT)
        | (go_at_call 76; refine (bl _).mono ?_; rintro e w2 ⟨rfl, hb2⟩))
      exact bodyPost_ret (v := .tuple #[.slice none 0 0, .int .i64 5, .int .i64 0]) (by simp [results, Tryz.results44, go_sem]) rfl ⟨rfl, below_then (below_then B0 hb1) hb2⟩
    case neg =>
      have hfe : ¬ fE step start t.gap l = 0 := by
        rcases hno with h' | h' | h'
        · rw [hm] at h'; cases h'
        · exact absurd h' hbd
        · exact h'
      have HG : Hid (spE t step start l = fE step start t.gap l ∧ spA t step start l = fA step start t.gap l) := by show _ ∧ _; unfold spE spA; rw [hm]; simp [hbd, hfe]
      rw [HG.out.1, HG.out.2]
      have hgb : goodB t = true := by unfold goodB; have := badN_le t; simp; omega
      rw [hgb] at bl
      obtain ⟨E, hE⟩ : ∃ E, E = fE step start t.gap l := ⟨_, rfl⟩
      obtain ⟨A, hA⟩ : ∃ A, A = fA step start t.gap l := ⟨_, rfl⟩
      rw [← hE, ← hA] at fl1
      rw [← hE] at hfe
      rw [← hE, ← hA]
      have hEB : (E != 0) = true := by simpa using hfe
      clear hE hA hfe h hm hbd hno hgb
      go_enter Tryz.func44, Tryz.ntmps44
      go_wp2_with (first
        | (refine wpList_load_row rfl 67 _ rfl (w.heap.size + 1) rfl 67 _ (0, 0) _ mt1 Tryz.underlying67 rfl (by kernel_rfl) ?_)
        | (go_at_call 39; refine (vm _ B0).mono ?_; rintro e w1 ⟨rfl, hb1⟩; obtain ⟨hc1, hf1⟩ := bcell hb1; have mt1 := (hb1.block (w.heap.size + 1) (by simp)).trans MT; have hs1 : w.heap.size + 1 < w1.heap.size := (by have := hb1.size; simp at this; omega); have hs1' : w.heap.size < w1.heap.size := (by omega))
        | (go_at_call 76; refine (bl _).mono ?_; rintro e w2 ⟨rfl, hb2⟩; obtain ⟨hc2, hf2⟩ := bcell hb2)
        | (go_at_call 77; refine (fl1 _ (below_then (below_then B0 hb1) hb2)).mono ?_; rintro e w3 ⟨v3, rfl, own3, hb3⟩; obtain ⟨a3, cap3, rfl⟩ := own_slice own3))
      exact bodyPost_ret (v := .tuple #[.slice none 0 0, .int .i64 E, .int .i64 A]) (by simp [results, Tryz.results44, go_sem]) rfl ⟨rfl, below_then (below_then (below_then B0 hb1) hb2) hb3⟩

end Go.Proofs.YtjaffmmocbplaabGreatDoor

namespace Go.Proofs.YtjaffmmocbplaabGreatDoor
open Go.RowKit
set_option linter.unusedVariables false
attribute [local go_sem ↓] Go.wp_at_zero Go.wp_at_succ

def slen : Value → Nat
  | .slice _ n _ => n
  | _ => 0
theorem rep_snoc (l : List Per) (m : Nat) : l ++ List.replicate (m + 1) per0 = (l ++ List.replicate m per0) ++ [per0] := by rw [List.replicate_succ', List.append_assoc]
theorem own_out {w : World} {base : Nat} {e : TypeId} {size : Nat} {v : Value} {n : Nat} {xs : List Value} (h : w.ownsRow base e size v n xs) {l : Nat} (h2 : v.ownBlock ≠ some l) (j : Nat) (u : Value) : (w.setCell ⟨l, j, none⟩ u).ownsRow base e size v n xs :=
  h.kept ⟨rfl, rfl, rfl, by simp [World.setCell], fun k _ hr => Below.heap_setCell _ _ _ _ (fun e => hr (by rw [e]))⟩ (.inr h2)
theorem own_drewN {w : World} {base : Nat} {e : TypeId} {size : Nat} {v : Value} {n : Nat} {xs : List Value} (h : w.ownsRow base e size v n xs) (k : Nat) : (w.drewN k).ownsRow base e size v n xs := h

def incI (q : Per) (v : Txt.Val) (c : Int) : Per := ⟨if c = 0 then q.i0 + v.i else q.i0, if c = 1 then q.i1 + v.i else q.i1, if c = 2 then q.i2 + v.i else q.i2, q.o, q.pk⟩
def pIc (q : Per) (c : Int) : Int := if c = 0 then q.i0 else if c = 1 then q.i1 else q.i2
theorem addV_inc (q : Per) (v : Txt.Val) (c step : Int) : addV q v c step = ⟨(incI q v c).i0, (incI q v c).i1, (incI q v c).i2, (incI q v c).o + v.o, if (incI q v c).pk < pw v step then pw v step else (incI q v c).pk⟩ := rfl

set_option maxRecDepth 1000000 in
set_option maxHeartbeats 4000000 in
theorem refSplit_run (t : Trf) (step start : Int) (v : Value) (l : List Txt.Val) (w : World) (h : VRow w v l) (s0 : t.h0.size ≤ maxLen) (s1 : t.h1.size ≤ maxLen) (s2 : t.h2.size ≤ maxLen) (s3 : t.h3.size ≤ maxLen) (hm : meterB step start l = true) (ht : badN t = 13) (hfe : fE step start t.gap l = 0) :
    Calls Tryz.prog 44 #[.agg #[.int .i64 step, .int .i64 start, v], .agg #[.int .i64 t.z.off, .int .i64 t.z.f.m, .int .i64 t.z.f.w, .int .i64 t.z.f.d, .int .i64 t.z.f.h, .int .i64 t.z.t.m, .int .i64 t.z.t.w, .int .i64 t.z.t.d, .int .i64 t.z.t.h, .int .i64 t.days, .int .i64 t.gap, .int .i64 t.first, .int .i64 t.last, .string t.h0, .string t.h1, .string t.h2, .string t.h3, .int .i64 t.b0.x, .int .i64 t.b0.y, .int .i64 t.b0.z, .int .i64 t.b1.x, .int .i64 t.b1.y, .int .i64 t.b1.z, .int .i64 t.b2.x, .int .i64 t.b2.y, .int .i64 t.b2.z, .int .i64 t.d.x, .int .i64 t.d.y, .int .i64 t.d.z, .int .i64 t.np, .int .i64 t.nn, .int .i64 t.fix, .int .i64 t.min, .int .i64 t.tax]] w fun e w' => ∃ v', e = .returned (.tuple #[v', .int .i64 (ppE t step start (fL step start t.gap l)), .int .i64 (ppA t step start (fL step start t.gap l))]) ∧
      w'.ownsRow w.heap.size 117 5 v' (ppL t step start (fL step start t.gap l)).length (pcs (ppL t step start (fL step start t.gap l))) ∧ Below w.heap.size w w' := by
  obtain ⟨i0, hi, hz0, hz1, hz2⟩ := info_parts infoRP
  have vm := fun w1 (hb : Below w.heap.size w w1) => GoodMeter_any step start v l w1 (h.below hb)
  have bl := fun w1 => GoodTariff_any t w1 s0 s1 s2 s3
  have fl1 := fun w1 (hb : Below w.heap.size w w1) => refFill_any step start t.gap v l w1 (h.below hb)
  rw [hm] at vm
  rw [show goodB t = true by unfold goodB; simp [ht]] at bl
  rw [hfe] at fl1
  obtain ⟨hs, hst⟩ := meterB_step hm
  obtain ⟨len1, len2, hall⟩ := meterB_fit hm
  have hLn := (fL_len step start t.gap l).2
  have hLv : (fL step start t.gap l).all valB = true := by
    unfold fL; split
    · split
      · rename_i hr; exact fl_valB hall hr
      · rfl
    · rfl
  have hL1 : 1 ≤ (fL step start t.gap l).length := by
    unfold fE at hfe
    unfold fL
    split at hfe
    · rename_i h1
      rw [if_pos h1]
      split at hfe
      · rename_i h2; rw [if_pos h2, Fil.fl_len]; exact len1
      · exact absurd hfe (by decide)
    · exact absurd hfe (by decide)
  obtain ⟨dd1, dd2⟩ := days_ok ht
  obtain ⟨L, hL⟩ : ∃ L, L = fL step start t.gap l := ⟨_, rfl⟩
  obtain ⟨A, hA⟩ : ∃ A, A = fA step start t.gap l := ⟨_, rfl⟩
  rw [← hL] at fl1 hLn hLv hL1
  rw [← hA] at fl1
  rw [← hL]
  obtain ⟨a, cap, rfl⟩ := h.form
  have B0 : Below w.heap.size w ((w.alloc (.cells #[.int .i64 step, .int .i64 start, .slice a l.length cap] 56)).alloc (.cells #[.int .i64 t.z.off, .int .i64 t.z.f.m, .int .i64 t.z.f.w, .int .i64 t.z.f.d, .int .i64 t.z.f.h, .int .i64 t.z.t.m, .int .i64 t.z.t.w, .int .i64 t.z.t.d, .int .i64 t.z.t.h, .int .i64 t.days, .int .i64 t.gap, .int .i64 t.first, .int .i64 t.last, .string t.h0, .string t.h1, .string t.h2, .string t.h3, .int .i64 t.b0.x, .int .i64 t.b0.y, .int .i64 t.b0.z, .int .i64 t.b1.x, .int .i64 t.b1.y, .int .i64 t.b1.z, .int .i64 t.b2.x, .int .i64 t.b2.y, .int .i64 t.b2.z, .int .i64 t.d.x, .int .i64 t.d.y, .int .i64 t.d.z, .int .i64 t.np, .int .i64 t.nn, .int .i64 t.fix, .int .i64 t.min, .int .i64 t.tax] 67)) := below_more (below_more (Below.refl _ _) _) _
  have MT : ((w.alloc (.cells #[.int .i64 step, .int .i64 start, .slice a l.length cap] 56)).alloc (.cells #[.int .i64 t.z.off, .int .i64 t.z.f.m, .int .i64 t.z.f.w, .int .i64 t.z.f.d, .int .i64 t.z.f.h, .int .i64 t.z.t.m, .int .i64 t.z.t.w, .int .i64 t.z.t.d, .int .i64 t.z.t.h, .int .i64 t.days, .int .i64 t.gap, .int .i64 t.first, .int .i64 t.last, .string t.h0, .string t.h1, .string t.h2, .string t.h3, .int .i64 t.b0.x, .int .i64 t.b0.y, .int .i64 t.b0.z, .int .i64 t.b1.x, .int .i64 t.b1.y, .int .i64 t.b1.z, .int .i64 t.b2.x, .int .i64 t.b2.y, .int .i64 t.b2.z, .int .i64 t.d.x, .int .i64 t.d.y, .int .i64 t.d.z, .int .i64 t.np, .int .i64 t.nn, .int .i64 t.fix, .int .i64 t.min, .int .i64 t.tax] 67)).heap[w.heap.size + 1]? = some (.cells #[.int .i64 t.z.off, .int .i64 t.z.f.m, .int .i64 t.z.f.w, .int .i64 t.z.f.d, .int .i64 t.z.f.h, .int .i64 t.z.t.m, .int .i64 t.z.t.w, .int .i64 t.z.t.d, .int .i64 t.z.t.h, .int .i64 t.days, .int .i64 t.gap, .int .i64 t.first, .int .i64 t.last, .string t.h0, .string t.h1, .string t.h2, .string t.h3, .int .i64 t.b0.x, .int .i64 t.b0.y, .int .i64 t.b0.z, .int .i64 t.b1.x, .int .i64 t.b1.y, .int .i64 t.b1.z, .int .i64 t.b2.x, .int .i64 t.b2.y, .int .i64 t.b2.z, .int .i64 t.d.x, .int .i64 t.d.y, .int .i64 t.d.z, .int .i64 t.np, .int .i64 t.nn, .int .i64 t.fix, .int .i64 t.min, .int .i64 t.tax] 67) := heap_alloc2_new _ _ _
  have HLV := hideF hLv
  have HT := hideF ht
  have HL1 := hideF hL1
  have hd0 : ¬ t.days = 0 := by omega
  clear hL hA h hm hfe hall hLv len1 len2 ht hL1
  go_enter Tryz.func44, Tryz.ntmps44
  go_wp2_with (first
    | (refine wpList_load_row rfl 67 _ rfl (w.heap.size + 1) rfl 67 _ (0, 0) _ mt1 Tryz.underlying67 rfl (by kernel_rfl) ?_)
    | (go_at_call 39; refine (vm _ B0).mono ?_; rintro e w1 ⟨rfl, hb1⟩; obtain ⟨hc1, hf1⟩ := bcell hb1; have mt1 := (hb1.block (w.heap.size + 1) (by simp)).trans MT; have hs1 : w.heap.size + 1 < w1.heap.size := (by have := hb1.size; simp at this; omega); have hs1' : w.heap.size < w1.heap.size := (by omega))
    | (go_at_call 76; refine (bl _).mono ?_; rintro e w2 ⟨rfl, hb2⟩; obtain ⟨hc2, hf2⟩ := bcell hb2)
    | (go_at_call 77; refine (fl1 _ (below_then (below_then B0 hb1) hb2)).mono ?_; rintro e w3 ⟨v3, rfl, own3, hb3⟩; obtain ⟨a3, cap3, rfl⟩ := own_slice own3))
  have hs2 := hb2.size
  have hs3 := hb3.size
  have B3 := below_then (below_then (below_then B0 hb1) hb2) hb3
  have M0 : w3.cell? ⟨w.heap.size, 0, none⟩ = some (.int .i64 step) := vcell_below hb3 (by omega) (vcell_below hb2 (by omega) (vcell_below hb1 (by simp; omega) (by simp [go_sem])))
  have M1 : w3.cell? ⟨w.heap.size, 1, none⟩ = some (.int .i64 start) := vcell_below hb3 (by omega) (vcell_below hb2 (by omega) (vcell_below hb1 (by simp; omega) (by simp [go_sem])))
  have mt3 : w3.heap[w.heap.size + 1]? = some (.cells #[.int .i64 t.z.off, .int .i64 t.z.f.m, .int .i64 t.z.f.w, .int .i64 t.z.f.d, .int .i64 t.z.f.h, .int .i64 t.z.t.m, .int .i64 t.z.t.w, .int .i64 t.z.t.d, .int .i64 t.z.t.h, .int .i64 t.days, .int .i64 t.gap, .int .i64 t.first, .int .i64 t.last, .string t.h0, .string t.h1, .string t.h2, .string t.h3, .int .i64 t.b0.x, .int .i64 t.b0.y, .int .i64 t.b0.z, .int .i64 t.b1.x, .int .i64 t.b1.y, .int .i64 t.b1.z, .int .i64 t.b2.x, .int .i64 t.b2.y, .int .i64 t.b2.z, .int .i64 t.d.x, .int .i64 t.d.y, .int .i64 t.d.z, .int .i64 t.np, .int .i64 t.nn, .int .i64 t.fix, .int .i64 t.min, .int .i64 t.tax] 67) := (hb3.block _ (by omega)).trans ((hb2.block _ (by omega)).trans mt1)
  have U3 := hideF (VRow.of_own own3 rfl)
  have hw3 : w.heap.size + 1 < w3.heap.size := by omega
  have HM0 := hideF M0
  have HM1 := hideF M1
  have HMT := hideF mt3
  clear hc1 hf1 hc2 hf2 hb1 hb2 hb3 own3 mt1 MT B0 vm bl fl1 M0 M1 mt3
  go_loopw [12, 13, 14] (fun f fd p wr => ∃ (k : Nat) (F0 : Int), p = .int .i64 k ∧ k ≤ L.length ∧ (∀ j, j < k → okC t step start j = true) ∧ fd = .int .i64 F0 ∧ (¬ k = 0 → F0 = dayAt t step start 0) ∧
      wr.ownsRow w3.heap.size 117 5 f (docR t step start L k).length (pcs (docR t step start L k)) ∧ Below w3.heap.size w3 wr) (fun _ _ p _ => L.length - (intOf p).toNat)
  case atStart => exact ⟨0, 0, rfl, by omega, fun j hj => by omega, rfl, fun h => absurd rfl h, World.ownsRow_nil _ _ _ _, Below.refl _ _⟩
  case round =>
    obtain ⟨k, F0, rfl, hk, hpre, rfl, hF0, hown, hb⟩ := hrel
    have HPRE := hideF hpre
    have HF0 := hideF hF0
    have hsz := hb.size
    have m0 := vcell_below hb (show w.heap.size < w3.heap.size by omega) HM0.out
    have m1 := vcell_below hb (show w.heap.size < w3.heap.size by omega) HM1.out
    obtain ⟨a0, cap0, rfl⟩ := own_slice hown
    clear hpre hF0
    by_cases hlt : k < L.length
    · have hlt' : (k : Int) < (L.length : Int) := by omega
      have hk0 : (0 : Int) ≤ (k : Int) := by omega
      have hks : 0 ≤ (k : Int) * step ∧ (k : Int) * step ≤ 12000 := by rcases hs with rfl | rfl | rfl <;> omega
      have mt := (hb.block (w.heap.size + 1) (by omega)).trans HMT.out
      have t0 : wr.cell? ⟨w.heap.size + 1, 0, none⟩ = some (.int .i64 t.z.off) := (cell_of_row _ _ _ _ _ _ mt).trans rfl
      have t1 : wr.cell? ⟨w.heap.size + 1, 1, none⟩ = some (.int .i64 t.z.f.m) := (cell_of_row _ _ _ _ _ _ mt).trans rfl
      have t2 : wr.cell? ⟨w.heap.size + 1, 2, none⟩ = some (.int .i64 t.z.f.w) := (cell_of_row _ _ _ _ _ _ mt).trans rfl
      have t3 : wr.cell? ⟨w.heap.size + 1, 3, none⟩ = some (.int .i64 t.z.f.d) := (cell_of_row _ _ _ _ _ _ mt).trans rfl
      have t4 : wr.cell? ⟨w.heap.size + 1, 4, none⟩ = some (.int .i64 t.z.f.h) := (cell_of_row _ _ _ _ _ _ mt).trans rfl
      have t5 : wr.cell? ⟨w.heap.size + 1, 5, none⟩ = some (.int .i64 t.z.t.m) := (cell_of_row _ _ _ _ _ _ mt).trans rfl
      have t6 : wr.cell? ⟨w.heap.size + 1, 6, none⟩ = some (.int .i64 t.z.t.w) := (cell_of_row _ _ _ _ _ _ mt).trans rfl
      have t7 : wr.cell? ⟨w.heap.size + 1, 7, none⟩ = some (.int .i64 t.z.t.d) := (cell_of_row _ _ _ _ _ _ mt).trans rfl
      have t8 : wr.cell? ⟨w.heap.size + 1, 8, none⟩ = some (.int .i64 t.z.t.h) := (cell_of_row _ _ _ _ _ _ mt).trans rfl
      clear mt
      cases hok : okC t step start k
      case false =>
        have HG := hideF (pp_no hlt HPRE.out hok)
        have ck := fun w1 => refClock_no t.z (start + k * step) w1 hok
        clear hok
        go_wp2_with (go_at_call 78; refine (ck _).mono ?_; rintro e w4 ⟨rfl, hb4⟩)
        exact bodyPost_ret (v := .tuple #[.slice none 0 0, .int .i64 3, .int .i64 k]) (by simp [results, Tryz.results44, go_sem]) rfl ⟨_, ret_fill rfl HG.out.1 HG.out.2.1, by rw [HG.out.2.2]; exact World.ownsRow_nil _ _ _ _, below_then (below_then B3 hb) hb4⟩
      case true =>
        have ck : ∀ w1, Calls Tryz.prog 78 #[.agg #[.int .i64 t.z.off, .int .i64 t.z.f.m, .int .i64 t.z.f.w, .int .i64 t.z.f.d, .int .i64 t.z.f.h, .int .i64 t.z.t.m, .int .i64 t.z.t.w, .int .i64 t.z.t.d, .int .i64 t.z.t.h], .int .i64 (start + k * step)] w1 fun e w' => e = .returned (.tuple #[.int .i64 (dayAt t step start k), .int .i64 (minAt t step start k), .int .i64 0]) ∧ Below w1.heap.size w1 w' := fun w1 => refClock_yes t.z (start + k * step) w1 hok
        obtain ⟨e0, e1, e2, e3⟩ := okC_day hok
        have HNEXT : Hid (∀ j, j < k + 1 → okC t step start j = true) := fun j hj => by
          rcases Nat.lt_or_ge j k with g | g
          · exact HPRE.out j g
          · have : j = k := by omega
            subst this; exact hok
        have hok0 : okC t step start 0 = true := HNEXT.out 0 (by omega)
        obtain ⟨z0, z1, _, _⟩ := okC_day hok0
        have hday := day0_le (t := t) (step := step) (start := start) (by omega) k HNEXT.out
        obtain ⟨hKe, hKb⟩ := docK_bd HT.out hok0 hok hday
        have co := fun w1 => refClass_any t (dayAt t step start k) (minAt t step start k) w1 HT.out e0 e1 e2 e3
        have cb := clsOf_bd HT.out (day := dayAt t step start k) (hour := minAt t step start k / 60) (by omega) (by omega)
        obtain ⟨x, hx⟩ : ∃ x, L[k]? = some x := ⟨L[k], List.getElem?_eq_getElem hlt⟩
        have vx := valB_bd (List.all_eq_true.mp HLV.out x (List.mem_of_getElem? hx))
        have HSTEP : Hid (docR t step start L (k + 1) = (docG (docR t step start L k) (docK t step start k)).set (docK t step start k) (addV (pAt (docG (docR t step start L k) (docK t step start k)) (docK t step start k)) x (clsOf t (dayAt t step start k) (minAt t step start k / 60)) step)) := by
          show docS t step start L (docR t step start L k) k = _
          unfold docS
          rw [Fil.vAt_some hx]
        have HOKQ := docP_ok HT.out hs HLV.out hk HPRE.out (docK t step start k)
        have HRB := (doc_ok HT.out hs HLV.out k hk HPRE.out).2
        have HX : Hid (L[k]? = some x) := hx
        have HDD : Hid (k = 0 → dayAt t step start k = dayAt t step start 0) := fun e => by rw [e]
        obtain ⟨R, hR⟩ : ∃ R, R = docR t step start L k := ⟨_, rfl⟩
        rw [← hR] at hown HSTEP HOKQ HRB ⊢
        obtain ⟨K, hK⟩ : ∃ K, K = docK t step start k := ⟨_, rfl⟩
        rw [← hK] at hKe hKb HSTEP HOKQ
        obtain ⟨D0, hD0⟩ : ∃ D, D = dayAt t step start 0 := ⟨_, rfl⟩
        rw [← hD0] at hKe z0 z1 hday HDD HF0
        obtain ⟨D, hD⟩ : ∃ D, D = dayAt t step start k := ⟨_, rfl⟩
        obtain ⟨Mi, hMi⟩ : ∃ Mi, Mi = minAt t step start k := ⟨_, rfl⟩
        rw [← hD, ← hMi] at ck co cb HSTEP
        rw [← hD] at e0 e1 hKe hday HDD
        rw [← hMi] at e2 e3
        obtain ⟨C, hC⟩ : ∃ C, C = clsOf t D (Mi / 60) := ⟨_, rfl⟩
        rw [← hC] at co cb HSTEP
        have HHR := hideF hR
        have HHD0 := hideF hD0
        clear hok hx hR hK hD0 hD hMi hC hok0
        go_upto_if 66 with (go_at_call 78; refine (ck _).mono ?_; rintro e w4 ⟨rfl, hb4⟩)
        have B4 := below_then hb hb4
        have own4 := own_below hown hb4
        go_cut [13] from 42 to 130 (fun fd wc => ∃ FD : Int, fd = .int .i64 FD ∧ Hid (FD = D0) ∧ wc = w4)
        case first =>
          by_cases hkz : k = 0
          · have q2B : ((k : Int) == 0) = true := by simp; omega
            have HKZ := hideF hkz
            clear hkz
            go_wp2_with fail
            go_meet
            case rel => exact ⟨D, rfl, HDD.out HKZ.out, rfl⟩
          · have q2B : ((k : Int) == 0) = false := by simp; omega
            have HKZ := hideF hkz
            clear hkz
            go_wp2_with fail
            go_meet
            case rel => exact ⟨F0, rfl, HF0.out HKZ.out, rfl⟩
        case rest =>
          obtain ⟨FD, rfl, HFD, hwc⟩ := hcut
          have hwc2 := hwc.symm
          subst hwc2
          have hFb : 0 ≤ FD ∧ FD ≤ 36524 := by rw [HFD.out]; exact ⟨z0, z1⟩
          have htd : (D - FD).tdiv t.days = (K : Int) := by rw [HFD.out, hKe]; exact Int.tdiv_eq_ediv_of_nonneg (by omega)
          have t9 : w4.cell? ⟨w.heap.size + 1, 9, none⟩ = some (.int .i64 t.days) := (cell_of_row _ _ _ _ _ _ ((B4.block (w.heap.size + 1) (by omega)).trans HMT.out)).trans rfl
          have HKE := hideF hKe
          clear hKe t0 t1 t2 t3 t4 t5 t6 t7 t8 m0 m1 hown hb4 ck hb
          go_wp2_with fail
          go_loopw [12] (fun f wi => ∃ m : Nat, m ≤ K + 1 - R.length ∧ wi.ownsRow w3.heap.size 117 5 f (R.length + m) (pcs (R ++ List.replicate m per0)) ∧ Below w3.heap.size w3 wi) (fun f _ => K + 1 - slen f)
          case atStart => exact ⟨0, by omega, by have e : R ++ List.replicate 0 per0 = R := (by simp); rw [e]; exact own4, B4⟩
          case round =>
            clear own4 B4 t9
            obtain ⟨m, hmle, hown2, hb2⟩ := hrel
            obtain ⟨a02, cap02, rfl⟩ := own_slice hown2
            have hsz2 := hb2.size
            have hoN : ∀ j, (Value.ownBlock (.slice a02 (R.length + m) cap02)) = some j → w3.heap.size ≤ j := fun j hj => (hown2.lt j hj).1
            by_cases hle : R.length + m ≤ K
            · have hle' : ((R.length + m : Nat) : Int) ≤ (K : Int) := by omega
              have hsl := hideF hle
              obtain ⟨N, hN⟩ : ∃ N, N = R.length + m := ⟨_, rfl⟩
              have HN := hideF hN
              rw [← hN] at hle' hown2 hoN
              rw [← hN]
              clear hN hle
              go_wp2_with (at_builtin; refine wpList_append_own _ rfl _ _ 114 rfl w3.heap.size 117 i0 (.agg #[.int .i64 0, .int .i64 0, .int .i64 0, .int .i64 0, .int .i64 0]) 5 40 Tryz.underlying114 hi hz0 hz1 hz2 rfl (by decide) _ _ _ rfl (hown2.alloc _) ⟨wr.heap.size, 0, none⟩ 1 1 (pcell per0) rfl rfl (by have := cell_five_new wr (.int .i64 0) (.int .i64 0) (.int .i64 0) (.int .i64 0) (.int .i64 0) 117; simpa [pcell, per0] using this) (fun x hx => by simp [pcell] at hx; rcases hx with rfl | rfl | rfl | rfl | rfl <;> rfl) (by unfold maxLen; omega) (by omega) (by simp; omega) ?_; intro v' w6 own6 g6 nil6; obtain ⟨a6, cap6, rfl⟩ := own_slice own6)
              go_roundw
              case rel =>
                refine ⟨m + 1, by have := hsl.out; omega, ?_, Below.grown (below_more hb2 _) g6 (by simp; omega) (fun j' hj' => hoN j' hj')⟩
                rw [rep_snoc, pcs_snoc, ← Nat.add_assoc, ← HN.out]; exact own6
              case measure => have := hsl.out; have := HN.out; simp [slen]; omega
            · have hle' : ¬ ((R.length + m : Nat) : Int) ≤ (K : Int) := by omega
              have hme : m = K + 1 - R.length := by omega
              have hGe : R ++ List.replicate m per0 = docG R K := by rw [hme]; rfl
              have hGl : R.length + m = (docG R K).length := by rw [← hGe]; simp
              rw [hGe, hGl] at hown2
              rw [hGl] at hle' hoN
              rw [hGl]
              have hKlt : K < (docG R K).length := docG_lt R K
              have hGb : (docG R K).length ≤ 36556 := by rw [docG_len]; split <;> omega
              obtain ⟨G, hG⟩ : ∃ G, G = docG R K := ⟨_, rfl⟩
              rw [← hG] at hown2 hle' hoN hKlt HSTEP HOKQ hGb
              rw [← hG]
              obtain ⟨Q, hQ⟩ : ∃ Q, Q = pAt G K := ⟨_, rfl⟩
              have hgq := sp_at hKlt
              rw [← hQ] at HSTEP HOKQ hgq
              have hgq2 := hgq
              obtain ⟨g, cap', eg, hgb, hglt⟩ := hown2.form (by omega)
              cases eg
              have hcapP : (G.length : Int) ≤ (cap02 : Int) := by
                rcases hown2.2 with ⟨h1, _⟩ | ⟨g', cap', cur, hv, _, _, hc, _⟩
                · cases h1
                · cases hv; omega
              obtain ⟨c0', c1', c2', c3', c4'⟩ := pcs_get G K Q hgq
              have c0 : wr.cell? ⟨g, K * 5, none⟩ = some (.int .i64 Q.i0) := by rw [hown2.cellAt _ (by omega)]; exact c0'
              have c1 : wr.cell? ⟨g, K * 5 + 1, none⟩ = some (.int .i64 Q.i1) := by rw [hown2.cellAt _ (by omega)]; exact c1'
              have c2 : wr.cell? ⟨g, K * 5 + 2, none⟩ = some (.int .i64 Q.i2) := by rw [hown2.cellAt _ (by omega)]; exact c2'
              have c3 : wr.cell? ⟨g, K * 5 + 3, none⟩ = some (.int .i64 Q.o) := by rw [hown2.cellAt _ (by omega)]; exact c3'
              have c4 : wr.cell? ⟨g, K * 5 + 4, none⟩ = some (.int .i64 Q.pk) := by rw [hown2.cellAt _ (by omega)]; exact c4'
              have hkk0 : (0 : Int) ≤ (K : Int) := by omega
              have hkk1 : (K : Int) < (G.length : Int) := by omega
              have mtA : (wr.alloc (.cells #[.int .i64 Q.i0, .int .i64 Q.i1, .int .i64 Q.i2, .int .i64 Q.o, .int .i64 Q.pk] 117)).heap[w.heap.size + 1]? = some (.cells #[.int .i64 t.z.off, .int .i64 t.z.f.m, .int .i64 t.z.f.w, .int .i64 t.z.f.d, .int .i64 t.z.f.h, .int .i64 t.z.t.m, .int .i64 t.z.t.w, .int .i64 t.z.t.d, .int .i64 t.z.t.h, .int .i64 t.days, .int .i64 t.gap, .int .i64 t.first, .int .i64 t.last, .string t.h0, .string t.h1, .string t.h2, .string t.h3, .int .i64 t.b0.x, .int .i64 t.b0.y, .int .i64 t.b0.z, .int .i64 t.b1.x, .int .i64 t.b1.y, .int .i64 t.b1.z, .int .i64 t.b2.x, .int .i64 t.b2.y, .int .i64 t.b2.z, .int .i64 t.d.x, .int .i64 t.d.y, .int .i64 t.d.z, .int .i64 t.np, .int .i64 t.nn, .int .i64 t.fix, .int .i64 t.min, .int .i64 t.tax] 67) := (heap_alloc_old _ _ (by omega)).trans ((hb2.block _ (by omega)).trans HMT.out)
              have HMA := hideF mtA
              have hpg : (Value.ownBlock (.slice (some ⟨g, 0, none⟩) G.length cap02)) ≠ some wr.heap.size := fun e => by have := (hown2.lt _ e).2; omega
              clear hme hGe hGl hG hQ c0' c1' c2' c3' c4' hgq mtA hle
              go_wp2_with (first
                | (with_reducible show wpList _ _ _ _ _ (wr.alloc (.cells #[.int .i64 Q.i0, .int .i64 Q.i1, .int .i64 Q.i2, .int .i64 Q.o, .int .i64 Q.pk] 117)); refine wpList_load_row rfl 67 _ rfl (w.heap.size + 1) rfl 67 _ (0, 0) _ HMA.out Tryz.underlying67 rfl (by kernel_rfl) ?_)
                | (go_at_call 79; refine (co _).mono ?_; rintro e w5 ⟨rfl, hb5⟩))
              have RP : w5.heap[wr.heap.size]? = some (.cells #[.int .i64 Q.i0, .int .i64 Q.i1, .int .i64 Q.i2, .int .i64 Q.o, .int .i64 Q.pk] 117 (0, 0)) := (hb5.block _ (by simp)).trans (heap_alloc_new _ _)
              have hb6 : Below wr.heap.size wr w5 := below_then (below_more (Below.refl _ _) _) hb5
              have B5 := below_then hb2 hb6
              have own5 := own_below hown2 hb6
              have y0 : w5.cell? ⟨wr.heap.size, 0, none⟩ = some (.int .i64 Q.i0) := cell_of_row _ _ _ _ _ _ RP
              have y1 : w5.cell? ⟨wr.heap.size, 1, none⟩ = some (.int .i64 Q.i1) := cell_of_row _ _ _ _ _ _ RP
              have y2 : w5.cell? ⟨wr.heap.size, 2, none⟩ = some (.int .i64 Q.i2) := cell_of_row _ _ _ _ _ _ RP
              have y3 : w5.cell? ⟨wr.heap.size, 3, none⟩ = some (.int .i64 Q.o) := cell_of_row _ _ _ _ _ _ RP
              have y4 : w5.cell? ⟨wr.heap.size, 4, none⟩ = some (.int .i64 Q.pk) := cell_of_row _ _ _ _ _ _ RP
              have f0 : w5.frozen? ⟨wr.heap.size, 0, none⟩ = false := frozen_of_row _ _ _ _ _ RP
              have f1 : w5.frozen? ⟨wr.heap.size, 1, none⟩ = false := frozen_of_row _ _ _ _ _ RP
              have f2 : w5.frozen? ⟨wr.heap.size, 2, none⟩ = false := frozen_of_row _ _ _ _ _ RP
              have f3 : w5.frozen? ⟨wr.heap.size, 3, none⟩ = false := frozen_of_row _ _ _ _ _ RP
              have f4 : w5.frozen? ⟨wr.heap.size, 4, none⟩ = false := frozen_of_row _ _ _ _ _ RP
              have HGQ := hideF hgq2
              obtain ⟨b, off, eb, hcap, hblt0, x0', x1', x2'⟩ := U3.out.at HX.out
              cases eb
              have HX0 := hideF x0'
              have HX1 := hideF x1'
              have hcap' : (L.length : Int) ≤ (cap3 : Int) := by omega
              have hs5 := hb5.size
              simp at hs5
              have n1 : ¬ b = wr.heap.size := by omega
              have n1' : ¬ wr.heap.size = b := by omega
              have hq := HOKQ
              simp only [okP] at hq
              obtain ⟨⟨q1, q2⟩, ⟨q3, q4⟩, ⟨q5, q6⟩, ⟨q7, q8⟩, q9, q10⟩ := hq
              have hle3 : w3.heap.size ≤ wr.heap.size := hsz2
              have HS2 : Hid (docR t step start L (k + 1) = G.set K (addV Q x C step)) := HSTEP.out
              have HO5 := hideF own5
              have HB5 := hideF B5
              clear RP hb5 hb6 c0 c1 c2 c3 c4 x0' x1' x2' HMA HOKQ hown2 hb2 HSTEP co own5 hgq2
              go_upto_region 25 with fail
              have KEY : Hid (∀ n, PAt ((w5.setCell ⟨wr.heap.size, C.toNat, none⟩ (.int .i64 (pIc Q C + x.i))).drewN n) wr.heap.size (incI Q x C)) := by
                intro n
                rcases (by omega : C = 0 ∨ C = 1 ∨ C = 2) with hC | hC | hC <;> subst hC <;> constructor <;> simp [go_sem, incI, pIc, y0, y1, y2, y3, y4, f0, f1, f2, f3, f4]
              go_cut [20] from 42 to 130 (fun s wc => s = .int .i64 C ∧ ∃ n, wc = (w5.setCell ⟨wr.heap.size, C.toNat, none⟩ (.int .i64 (pIc Q C + x.i))).drewN n)
              case first =>
                have x0 := vcell_below HB5.out hblt0 HX0.out
                clear B3 hFb htd hKb HRB hGb hcapP hkk0 hkk1 hle' q7 q8 q9 q10 hday z0 z1 hd0 hst hw3 KEY
                rcases (by omega : C = 0 ∨ C = 1 ∨ C = 2) with hC | hC | hC
                · subst hC
                  have kwA : IntKind.i64.wrap (Q.i0 + x.i) = Q.i0 + x.i := Go.IntWalk.i64_in _ (by omega)
                  clear q1 q2 q3 q4 q5 q6
                  go_region
                  all_goals
                    go_wp2_with fail
                    go_meet
                    case rel => exact ⟨rfl, _, rfl⟩
                · subst hC
                  have kwA : IntKind.i64.wrap (Q.i1 + x.i) = Q.i1 + x.i := Go.IntWalk.i64_in _ (by omega)
                  clear q1 q2 q3 q4 q5 q6
                  go_region
                  all_goals
                    go_wp2_with fail
                    go_meet
                    case rel => exact ⟨rfl, _, rfl⟩
                · subst hC
                  have kwA : IntKind.i64.wrap (Q.i2 + x.i) = Q.i2 + x.i := Go.IntWalk.i64_in _ (by omega)
                  clear q1 q2 q3 q4 q5 q6
                  go_region
                  all_goals
                    go_wp2_with fail
                    go_meet
                    case rel => exact ⟨rfl, _, rfl⟩
              case rest =>
                obtain ⟨rfl, n25, hwc⟩ := hcut
                have pat : PAt wc wr.heap.size (incI Q x C) := by rw [hwc]; exact KEY.out n25
                have ownc : wc.ownsRow w3.heap.size 117 5 (.slice (some ⟨g, 0, none⟩) G.length cap02) G.length (pcs G) := by rw [hwc]; exact own_drewN (own_out HO5.out hpg _ _) _
                have Bc : Below w3.heap.size w3 wc := by rw [hwc]; exact below_drewN (Below.setCell HB5.out hle3 _) _
                clear hwc KEY HO5 HB5 y0 y1 y2 y3 y4 f0 f1 f2 f3 f4
                have HADD : Hid (addV Q x C step = ⟨(incI Q x C).i0, (incI Q x C).i1, (incI Q x C).i2, (incI Q x C).o + x.o, if (incI Q x C).pk < pw x step then pw x step else (incI Q x C).pk⟩) := addV_inc Q x C step
                have hio : (incI Q x C).o = Q.o ∧ (incI Q x C).pk = Q.pk := ⟨rfl, rfl⟩
                obtain ⟨I, hI⟩ : ∃ I, I = incI Q x C := ⟨_, rfl⟩
                rw [← hI] at pat HADD hio
                have hIo : 0 ≤ I.o ∧ I.o ≤ k * 999999999 := by rw [hio.1]; exact ⟨q7, q8⟩
                have kwB : IntKind.i64.wrap (I.o + x.o) = I.o + x.o := Go.IntWalk.i64_in _ (by omega)
                have x1 := vcell_below Bc hblt0 HX1.out
                have pat' := pat
                obtain ⟨y0, y1, y2, y3, y4, f0, f1, f2, f3, f4⟩ := pat'
                have HOC := hideF ownc
                have HBC := hideF Bc
                have hszc : wr.heap.size < wc.heap.size := pat.lt
                clear hI hio ownc Bc pat
                go_upto_region 26 with fail
                have KEY : Hid (∀ n, PAt ((wc.setCell ⟨wr.heap.size, 3, none⟩ (.int .i64 (I.o + x.o))).drewN n) wr.heap.size ⟨I.i0, I.i1, I.i2, I.o + x.o, I.pk⟩) := by
                  intro n
                  constructor <;> simp [go_sem, y0, y1, y2, y3, y4, f0, f1, f2, f3, f4]
                go_cut [20] from 42 to 130 (fun s wd => s = .int .i64 C ∧ ∃ n, wd = (wc.setCell ⟨wr.heap.size, 3, none⟩ (.int .i64 (I.o + x.o))).drewN n)
                case first =>
                  clear B3 hFb htd hKb HRB hGb hcapP hkk0 hkk1 hle' q1 q2 q3 q4 q5 q6 q7 q8 q9 q10 hday z0 z1 hd0 hst hw3 KEY
                  go_region
                  all_goals
                    go_wp2_with fail
                    go_meet
                    case rel => exact ⟨rfl, _, rfl⟩
                case rest =>
                  obtain ⟨rfl, n26, hwd⟩ := hcut
                  have pat : PAt wc wr.heap.size ⟨I.i0, I.i1, I.i2, I.o + x.o, I.pk⟩ := by rw [hwd]; exact KEY.out n26
                  have ownd : wc.ownsRow w3.heap.size 117 5 (.slice (some ⟨g, 0, none⟩) G.length cap02) G.length (pcs G) := by rw [hwd]; exact own_drewN (own_out HOC.out hpg _ _) _
                  have Bd : Below w3.heap.size w3 wc := by rw [hwd]; exact below_drewN (Below.setCell HBC.out hle3 _) _
                  clear hwd KEY y0 y1 y2 y3 y4 f0 f1 f2 f3 f4 x1 HOC HBC hszc
                  obtain ⟨J, hJ⟩ : ∃ J : Per, J = ⟨I.i0, I.i1, I.i2, I.o + x.o, I.pk⟩ := ⟨_, rfl⟩
                  have HAD2 : Hid (addV Q x C step = ⟨J.i0, J.i1, J.i2, J.o, if J.pk < pw x step then pw x step else J.pk⟩) := by show _ = _; rw [HADD.out, hJ]
                  rw [← hJ] at pat
                  have x0 := vcell_below Bd hblt0 HX0.out
                  have m0 := vcell_below Bd (show w.heap.size < w3.heap.size by omega) HM0.out
                  have hpw := pw_bd vx.1 hs
                  have hst0 : ¬ step = 0 := by omega
                  have htp : (60 * x.i).tdiv step = pw x step := Int.tdiv_eq_ediv_of_nonneg (by omega)
                  obtain ⟨P, hP⟩ : ∃ P, P = pw x step := ⟨_, rfl⟩
                  rw [← hP] at hpw htp HAD2
                  have kw4 : IntKind.i64.wrap (60 * x.i) = 60 * x.i := Go.IntWalk.i64_in _ (by omega)
                  have kw5 : IntKind.i64.wrap P = P := Go.IntWalk.i64_in _ (by omega)
                  obtain ⟨c0', c1', c2', c3', c4'⟩ := pcs_get G K Q HGQ.out
                  have d0 : wc.cell? ⟨g, K * 5, none⟩ = some (.int .i64 Q.i0) := by rw [ownd.cellAt _ (by omega)]; exact c0'
                  have d1 : wc.cell? ⟨g, K * 5 + 1, none⟩ = some (.int .i64 Q.i1) := by rw [ownd.cellAt _ (by omega)]; exact c1'
                  have d2 : wc.cell? ⟨g, K * 5 + 2, none⟩ = some (.int .i64 Q.i2) := by rw [ownd.cellAt _ (by omega)]; exact c2'
                  have d3 : wc.cell? ⟨g, K * 5 + 3, none⟩ = some (.int .i64 Q.o) := by rw [ownd.cellAt _ (by omega)]; exact c3'
                  have d4 : wc.cell? ⟨g, K * 5 + 4, none⟩ = some (.int .i64 Q.pk) := by rw [ownd.cellAt _ (by omega)]; exact c4'
                  have g0 := ownd.frozenAt (K * 5)
                  have g1 := ownd.frozenAt (K * 5 + 1)
                  have g2 := ownd.frozenAt (K * 5 + 2)
                  have g3 := ownd.frozenAt (K * 5 + 3)
                  have g4 := ownd.frozenAt (K * 5 + 4)
                  have pat' := pat
                  obtain ⟨y0, y1, y2, y3, y4, f0, f1, f2, f3, f4⟩ := pat'
                  have n3 : ¬ g = wr.heap.size := by omega
                  have n3' : ¬ wr.heap.size = g := by omega
                  have hpl := pat.lt
                  clear hJ hP c0' c1' c2' c3' c4' HADD
                  by_cases hm : J.pk < P
                  · have HQ : Hid (addV Q x C step = ⟨J.i0, J.i1, J.i2, J.o, P⟩) := by show _ = _; rw [HAD2.out]; simp [hm]
                    go_wp2_with fail
                    go_quiet (fail)
                    go_wp2_with fail
                    go_roundw
                    case rel =>
                      refine ⟨k + 1, FD, by go_num, by omega, HNEXT.out, rfl, fun _ => by rw [HFD.out, HHD0.out], ?_, ?_⟩
                      · rw [HS2.out, HQ.out, List.length_set]
                        first
                          | exact own_putP (own_out (own_drewN ownd _) hpg _ _) hKlt ⟨J.i0, J.i1, J.i2, J.o, P⟩
                          | exact own_drewN (own_putP (own_out ownd hpg _ _) hKlt ⟨J.i0, J.i1, J.i2, J.o, P⟩) _
                      · first
                          | exact Below.setCell (Below.setCell (Below.setCell (Below.setCell (Below.setCell (Below.setCell (below_drewN Bd _) hle3 _) hgb _) hgb _) hgb _) hgb _) hgb _
                          | exact below_drewN (Below.setCell (Below.setCell (Below.setCell (Below.setCell (Below.setCell (Below.setCell Bd hle3 _) hgb _) hgb _) hgb _) hgb _) hgb _) _
                    case measure => simp [intOf]; omega
                  · have HQ : Hid (addV Q x C step = ⟨J.i0, J.i1, J.i2, J.o, J.pk⟩) := by show _ = _; rw [HAD2.out]; simp [hm]
                    go_wp2_with fail
                    go_quiet (fail)
                    go_wp2_with fail
                    go_roundw
                    case rel =>
                      refine ⟨k + 1, FD, by go_num, by omega, HNEXT.out, rfl, fun _ => by rw [HFD.out, HHD0.out], ?_, ?_⟩
                      · rw [HS2.out, HQ.out, List.length_set]
                        first
                          | exact own_putP (own_drewN ownd _) hKlt ⟨J.i0, J.i1, J.i2, J.o, J.pk⟩
                          | exact own_drewN (own_putP ownd hKlt ⟨J.i0, J.i1, J.i2, J.o, J.pk⟩) _
                      · first
                          | exact Below.setCell (Below.setCell (Below.setCell (Below.setCell (Below.setCell (below_drewN Bd _) hgb _) hgb _) hgb _) hgb _) hgb _
                          | exact below_drewN (Below.setCell (Below.setCell (Below.setCell (Below.setCell (Below.setCell (Bd) hgb _) hgb _) hgb _) hgb _) hgb _) _
                    case measure => simp [intOf]; omega
    · have hlt' : ¬ (k : Int) < (L.length : Int) := by omega
      have hkn : k = L.length := by omega
      have HG := hideF (pp_yes (l := L) (by rw [← hkn]; exact HPRE.out))
      have HPL : Hid (ppL t step start L = docR t step start L k) := by
        show _ = _
        rw [HG.out.2.2, hkn]
        exact (doc_perL HT.out (by omega) HL1.out (by rw [← hkn]; exact HPRE.out)).symm
      clear hkn
      go_wp2_with fail
      refine bodyPost_ret (v := .tuple #[.slice a0 (docR t step start L k).length cap0, .int .i64 0, .int .i64 0]) (by simp [results, Tryz.results44, go_sem]) rfl ⟨_, ret_fill rfl HG.out.1 HG.out.2.1, ?_, below_then B3 hb⟩
      rw [HPL.out]; exact own_base hown (by omega)

end Go.Proofs.YtjaffmmocbplaabGreatDoor

namespace Go.Proofs.YtjaffmmocbplaabGreatDoor.splits
open Go.RowKit
set_option linter.unusedVariables false
attribute [local go_sem ↓] Go.wp_at_zero Go.wp_at_succ

theorem spL_len (t : Trf) (step start : Int) (l : List Txt.Val) : (spL t step start l).length ≤ 36556 := by
  by_cases hz : spE t step start l = 0
  · obtain ⟨hm, hb13, hfe, hokc, hsl⟩ := sp_ok hz
    obtain ⟨hst, hsa⟩ := meterB_step hm
    obtain ⟨len1, len2, hall⟩ := meterB_fit hm
    have hLn := (fL_len step start t.gap l).2
    have hLv : (fL step start t.gap l).all valB = true := by
      unfold fL; split
      · split
        · rename_i hr; exact fl_valB hall hr
        · rfl
      · rfl
    rw [hsl]; exact (perL_all hb13 hst hLv hLn hokc).2
  · rw [sp_no hz]; simp
theorem refSplit_any (t : Trf) (step start : Int) (v : Value) (l : List Txt.Val) (w : World) (h : VRow w v l) (s0 : t.h0.size ≤ maxLen) (s1 : t.h1.size ≤ maxLen) (s2 : t.h2.size ≤ maxLen) (s3 : t.h3.size ≤ maxLen) :
    Calls Tryz.prog 44 #[.agg #[.int .i64 step, .int .i64 start, v], .agg #[.int .i64 t.z.off, .int .i64 t.z.f.m, .int .i64 t.z.f.w, .int .i64 t.z.f.d, .int .i64 t.z.f.h, .int .i64 t.z.t.m, .int .i64 t.z.t.w, .int .i64 t.z.t.d, .int .i64 t.z.t.h, .int .i64 t.days, .int .i64 t.gap, .int .i64 t.first, .int .i64 t.last, .string t.h0, .string t.h1, .string t.h2, .string t.h3, .int .i64 t.b0.x, .int .i64 t.b0.y, .int .i64 t.b0.z, .int .i64 t.b1.x, .int .i64 t.b1.y, .int .i64 t.b1.z, .int .i64 t.b2.x, .int .i64 t.b2.y, .int .i64 t.b2.z, .int .i64 t.d.x, .int .i64 t.d.y, .int .i64 t.d.z, .int .i64 t.np, .int .i64 t.nn, .int .i64 t.fix, .int .i64 t.min, .int .i64 t.tax]] w fun e w' => ∃ v', e = .returned (.tuple #[v', .int .i64 (spE t step start l), .int .i64 (spA t step start l)]) ∧
      w'.ownsRow w.heap.size 117 5 v' (spL t step start l).length (pcs (spL t step start l)) ∧ Below w.heap.size w w' := by
  by_cases hno : meterB step start l = false ∨ badN t < 13 ∨ ¬ fE step start t.gap l = 0
  · refine (refSplit_no t step start v l w h s0 s1 s2 s3 hno).mono ?_
    rintro e w' ⟨rfl, hb⟩
    have e0 : spL t step start l = [] := by
      unfold spL
      cases hm : meterB step start l
      · rfl
      · by_cases hb' : badN t < 13
        · simp [hb']
        · by_cases hf : fE step start t.gap l = 0
          · rcases hno with h' | h' | h'
            · rw [hm] at h'; cases h'
            · exact absurd h' hb'
            · exact absurd hf h'
          · simp [hb', hf]
    exact ⟨_, rfl, by rw [e0]; exact World.ownsRow_nil _ _ _ _, hb⟩
  · have hm : meterB step start l = true := by
      cases q : meterB step start l
      · exact absurd (.inl q) hno
      · rfl
    have hb : ¬ badN t < 13 := fun q => hno (.inr (.inl q))
    have hf : fE step start t.gap l = 0 := by
      by_cases q : fE step start t.gap l = 0
      · exact q
      · exact absurd (.inr (.inr q)) hno
    have e1 : spE t step start l = ppE t step start (fL step start t.gap l) := by unfold spE; rw [hm, if_pos rfl, if_neg hb, if_pos hf]
    have e2 : spA t step start l = ppA t step start (fL step start t.gap l) := by unfold spA; rw [hm, if_pos rfl, if_neg hb, if_pos hf]
    have e3 : spL t step start l = ppL t step start (fL step start t.gap l) := by unfold spL; rw [hm, if_pos rfl, if_neg hb, if_pos hf]
    rw [e1, e2, e3]
    exact refSplit_run t step start v l w h s0 s1 s2 s3 hm (by have := badN_le t; omega) hf
theorem yields_row {P : Program} {ops : Array Oper} {S : World → Prop} {op : Oper} {a : Act} (hw : Region.wanted op (yielded ops a.tmps) = true) (ty : TypeId) (x : Operand) (ho : op.op = .load ty x)
    (g : Nat) (hx : a.eval x = .pointer (some ⟨g, 0, none⟩)) (cs : Array Value) (t : TypeId) (fr : Nat × Nat) (d : TypeDesc) (hS : ∀ w, S w → w.heap[g]? = some (.cells cs t fr))
    (hu : P.underlying ty = some d) (hd : (match d with | .struct _ | .array _ _ => true | _ => false) = true) (hi : (P.info? ty).map (·.size) = some cs.size) : YieldsIf P ops S op (.agg cs) a :=
  .inl ⟨hw, fun w hw' => by
    unfold execOp
    simp only [ho, hx, Instr.loadAt, Instr.sureAddr, Sem.run_bind, Sem.run_pure, Result.andThen_ok, run_loadVar_row w g t ty cs fr d (hS w hw') hu hd hi]⟩

end Go.Proofs.YtjaffmmocbplaabGreatDoor.splits
