/-
  The program's PrintTariff (made by tools/genprz.py).
-/
import Derived.Test.YtjaffmmocbplaabDoorKPrtX
import Derived.Test.YtjaffmmocbplaabDoorK12
namespace Go.Proofs.YtjaffmmocbplaabDoor
open Go.RowKit Go.Shelf
set_option linter.unusedVariables false
attribute [local go_sem ↓] Go.wp_at_zero Go.wp_at_succ
def hAt (t : Trf) (k : Nat) : ByteArray := match k with | 0 => t.h0 | 1 => t.h1 | 2 => t.h2 | _ => t.h3
def bAt (t : Trf) (k : Nat) : Blk := match k with | 0 => t.b0 | 1 => t.b1 | _ => t.b2
def lZ (t : Trf) : ByteArray := ⟨#[90]⟩ ++ fS (t.z.off + 720) ++ rS t.z.f ++ rS t.z.t ++ ⟨#[10]⟩
def lD (t : Trf) : ByteArray := ⟨#[68]⟩ ++ fS t.days ++ fS t.gap ++ ⟨#[10]⟩
def lS (t : Trf) : ByteArray := ⟨#[83]⟩ ++ fS t.first ++ fS t.last ++ ⟨#[10]⟩
def hK (t : Trf) (X : ByteArray) : Nat → ByteArray
  | 0 => X
  | k + 1 => hK t X k ++ (⟨#[87, 32]⟩ ++ hAt t k ++ ⟨#[10]⟩)
def bK (t : Trf) (X : ByteArray) : Nat → ByteArray
  | 0 => X
  | k + 1 => bK t X k ++ bS (bAt t k)
def lM (t : Trf) : ByteArray := ⟨#[77]⟩ ++ fS t.d.x ++ fS t.d.y ++ fS t.d.z ++ ⟨#[10]⟩
def lN (t : Trf) : ByteArray := ⟨#[78]⟩ ++ fS t.np ++ fS t.nn ++ ⟨#[10]⟩
/-- the text of a tariff, as the program builds it -/
def tPT (t : Trf) : ByteArray := bK t (hK t (lZ t ++ lD t ++ lS t) 4) 3 ++ lM t ++ lN t ++ ⟨#[70]⟩ ++ fS t.fix ++ fS t.min ++ fS t.tax ++ ⟨#[10]⟩
/-- all numbers of a good tariff can be printed -/
structure TN (t : Trf) : Prop where
  po : nB (t.z.off + 720)
  pf : nB t.z.f.m ∧ nB t.z.f.w ∧ nB t.z.f.d ∧ nB t.z.f.h
  pt : nB t.z.t.m ∧ nB t.z.t.w ∧ nB t.z.t.d ∧ nB t.z.t.h
  pc : nB t.days ∧ nB t.gap ∧ nB t.first ∧ nB t.last
  ph : ∀ k, k < 4 → (hAt t k).size = 24
  pb : ∀ k, k < 3 → nB (bAt t k).x ∧ nB (bAt t k).y ∧ nB (bAt t k).z
  pd : nB t.d.x ∧ nB t.d.y ∧ nB t.d.z
  pn : nB t.np ∧ nB t.nn
  pe : nB t.fix ∧ nB t.min ∧ nB t.tax
  pw : -720 ≤ t.z.off ∧ t.z.off ≤ 720
theorem hours24 {u : ByteArray} (h : hoursB u = true) : u.size = 24 := by
  simp only [hoursB, Bool.and_eq_true, decide_eq_true_eq] at h; exact h.1
theorem tn {t : Trf} (h : badN t = 13) : TN t := by
  have h0 : Zon.zoneB t.z = true := badN_good (t := t) (j := 0) (by omega)
  have h1 : (inB t.days 1 31 && inB t.gap 0 8) = true := badN_good (t := t) (j := 1) (by omega)
  have h2 : (inB t.first 1 t.last && decide (t.last ≤ 12)) = true := badN_good (t := t) (j := 2) (by omega)
  have h3 : hoursB t.h0 = true := badN_good (t := t) (j := 3) (by omega)
  have h4 : hoursB t.h1 = true := badN_good (t := t) (j := 4) (by omega)
  have h5 : hoursB t.h2 = true := badN_good (t := t) (j := 5) (by omega)
  have h6 : hoursB t.h3 = true := badN_good (t := t) (j := 6) (by omega)
  have h7 : blkB t.b0 = true := badN_good (t := t) (j := 7) (by omega)
  have h8 : blkB t.b1 = true := badN_good (t := t) (j := 8) (by omega)
  have h9 : blkB t.b2 = true := badN_good (t := t) (j := 9) (by omega)
  have h10 : dmdB t.d = true := badN_good (t := t) (j := 10) (by omega)
  have h11 : (inB t.np 0 100000 && inB t.nn 0 12) = true := badN_good (t := t) (j := 11) (by omega)
  have h12 : (inB t.fix 0 1000000 && inB t.min 0 1000000 && inB t.tax 0 1000) = true := badN_good (t := t) (j := 12) (by omega)
  simp only [Zon.zoneB, Zon.noneB, Zon.ruleB, blkB, dmdB, Bool.and_eq_true, Bool.or_eq_true, decide_eq_true_eq, inB_iff] at h0 h1 h2 h7 h8 h9 h10 h11 h12
  obtain ⟨hoff, hz⟩ := h0
  refine ⟨?_, ?_, ?_, ?_, ?_, ?_, ?_, ?_, ?_, hoff⟩
  · unfold nB; omega
  · unfold nB; rcases hz with ⟨q1, q2⟩ | ⟨⟨q1, q2⟩, q3⟩ <;> omega
  · unfold nB; rcases hz with ⟨q1, q2⟩ | ⟨⟨q1, q2⟩, q3⟩ <;> omega
  · unfold nB; omega
  · intro k hk
    rcases (by omega : k = 0 ∨ k = 1 ∨ k = 2 ∨ k = 3) with rfl | rfl | rfl | rfl
    · exact hours24 h3
    · exact hours24 h4
    · exact hours24 h5
    · exact hours24 h6
  · intro k hk
    rcases (by omega : k = 0 ∨ k = 1 ∨ k = 2) with rfl | rfl | rfl
    · show nB t.b0.x ∧ nB t.b0.y ∧ nB t.b0.z; unfold nB; omega
    · show nB t.b1.x ∧ nB t.b1.y ∧ nB t.b1.z; unfold nB; omega
    · show nB t.b2.x ∧ nB t.b2.y ∧ nB t.b2.z; unfold nB; omega
  · unfold nB; omega
  · unfold nB; omega
  · unfold nB; omega
theorem rS_size {r : Zon.Rul} (h : nB r.m ∧ nB r.w ∧ nB r.d ∧ nB r.h) : (rS r).size ≤ 88 := by
  have := h.1.f; have := h.2.1.f; have := h.2.2.1.f; have := h.2.2.2.f
  unfold rS; rw [app_size, app_size, app_size]; omega
theorem bS_size {b : Blk} (h : nB b.x ∧ nB b.y ∧ nB b.z) : (bS b).size ≤ 68 := by
  have := h.1.f; have := h.2.1.f; have := h.2.2.f
  unfold bS; rw [app_size, app_size, app_size, app_size]; show 1 + _ + _ + _ + 1 ≤ 68; omega
theorem hK_size {t : Trf} (h : TN t) {X : ByteArray} {n : Nat} (hX : X.size ≤ n) : ∀ k, k ≤ 4 → (hK t X k).size ≤ n + 27 * k
  | 0, _ => hX
  | k + 1, hk => by
    have := hK_size h hX k (by omega)
    have := h.ph k (by omega)
    show (hK t X k ++ (⟨#[87, 32]⟩ ++ hAt t k ++ ⟨#[10]⟩)).size ≤ _
    rw [app_size, app_size, app_size]; show _ + (2 + _ + 1) ≤ _; omega
theorem bK_size {t : Trf} (h : TN t) {X : ByteArray} {n : Nat} (hX : X.size ≤ n) : ∀ k, k ≤ 3 → (bK t X k).size ≤ n + 68 * k
  | 0, _ => hX
  | k + 1, hk => by
    have := bK_size h hX k (by omega)
    have := bS_size (h.pb k (by omega))
    show (bK t X k ++ bS (bAt t k)).size ≤ _
    rw [app_size]; omega

set_option maxRecDepth 1000000 in
set_option maxHeartbeats 2000000 in
theorem PrintTariff_no (t : Trf) (w : World) (s0 : t.h0.size ≤ maxLen) (s1 : t.h1.size ≤ maxLen) (s2 : t.h2.size ≤ maxLen) (s3 : t.h3.size ≤ maxLen) (hn : badN t < 13) :
    Calls Tryd.prog 13 #[.agg #[.int .i64 t.z.off, .int .i64 t.z.f.m, .int .i64 t.z.f.w, .int .i64 t.z.f.d, .int .i64 t.z.f.h, .int .i64 t.z.t.m, .int .i64 t.z.t.w, .int .i64 t.z.t.d, .int .i64 t.z.t.h, .int .i64 t.days, .int .i64 t.gap, .int .i64 t.first, .int .i64 t.last, .string t.h0, .string t.h1, .string t.h2, .string t.h3, .int .i64 t.b0.x, .int .i64 t.b0.y, .int .i64 t.b0.z, .int .i64 t.b1.x, .int .i64 t.b1.y, .int .i64 t.b1.z, .int .i64 t.b2.x, .int .i64 t.b2.y, .int .i64 t.b2.z, .int .i64 t.d.x, .int .i64 t.d.y, .int .i64 t.d.z, .int .i64 t.np, .int .i64 t.nn, .int .i64 t.fix, .int .i64 t.min, .int .i64 t.tax]] w fun e w' => e = .returned (.string ByteArray.empty) ∧ Below w.heap.size w w' := by
  have bl := fun W => badLine_any t W s0 s1 s2 s3
  obtain ⟨N, hN⟩ : ∃ N, N = badN t := ⟨_, rfl⟩
  rw [← hN] at bl hn
  have hn' : (N : Int) < 13 := by omega
  have MT : (w.alloc (.cells #[.int .i64 t.z.off, .int .i64 t.z.f.m, .int .i64 t.z.f.w, .int .i64 t.z.f.d, .int .i64 t.z.f.h, .int .i64 t.z.t.m, .int .i64 t.z.t.w, .int .i64 t.z.t.d, .int .i64 t.z.t.h, .int .i64 t.days, .int .i64 t.gap, .int .i64 t.first, .int .i64 t.last, .string t.h0, .string t.h1, .string t.h2, .string t.h3, .int .i64 t.b0.x, .int .i64 t.b0.y, .int .i64 t.b0.z, .int .i64 t.b1.x, .int .i64 t.b1.y, .int .i64 t.b1.z, .int .i64 t.b2.x, .int .i64 t.b2.y, .int .i64 t.b2.z, .int .i64 t.d.x, .int .i64 t.d.y, .int .i64 t.d.z, .int .i64 t.np, .int .i64 t.nn, .int .i64 t.fix, .int .i64 t.min, .int .i64 t.tax] 54)).heap[w.heap.size]? = some (.cells #[.int .i64 t.z.off, .int .i64 t.z.f.m, .int .i64 t.z.f.w, .int .i64 t.z.f.d, .int .i64 t.z.f.h, .int .i64 t.z.t.m, .int .i64 t.z.t.w, .int .i64 t.z.t.d, .int .i64 t.z.t.h, .int .i64 t.days, .int .i64 t.gap, .int .i64 t.first, .int .i64 t.last, .string t.h0, .string t.h1, .string t.h2, .string t.h3, .int .i64 t.b0.x, .int .i64 t.b0.y, .int .i64 t.b0.z, .int .i64 t.b1.x, .int .i64 t.b1.y, .int .i64 t.b1.z, .int .i64 t.b2.x, .int .i64 t.b2.y, .int .i64 t.b2.z, .int .i64 t.d.x, .int .i64 t.d.y, .int .i64 t.d.z, .int .i64 t.np, .int .i64 t.nn, .int .i64 t.fix, .int .i64 t.min, .int .i64 t.tax] 54) := heap_alloc_new _ _
  clear hN
  go_enter Tryd.func13, Tryd.ntmps13
  go_wp2_with (first
    | (with_reducible show wpList _ _ _ _ _ (w.alloc (.cells #[.int .i64 t.z.off, .int .i64 t.z.f.m, .int .i64 t.z.f.w, .int .i64 t.z.f.d, .int .i64 t.z.f.h, .int .i64 t.z.t.m, .int .i64 t.z.t.w, .int .i64 t.z.t.d, .int .i64 t.z.t.h, .int .i64 t.days, .int .i64 t.gap, .int .i64 t.first, .int .i64 t.last, .string t.h0, .string t.h1, .string t.h2, .string t.h3, .int .i64 t.b0.x, .int .i64 t.b0.y, .int .i64 t.b0.z, .int .i64 t.b1.x, .int .i64 t.b1.y, .int .i64 t.b1.z, .int .i64 t.b2.x, .int .i64 t.b2.y, .int .i64 t.b2.z, .int .i64 t.d.x, .int .i64 t.d.y, .int .i64 t.d.z, .int .i64 t.np, .int .i64 t.nn, .int .i64 t.fix, .int .i64 t.min, .int .i64 t.tax] 54)); refine wpList_load_row rfl 54 _ rfl w.heap.size rfl 54 _ (0, 0) _ MT Tryd.underlying54 rfl (by kernel_rfl) ?_)
    | (go_at_call 30; refine (bl _).mono ?_; rintro e w1 ⟨rfl, hb1⟩))
  go_ret
  exact ⟨rfl, below_then (below_more (Below.refl _ _) _) hb1⟩

set_option maxRecDepth 1000000 in
set_option maxHeartbeats 2000000 in
theorem PrintTariff_yes (t : Trf) (w : World) (ht : TB w) (s0 : t.h0.size ≤ maxLen) (s1 : t.h1.size ≤ maxLen) (s2 : t.h2.size ≤ maxLen) (s3 : t.h3.size ≤ maxLen) (hn : badN t = 13) :
    Calls Tryd.prog 13 #[.agg #[.int .i64 t.z.off, .int .i64 t.z.f.m, .int .i64 t.z.f.w, .int .i64 t.z.f.d, .int .i64 t.z.f.h, .int .i64 t.z.t.m, .int .i64 t.z.t.w, .int .i64 t.z.t.d, .int .i64 t.z.t.h, .int .i64 t.days, .int .i64 t.gap, .int .i64 t.first, .int .i64 t.last, .string t.h0, .string t.h1, .string t.h2, .string t.h3, .int .i64 t.b0.x, .int .i64 t.b0.y, .int .i64 t.b0.z, .int .i64 t.b1.x, .int .i64 t.b1.y, .int .i64 t.b1.z, .int .i64 t.b2.x, .int .i64 t.b2.y, .int .i64 t.b2.z, .int .i64 t.d.x, .int .i64 t.d.y, .int .i64 t.d.z, .int .i64 t.np, .int .i64 t.nn, .int .i64 t.fix, .int .i64 t.min, .int .i64 t.tax]] w fun e w' => e = .returned (.string (tPT t)) ∧ Below w.heap.size w w' := by
  have bl := fun W => badLine_any t W s0 s1 s2 s3
  have tnn := tn hn
  rw [hn] at bl
  have kw : IntKind.i64.wrap (t.z.off + 720) = t.z.off + 720 := Go.IntWalk.i64_in _ (by have := tnn.pw; omega)
  have MT : (w.alloc (.cells #[.int .i64 t.z.off, .int .i64 t.z.f.m, .int .i64 t.z.f.w, .int .i64 t.z.f.d, .int .i64 t.z.f.h, .int .i64 t.z.t.m, .int .i64 t.z.t.w, .int .i64 t.z.t.d, .int .i64 t.z.t.h, .int .i64 t.days, .int .i64 t.gap, .int .i64 t.first, .int .i64 t.last, .string t.h0, .string t.h1, .string t.h2, .string t.h3, .int .i64 t.b0.x, .int .i64 t.b0.y, .int .i64 t.b0.z, .int .i64 t.b1.x, .int .i64 t.b1.y, .int .i64 t.b1.z, .int .i64 t.b2.x, .int .i64 t.b2.y, .int .i64 t.b2.z, .int .i64 t.d.x, .int .i64 t.d.y, .int .i64 t.d.z, .int .i64 t.np, .int .i64 t.nn, .int .i64 t.fix, .int .i64 t.min, .int .i64 t.tax] 54)).heap[w.heap.size]? = some (.cells #[.int .i64 t.z.off, .int .i64 t.z.f.m, .int .i64 t.z.f.w, .int .i64 t.z.f.d, .int .i64 t.z.f.h, .int .i64 t.z.t.m, .int .i64 t.z.t.w, .int .i64 t.z.t.d, .int .i64 t.z.t.h, .int .i64 t.days, .int .i64 t.gap, .int .i64 t.first, .int .i64 t.last, .string t.h0, .string t.h1, .string t.h2, .string t.h3, .int .i64 t.b0.x, .int .i64 t.b0.y, .int .i64 t.b0.z, .int .i64 t.b1.x, .int .i64 t.b1.y, .int .i64 t.b1.z, .int .i64 t.b2.x, .int .i64 t.b2.y, .int .i64 t.b2.z, .int .i64 t.d.x, .int .i64 t.d.y, .int .i64 t.d.z, .int .i64 t.np, .int .i64 t.nn, .int .i64 t.fix, .int .i64 t.min, .int .i64 t.tax] 54) := heap_alloc_new _ _
  clear hn
  go_enter Tryd.func13, Tryd.ntmps13
  go_upto_region 3 with (first
    | (with_reducible show wpList _ _ _ _ _ (w.alloc (.cells #[.int .i64 t.z.off, .int .i64 t.z.f.m, .int .i64 t.z.f.w, .int .i64 t.z.f.d, .int .i64 t.z.f.h, .int .i64 t.z.t.m, .int .i64 t.z.t.w, .int .i64 t.z.t.d, .int .i64 t.z.t.h, .int .i64 t.days, .int .i64 t.gap, .int .i64 t.first, .int .i64 t.last, .string t.h0, .string t.h1, .string t.h2, .string t.h3, .int .i64 t.b0.x, .int .i64 t.b0.y, .int .i64 t.b0.z, .int .i64 t.b1.x, .int .i64 t.b1.y, .int .i64 t.b1.z, .int .i64 t.b2.x, .int .i64 t.b2.y, .int .i64 t.b2.z, .int .i64 t.d.x, .int .i64 t.d.y, .int .i64 t.d.z, .int .i64 t.np, .int .i64 t.nn, .int .i64 t.fix, .int .i64 t.min, .int .i64 t.tax] 54)); refine wpList_load_row rfl 54 _ rfl w.heap.size rfl 54 _ (0, 0) _ MT Tryd.underlying54 rfl (by kernel_rfl) ?_)
    | (go_at_call 30; refine (bl _).mono ?_; rintro e W1 ⟨rfl, hW1⟩))
  have R1 : W1.heap[w.heap.size]? = some (.cells #[.int .i64 t.z.off, .int .i64 t.z.f.m, .int .i64 t.z.f.w, .int .i64 t.z.f.d, .int .i64 t.z.f.h, .int .i64 t.z.t.m, .int .i64 t.z.t.w, .int .i64 t.z.t.d, .int .i64 t.z.t.h, .int .i64 t.days, .int .i64 t.gap, .int .i64 t.first, .int .i64 t.last, .string t.h0, .string t.h1, .string t.h2, .string t.h3, .int .i64 t.b0.x, .int .i64 t.b0.y, .int .i64 t.b0.z, .int .i64 t.b1.x, .int .i64 t.b1.y, .int .i64 t.b1.z, .int .i64 t.b2.x, .int .i64 t.b2.y, .int .i64 t.b2.z, .int .i64 t.d.x, .int .i64 t.d.y, .int .i64 t.d.z, .int .i64 t.np, .int .i64 t.nn, .int .i64 t.fix, .int .i64 t.min, .int .i64 t.tax] 54) := (hW1.block _ (by simp)).trans MT
  have BL1 : Below w.heap.size w W1 := below_then (below_more (Below.refl _ _) _) hW1
  have hz1 : w.heap.size < W1.heap.size := (Array.getElem?_eq_some_iff.1 R1).1
  have TW1 := ht.below BL1
  clear hW1 MT bl
  have BD1 : Below W1.heap.size W1 W1.drew := Below.drew (Below.refl _ _)
  have TD1 : TB W1.drew := TW1.below BD1
  obtain ⟨Z1, hZ1⟩ : ∃ Z, Z = (⟨#[90]⟩ : ByteArray) ++ (fS (t.z.off + 720)) := ⟨_, rfl⟩
  have sZ1 : Z1.size ≤ 23 := by have q1 := (show (⟨#[90]⟩ : ByteArray).size ≤ 1 from Nat.le_refl _); have q2 := (show (fS (t.z.off + 720)).size ≤ 22 from (tnn.po).f); rw [hZ1, app_size]; omega
  have aZ1 : ∀ w, (Op.stringOp .add (⟨#[90]⟩ : ByteArray) (fS (t.z.off + 720))).run Tryd.prog w = .ok (.string Z1) w := by have q1 := (show (⟨#[90]⟩ : ByteArray).size ≤ 1 from Nat.le_refl _); have q2 := (show (fS (t.z.off + 720)).size ≤ 22 from (tnn.po).f); rw [hZ1]; exact sadd _ _ (by omega)
  have HZ1 := hideP hZ1
  clear hZ1
  obtain ⟨Z2, hZ2⟩ : ∃ Z, Z = Z1 ++ (rS t.z.f) := ⟨_, rfl⟩
  have sZ2 : Z2.size ≤ 111 := by have q1 := (show Z1.size ≤ 23 from sZ1); have q2 := (show (rS t.z.f).size ≤ 88 from rS_size tnn.pf); rw [hZ2, app_size]; omega
  have aZ2 : ∀ w, (Op.stringOp .add Z1 (rS t.z.f)).run Tryd.prog w = .ok (.string Z2) w := by have q1 := (show Z1.size ≤ 23 from sZ1); have q2 := (show (rS t.z.f).size ≤ 88 from rS_size tnn.pf); rw [hZ2]; exact sadd _ _ (by omega)
  have HZ2 := hideP hZ2
  clear hZ2
  obtain ⟨Z3, hZ3⟩ : ∃ Z, Z = Z2 ++ (rS t.z.t) := ⟨_, rfl⟩
  have sZ3 : Z3.size ≤ 199 := by have q1 := (show Z2.size ≤ 111 from sZ2); have q2 := (show (rS t.z.t).size ≤ 88 from rS_size tnn.pt); rw [hZ3, app_size]; omega
  have aZ3 : ∀ w, (Op.stringOp .add Z2 (rS t.z.t)).run Tryd.prog w = .ok (.string Z3) w := by have q1 := (show Z2.size ≤ 111 from sZ2); have q2 := (show (rS t.z.t).size ≤ 88 from rS_size tnn.pt); rw [hZ3]; exact sadd _ _ (by omega)
  have HZ3 := hideP hZ3
  clear hZ3
  obtain ⟨Z4, hZ4⟩ : ∃ Z, Z = Z3 ++ (⟨#[10]⟩ : ByteArray) := ⟨_, rfl⟩
  have sZ4 : Z4.size ≤ 200 := by have q1 := (show Z3.size ≤ 199 from sZ3); have q2 := (show (⟨#[10]⟩ : ByteArray).size ≤ 1 from Nat.le_refl _); rw [hZ4, app_size]; omega
  have aZ4 : ∀ w, (Op.stringOp .add Z3 (⟨#[10]⟩ : ByteArray)).run Tryd.prog w = .ok (.string Z4) w := by have q1 := (show Z3.size ≤ 199 from sZ3); have q2 := (show (⟨#[10]⟩ : ByteArray).size ≤ 1 from Nat.le_refl _); rw [hZ4]; exact sadd _ _ (by omega)
  have HZ4 := hideP hZ4
  clear hZ4
  refine wp_region_held_drew (S := (fun w' => w'.heap[w.heap.size]? = some (.cells #[.int .i64 t.z.off, .int .i64 t.z.f.m, .int .i64 t.z.f.w, .int .i64 t.z.f.d, .int .i64 t.z.f.h, .int .i64 t.z.t.m, .int .i64 t.z.t.w, .int .i64 t.z.t.d, .int .i64 t.z.t.h, .int .i64 t.days, .int .i64 t.gap, .int .i64 t.first, .int .i64 t.last, .string t.h0, .string t.h1, .string t.h2, .string t.h3, .int .i64 t.b0.x, .int .i64 t.b0.y, .int .i64 t.b0.z, .int .i64 t.b1.x, .int .i64 t.b1.y, .int .i64 t.b1.z, .int .i64 t.b2.x, .int .i64 t.b2.y, .int .i64 t.b2.z, .int .i64 t.d.x, .int .i64 t.d.y, .int .i64 t.d.z, .int .i64 t.np, .int .i64 t.nn, .int .i64 t.fix, .int .i64 t.min, .int .i64 t.tax] 54 (0, 0)))) (by kernel_rfl) R1 (fun hH0 => ?_)
  refine wpAnyH_take (i := 0) (oi := { dst := some 9, op := Go.Op.fieldAddr 54 (Go.Operand.tmp 1) 0, type := 0, pos := "tariff.go:50", after := #[], guard := none }) (v := .pointer (some ⟨w.heap.size, 0, none⟩)) rfl (by kernel_rfl) (by kernel_rfl) (by kernel_rfl) (fun _ _ _ h => h) (Or.inl ⟨by rfl, ?_⟩) (by assumption) ?_
  · intro w9 hSw
    go_simp
  try simp only [Act.put, List.setIfInBounds_toArray, List.set_cons_zero, List.set_cons_succ]
  refine wpAnyH_take (i := 1) (oi := { dst := some 10, op := Go.Op.fieldAddr 44 (Go.Operand.tmp 9) 0, type := 0, pos := "tariff.go:50", after := #[{ on := 0, ground := Go.Ground.data }], guard := none }) (v := .pointer (some ⟨w.heap.size, 0, none⟩)) rfl (by kernel_rfl) (by kernel_rfl) (by kernel_rfl) (fun _ _ _ h => h) (Or.inl ⟨by rfl, ?_⟩) (by assumption) ?_
  · intro w9 hSw
    go_simp
  try simp only [Act.put, List.setIfInBounds_toArray, List.set_cons_zero, List.set_cons_succ]
  refine wpAnyH_take (i := 2) (oi := { dst := some 11, op := Go.Op.load 3 (Go.Operand.tmp 10), type := 3, pos := "tariff.go:50", after := #[{ on := 1, ground := Go.Ground.data }], guard := none }) (v := .int .i64 t.z.off) rfl (by kernel_rfl) (by kernel_rfl) (by kernel_rfl) (fun _ _ _ h => h) (Or.inl ⟨by rfl, ?_⟩) (by assumption) ?_
  · intro w9 hSw
    have q0 : w9.cell? ⟨w.heap.size, 0, none⟩ = some (.int .i64 t.z.off) := cell_of_row _ _ _ _ _ _ hSw; go_simp
  try simp only [Act.put, List.setIfInBounds_toArray, List.set_cons_zero, List.set_cons_succ]
  refine wpAnyH_take (i := 3) (oi := { dst := some 12, op := Go.Op.binOp Go.BinOp.add 3 (Go.Operand.tmp 11) (Go.Operand.const (Go.Value.int Go.IntKind.i64 720)) 3, type := 3, pos := "tariff.go:50", after := #[{ on := 2, ground := Go.Ground.data }], guard := none }) (v := .int .i64 (t.z.off + 720)) rfl (by kernel_rfl) (by kernel_rfl) (by kernel_rfl) (fun _ _ _ h => h) (Or.inl ⟨by rfl, ?_⟩) (by assumption) ?_
  · intro w9 hSw
    go_simp
  try simp only [Act.put, List.setIfInBounds_toArray, List.set_cons_zero, List.set_cons_succ]
  refine wpAnyH_take (i := 6) (oi := { dst := some 15, op := Go.Op.fieldAddr 54 (Go.Operand.tmp 1) 0, type := 0, pos := "tariff.go:50", after := #[], guard := none }) (v := .pointer (some ⟨w.heap.size, 0, none⟩)) rfl (by kernel_rfl) (by kernel_rfl) (by kernel_rfl) (fun _ _ _ h => h) (Or.inl ⟨by rfl, ?_⟩) (by assumption) ?_
  · intro w9 hSw
    go_simp
  try simp only [Act.put, List.setIfInBounds_toArray, List.set_cons_zero, List.set_cons_succ]
  refine wpAnyH_take (i := 7) (oi := { dst := some 16, op := Go.Op.fieldAddr 44 (Go.Operand.tmp 15) 1, type := 0, pos := "tariff.go:50", after := #[{ on := 6, ground := Go.Ground.data }], guard := none }) (v := .pointer (some ⟨w.heap.size, 1, none⟩)) rfl (by kernel_rfl) (by kernel_rfl) (by kernel_rfl) (fun _ _ _ h => h) (Or.inl ⟨by rfl, ?_⟩) (by assumption) ?_
  · intro w9 hSw
    go_simp
  try simp only [Act.put, List.setIfInBounds_toArray, List.set_cons_zero, List.set_cons_succ]
  refine wpAnyH_take (i := 8) (oi := { dst := some 17, op := Go.Op.load 42 (Go.Operand.tmp 16), type := 42, pos := "tariff.go:50", after := #[{ on := 7, ground := Go.Ground.data }], guard := none }) (v := .agg #[.int .i64 t.z.f.m, .int .i64 t.z.f.w, .int .i64 t.z.f.d, .int .i64 t.z.f.h]) rfl (by kernel_rfl) (by kernel_rfl) (by kernel_rfl) (fun _ _ _ h => h) (Or.inl ⟨by rfl, ?_⟩) (by assumption) ?_
  · intro w9 hSw
    have q1 : w9.cell? ⟨w.heap.size, 1, none⟩ = some (.int .i64 t.z.f.m) := cell_of_row _ _ _ _ _ _ hSw; have q2 : w9.cell? ⟨w.heap.size, 2, none⟩ = some (.int .i64 t.z.f.w) := cell_of_row _ _ _ _ _ _ hSw; have q3 : w9.cell? ⟨w.heap.size, 3, none⟩ = some (.int .i64 t.z.f.d) := cell_of_row _ _ _ _ _ _ hSw; have q4 : w9.cell? ⟨w.heap.size, 4, none⟩ = some (.int .i64 t.z.f.h) := cell_of_row _ _ _ _ _ _ hSw; go_simp
  try simp only [Act.put, List.setIfInBounds_toArray, List.set_cons_zero, List.set_cons_succ]
  refine wpAnyH_take (i := 11) (oi := { dst := some 20, op := Go.Op.fieldAddr 54 (Go.Operand.tmp 1) 0, type := 0, pos := "tariff.go:50", after := #[], guard := none }) (v := .pointer (some ⟨w.heap.size, 0, none⟩)) rfl (by kernel_rfl) (by kernel_rfl) (by kernel_rfl) (fun _ _ _ h => h) (Or.inl ⟨by rfl, ?_⟩) (by assumption) ?_
  · intro w9 hSw
    go_simp
  try simp only [Act.put, List.setIfInBounds_toArray, List.set_cons_zero, List.set_cons_succ]
  refine wpAnyH_take (i := 12) (oi := { dst := some 21, op := Go.Op.fieldAddr 44 (Go.Operand.tmp 20) 2, type := 0, pos := "tariff.go:50", after := #[{ on := 11, ground := Go.Ground.data }], guard := none }) (v := .pointer (some ⟨w.heap.size, 5, none⟩)) rfl (by kernel_rfl) (by kernel_rfl) (by kernel_rfl) (fun _ _ _ h => h) (Or.inl ⟨by rfl, ?_⟩) (by assumption) ?_
  · intro w9 hSw
    go_simp
  try simp only [Act.put, List.setIfInBounds_toArray, List.set_cons_zero, List.set_cons_succ]
  refine wpAnyH_take (i := 13) (oi := { dst := some 22, op := Go.Op.load 42 (Go.Operand.tmp 21), type := 42, pos := "tariff.go:50", after := #[{ on := 12, ground := Go.Ground.data }], guard := none }) (v := .agg #[.int .i64 t.z.t.m, .int .i64 t.z.t.w, .int .i64 t.z.t.d, .int .i64 t.z.t.h]) rfl (by kernel_rfl) (by kernel_rfl) (by kernel_rfl) (fun _ _ _ h => h) (Or.inl ⟨by rfl, ?_⟩) (by assumption) ?_
  · intro w9 hSw
    have q5 : w9.cell? ⟨w.heap.size, 5, none⟩ = some (.int .i64 t.z.t.m) := cell_of_row _ _ _ _ _ _ hSw; have q6 : w9.cell? ⟨w.heap.size, 6, none⟩ = some (.int .i64 t.z.t.w) := cell_of_row _ _ _ _ _ _ hSw; have q7 : w9.cell? ⟨w.heap.size, 7, none⟩ = some (.int .i64 t.z.t.d) := cell_of_row _ _ _ _ _ _ hSw; have q8 : w9.cell? ⟨w.heap.size, 8, none⟩ = some (.int .i64 t.z.t.h) := cell_of_row _ _ _ _ _ _ hSw; go_simp
  try simp only [Act.put, List.setIfInBounds_toArray, List.set_cons_zero, List.set_cons_succ]
  refine wpAnyH_ready (rs := [4]) (by kernel_rfl) (by simp) ?_
  refine AllReadyH.cons (o := { dst := some 13, op := Go.Op.call { callee := Go.Callee.value (Go.Operand.func 27), args := #[Go.Operand.tmp 12], argTypes := #[3] }, type := 9, pos := "tariff.go:50", after := #[{ on := 3, ground := Go.Ground.data }], guard := none }) rfl (fun K hK => ?_) AllReadyH.nil
  go_simp
  refine ((tnn.po).ft _ TD1).mono ?_
  rintro e wk1x1 ⟨rfl, hwk1x1⟩
  have Bwk1x1 := below_then BD1 hwk1x1
  have Twk1x1 := TD1.below hwk1x1
  go_wp2_with fail
  refine hK.out _ _ ((Bwk1x1.block _ hz1).trans R1) (fun hHwk1x1 => ?_)
  clear hK K
  try simp only [Act.put, List.setIfInBounds_toArray, List.set_cons_zero, List.set_cons_succ]
  refine wpAnyH_take (i := 5) (oi := { dst := some 14, op := Go.Op.binOp Go.BinOp.add 9 (Go.Operand.const (Go.Value.string { data := #[90] })) (Go.Operand.tmp 13) 9, type := 9, pos := "tariff.go:50", after := #[{ on := 4, ground := Go.Ground.data }], guard := none }) (v := .string Z1) rfl (by kernel_rfl) (by kernel_rfl) (by kernel_rfl) (fun _ _ _ h => h) (Or.inl ⟨by rfl, ?_⟩) (by assumption) ?_
  · intro w9 hSw
    go_simp
  try simp only [Act.put, List.setIfInBounds_toArray, List.set_cons_zero, List.set_cons_succ]
  refine wpAnyH_ready (rs := [9]) (by kernel_rfl) (by simp) ?_
  refine AllReadyH.cons (o := { dst := some 18, op := Go.Op.call { callee := Go.Callee.value (Go.Operand.func 31), args := #[Go.Operand.tmp 17], argTypes := #[42] }, type := 9, pos := "tariff.go:50", after := #[{ on := 8, ground := Go.Ground.data }, { on := 4, ground := Go.Ground.chain }], guard := none }) rfl (fun K hK => ?_) AllReadyH.nil
  go_simp
  refine (ruleText_any t.z.f _ Twk1x1 tnn.pf.1 tnn.pf.2.1 tnn.pf.2.2.1 tnn.pf.2.2.2).mono ?_
  rintro e wk1x2 ⟨rfl, hwk1x2⟩
  have Bwk1x2 := below_then Bwk1x1 hwk1x2
  have Twk1x2 := Twk1x1.below hwk1x2
  go_wp2_with fail
  refine hK.out _ _ ((Bwk1x2.block _ hz1).trans R1) (fun hHwk1x2 => ?_)
  clear hK K
  try simp only [Act.put, List.setIfInBounds_toArray, List.set_cons_zero, List.set_cons_succ]
  refine wpAnyH_take (i := 10) (oi := { dst := some 19, op := Go.Op.binOp Go.BinOp.add 9 (Go.Operand.tmp 14) (Go.Operand.tmp 18) 9, type := 9, pos := "tariff.go:50", after := #[{ on := 5, ground := Go.Ground.data }, { on := 9, ground := Go.Ground.data }], guard := none }) (v := .string Z2) rfl (by kernel_rfl) (by kernel_rfl) (by kernel_rfl) (fun _ _ _ h => h) (Or.inl ⟨by rfl, ?_⟩) (by assumption) ?_
  · intro w9 hSw
    go_simp
  try simp only [Act.put, List.setIfInBounds_toArray, List.set_cons_zero, List.set_cons_succ]
  refine wpAnyH_ready (rs := [14]) (by kernel_rfl) (by simp) ?_
  refine AllReadyH.cons (o := { dst := some 23, op := Go.Op.call { callee := Go.Callee.value (Go.Operand.func 31), args := #[Go.Operand.tmp 22], argTypes := #[42] }, type := 9, pos := "tariff.go:50", after := #[{ on := 13, ground := Go.Ground.data }, { on := 9, ground := Go.Ground.chain }], guard := none }) rfl (fun K hK => ?_) AllReadyH.nil
  go_simp
  refine (ruleText_any t.z.t _ Twk1x2 tnn.pt.1 tnn.pt.2.1 tnn.pt.2.2.1 tnn.pt.2.2.2).mono ?_
  rintro e wk1x3 ⟨rfl, hwk1x3⟩
  have Bwk1x3 := below_then Bwk1x2 hwk1x3
  have Twk1x3 := Twk1x2.below hwk1x3
  go_wp2_with fail
  refine hK.out _ _ ((Bwk1x3.block _ hz1).trans R1) (fun hHwk1x3 => ?_)
  clear hK K
  try simp only [Act.put, List.setIfInBounds_toArray, List.set_cons_zero, List.set_cons_succ]
  refine wpAnyH_take (i := 15) (oi := { dst := some 24, op := Go.Op.binOp Go.BinOp.add 9 (Go.Operand.tmp 19) (Go.Operand.tmp 23) 9, type := 9, pos := "tariff.go:50", after := #[{ on := 10, ground := Go.Ground.data }, { on := 14, ground := Go.Ground.data }], guard := none }) (v := .string Z3) rfl (by kernel_rfl) (by kernel_rfl) (by kernel_rfl) (fun _ _ _ h => h) (Or.inl ⟨by rfl, ?_⟩) (by assumption) ?_
  · intro w9 hSw
    go_simp
  try simp only [Act.put, List.setIfInBounds_toArray, List.set_cons_zero, List.set_cons_succ]
  refine wpAnyH_take (i := 16) (oi := { dst := some 25, op := Go.Op.binOp Go.BinOp.add 9 (Go.Operand.tmp 24) (Go.Operand.const (Go.Value.string { data := #[10] })) 9, type := 9, pos := "tariff.go:50", after := #[{ on := 15, ground := Go.Ground.data }], guard := none }) (v := .string Z4) rfl (by kernel_rfl) (by kernel_rfl) (by kernel_rfl) (fun _ _ _ h => h) (Or.inl ⟨by rfl, ?_⟩) (by assumption) ?_
  · intro w9 hSw
    go_simp
  try simp only [Act.put, List.setIfInBounds_toArray, List.set_cons_zero, List.set_cons_succ]
  refine wpAnyH_take (i := 17) (oi := { dst := some 3, op := Go.Op.assign (Go.Operand.tmp 25), type := 9, pos := "tariff.go:50", after := #[{ on := 16, ground := Go.Ground.data }, { on := 14, ground := Go.Ground.chain }, { on := 0, ground := Go.Ground.phase }, { on := 1, ground := Go.Ground.phase }, { on := 2, ground := Go.Ground.phase }, { on := 3, ground := Go.Ground.phase }, { on := 4, ground := Go.Ground.phase }, { on := 5, ground := Go.Ground.phase }, { on := 6, ground := Go.Ground.phase }, { on := 7, ground := Go.Ground.phase }, { on := 8, ground := Go.Ground.phase }, { on := 9, ground := Go.Ground.phase }, { on := 10, ground := Go.Ground.phase }, { on := 11, ground := Go.Ground.phase }, { on := 12, ground := Go.Ground.phase }, { on := 13, ground := Go.Ground.phase }, { on := 14, ground := Go.Ground.phase }, { on := 15, ground := Go.Ground.phase }, { on := 16, ground := Go.Ground.phase }], guard := none }) (v := .string Z4) rfl (by kernel_rfl) (by kernel_rfl) (by kernel_rfl) (fun _ _ _ h => h) (Or.inl ⟨by rfl, ?_⟩) (by assumption) ?_
  · intro w9 hSw
    go_simp
  try simp only [Act.put, List.setIfInBounds_toArray, List.set_cons_zero, List.set_cons_succ]
  refine wpAnyH_done (by kernel_rfl) ?_ _
  have RN1 := (Bwk1x3.block _ hz1).trans R1
  have BN1 := below_then BL1 Bwk1x3
  have TN1 := ht.below BN1
  have zN1 : w.heap.size < wk1x3.heap.size := (Array.getElem?_eq_some_iff.1 RN1).1
  go_upto_region 4 with fail
  have BD2 : Below wk1x3.heap.size wk1x3 wk1x3.drew := Below.drew (Below.refl _ _)
  have TD2 : TB wk1x3.drew := TN1.below BD2
  obtain ⟨Z5, hZ5⟩ : ∃ Z, Z = (⟨#[68]⟩ : ByteArray) ++ (fS t.days) := ⟨_, rfl⟩
  have sZ5 : Z5.size ≤ 23 := by have q1 := (show (⟨#[68]⟩ : ByteArray).size ≤ 1 from Nat.le_refl _); have q2 := (show (fS t.days).size ≤ 22 from (tnn.pc.1).f); rw [hZ5, app_size]; omega
  have aZ5 : ∀ w, (Op.stringOp .add (⟨#[68]⟩ : ByteArray) (fS t.days)).run Tryd.prog w = .ok (.string Z5) w := by have q1 := (show (⟨#[68]⟩ : ByteArray).size ≤ 1 from Nat.le_refl _); have q2 := (show (fS t.days).size ≤ 22 from (tnn.pc.1).f); rw [hZ5]; exact sadd _ _ (by omega)
  have HZ5 := hideP hZ5
  clear hZ5
  obtain ⟨Z6, hZ6⟩ : ∃ Z, Z = Z5 ++ (fS t.gap) := ⟨_, rfl⟩
  have sZ6 : Z6.size ≤ 45 := by have q1 := (show Z5.size ≤ 23 from sZ5); have q2 := (show (fS t.gap).size ≤ 22 from (tnn.pc.2.1).f); rw [hZ6, app_size]; omega
  have aZ6 : ∀ w, (Op.stringOp .add Z5 (fS t.gap)).run Tryd.prog w = .ok (.string Z6) w := by have q1 := (show Z5.size ≤ 23 from sZ5); have q2 := (show (fS t.gap).size ≤ 22 from (tnn.pc.2.1).f); rw [hZ6]; exact sadd _ _ (by omega)
  have HZ6 := hideP hZ6
  clear hZ6
  obtain ⟨Z7, hZ7⟩ : ∃ Z, Z = Z6 ++ (⟨#[10]⟩ : ByteArray) := ⟨_, rfl⟩
  have sZ7 : Z7.size ≤ 46 := by have q1 := (show Z6.size ≤ 45 from sZ6); have q2 := (show (⟨#[10]⟩ : ByteArray).size ≤ 1 from Nat.le_refl _); rw [hZ7, app_size]; omega
  have aZ7 : ∀ w, (Op.stringOp .add Z6 (⟨#[10]⟩ : ByteArray)).run Tryd.prog w = .ok (.string Z7) w := by have q1 := (show Z6.size ≤ 45 from sZ6); have q2 := (show (⟨#[10]⟩ : ByteArray).size ≤ 1 from Nat.le_refl _); rw [hZ7]; exact sadd _ _ (by omega)
  have HZ7 := hideP hZ7
  clear hZ7
  obtain ⟨Z8, hZ8⟩ : ∃ Z, Z = Z4 ++ Z7 := ⟨_, rfl⟩
  have sZ8 : Z8.size ≤ 246 := by have q1 := (show Z4.size ≤ 200 from sZ4); have q2 := (show Z7.size ≤ 46 from sZ7); rw [hZ8, app_size]; omega
  have aZ8 : ∀ w, (Op.stringOp .add Z4 Z7).run Tryd.prog w = .ok (.string Z8) w := by have q1 := (show Z4.size ≤ 200 from sZ4); have q2 := (show Z7.size ≤ 46 from sZ7); rw [hZ8]; exact sadd _ _ (by omega)
  have HZ8 := hideP hZ8
  clear hZ8
  refine wp_region_held_drew (S := (fun w' => w'.heap[w.heap.size]? = some (.cells #[.int .i64 t.z.off, .int .i64 t.z.f.m, .int .i64 t.z.f.w, .int .i64 t.z.f.d, .int .i64 t.z.f.h, .int .i64 t.z.t.m, .int .i64 t.z.t.w, .int .i64 t.z.t.d, .int .i64 t.z.t.h, .int .i64 t.days, .int .i64 t.gap, .int .i64 t.first, .int .i64 t.last, .string t.h0, .string t.h1, .string t.h2, .string t.h3, .int .i64 t.b0.x, .int .i64 t.b0.y, .int .i64 t.b0.z, .int .i64 t.b1.x, .int .i64 t.b1.y, .int .i64 t.b1.z, .int .i64 t.b2.x, .int .i64 t.b2.y, .int .i64 t.b2.z, .int .i64 t.d.x, .int .i64 t.d.y, .int .i64 t.d.z, .int .i64 t.np, .int .i64 t.nn, .int .i64 t.fix, .int .i64 t.min, .int .i64 t.tax] 54 (0, 0)))) (by kernel_rfl) RN1 (fun hH0 => ?_)
  refine wpAnyH_take (i := 0) (oi := { dst := some 26, op := Go.Op.move (Go.Operand.tmp 3), type := 9, pos := "tariff.go:51", after := #[], guard := none }) (v := .string Z4) rfl (by kernel_rfl) (by kernel_rfl) (by kernel_rfl) (fun _ _ _ h => h) (Or.inl ⟨by rfl, ?_⟩) (by assumption) ?_
  · intro w9 hSw
    go_simp
  try simp only [Act.put, List.setIfInBounds_toArray, List.set_cons_zero, List.set_cons_succ]
  refine wpAnyH_take (i := 1) (oi := { dst := some 27, op := Go.Op.fieldAddr 54 (Go.Operand.tmp 1) 1, type := 0, pos := "tariff.go:51", after := #[], guard := none }) (v := .pointer (some ⟨w.heap.size, 9, none⟩)) rfl (by kernel_rfl) (by kernel_rfl) (by kernel_rfl) (fun _ _ _ h => h) (Or.inl ⟨by rfl, ?_⟩) (by assumption) ?_
  · intro w9 hSw
    go_simp
  try simp only [Act.put, List.setIfInBounds_toArray, List.set_cons_zero, List.set_cons_succ]
  refine wpAnyH_take (i := 2) (oi := { dst := some 28, op := Go.Op.load 3 (Go.Operand.tmp 27), type := 3, pos := "tariff.go:51", after := #[{ on := 1, ground := Go.Ground.data }], guard := none }) (v := .int .i64 t.days) rfl (by kernel_rfl) (by kernel_rfl) (by kernel_rfl) (fun _ _ _ h => h) (Or.inl ⟨by rfl, ?_⟩) (by assumption) ?_
  · intro w9 hSw
    have q9 : w9.cell? ⟨w.heap.size, 9, none⟩ = some (.int .i64 t.days) := cell_of_row _ _ _ _ _ _ hSw; go_simp
  try simp only [Act.put, List.setIfInBounds_toArray, List.set_cons_zero, List.set_cons_succ]
  refine wpAnyH_take (i := 5) (oi := { dst := some 31, op := Go.Op.fieldAddr 54 (Go.Operand.tmp 1) 2, type := 0, pos := "tariff.go:51", after := #[], guard := none }) (v := .pointer (some ⟨w.heap.size, 10, none⟩)) rfl (by kernel_rfl) (by kernel_rfl) (by kernel_rfl) (fun _ _ _ h => h) (Or.inl ⟨by rfl, ?_⟩) (by assumption) ?_
  · intro w9 hSw
    go_simp
  try simp only [Act.put, List.setIfInBounds_toArray, List.set_cons_zero, List.set_cons_succ]
  refine wpAnyH_take (i := 6) (oi := { dst := some 32, op := Go.Op.load 3 (Go.Operand.tmp 31), type := 3, pos := "tariff.go:51", after := #[{ on := 5, ground := Go.Ground.data }], guard := none }) (v := .int .i64 t.gap) rfl (by kernel_rfl) (by kernel_rfl) (by kernel_rfl) (fun _ _ _ h => h) (Or.inl ⟨by rfl, ?_⟩) (by assumption) ?_
  · intro w9 hSw
    have q10 : w9.cell? ⟨w.heap.size, 10, none⟩ = some (.int .i64 t.gap) := cell_of_row _ _ _ _ _ _ hSw; go_simp
  try simp only [Act.put, List.setIfInBounds_toArray, List.set_cons_zero, List.set_cons_succ]
  refine wpAnyH_ready (rs := [3]) (by kernel_rfl) (by simp) ?_
  refine AllReadyH.cons (o := { dst := some 29, op := Go.Op.call { callee := Go.Callee.value (Go.Operand.func 27), args := #[Go.Operand.tmp 28], argTypes := #[3] }, type := 9, pos := "tariff.go:51", after := #[{ on := 2, ground := Go.Ground.data }], guard := none }) rfl (fun K hK => ?_) AllReadyH.nil
  go_simp
  refine ((tnn.pc.1).ft _ TD2).mono ?_
  rintro e wk2x1 ⟨rfl, hwk2x1⟩
  have Bwk2x1 := below_then BD2 hwk2x1
  have Twk2x1 := TD2.below hwk2x1
  go_wp2_with fail
  refine hK.out _ _ ((Bwk2x1.block _ zN1).trans RN1) (fun hHwk2x1 => ?_)
  clear hK K
  try simp only [Act.put, List.setIfInBounds_toArray, List.set_cons_zero, List.set_cons_succ]
  refine wpAnyH_take (i := 4) (oi := { dst := some 30, op := Go.Op.binOp Go.BinOp.add 9 (Go.Operand.const (Go.Value.string { data := #[68] })) (Go.Operand.tmp 29) 9, type := 9, pos := "tariff.go:51", after := #[{ on := 3, ground := Go.Ground.data }], guard := none }) (v := .string Z5) rfl (by kernel_rfl) (by kernel_rfl) (by kernel_rfl) (fun _ _ _ h => h) (Or.inl ⟨by rfl, ?_⟩) (by assumption) ?_
  · intro w9 hSw
    go_simp
  try simp only [Act.put, List.setIfInBounds_toArray, List.set_cons_zero, List.set_cons_succ]
  refine wpAnyH_ready (rs := [7]) (by kernel_rfl) (by simp) ?_
  refine AllReadyH.cons (o := { dst := some 33, op := Go.Op.call { callee := Go.Callee.value (Go.Operand.func 27), args := #[Go.Operand.tmp 32], argTypes := #[3] }, type := 9, pos := "tariff.go:51", after := #[{ on := 6, ground := Go.Ground.data }, { on := 3, ground := Go.Ground.chain }], guard := none }) rfl (fun K hK => ?_) AllReadyH.nil
  go_simp
  refine ((tnn.pc.2.1).ft _ Twk2x1).mono ?_
  rintro e wk2x2 ⟨rfl, hwk2x2⟩
  have Bwk2x2 := below_then Bwk2x1 hwk2x2
  have Twk2x2 := Twk2x1.below hwk2x2
  go_wp2_with fail
  refine hK.out _ _ ((Bwk2x2.block _ zN1).trans RN1) (fun hHwk2x2 => ?_)
  clear hK K
  try simp only [Act.put, List.setIfInBounds_toArray, List.set_cons_zero, List.set_cons_succ]
  refine wpAnyH_take (i := 8) (oi := { dst := some 34, op := Go.Op.binOp Go.BinOp.add 9 (Go.Operand.tmp 30) (Go.Operand.tmp 33) 9, type := 9, pos := "tariff.go:51", after := #[{ on := 4, ground := Go.Ground.data }, { on := 7, ground := Go.Ground.data }], guard := none }) (v := .string Z6) rfl (by kernel_rfl) (by kernel_rfl) (by kernel_rfl) (fun _ _ _ h => h) (Or.inl ⟨by rfl, ?_⟩) (by assumption) ?_
  · intro w9 hSw
    go_simp
  try simp only [Act.put, List.setIfInBounds_toArray, List.set_cons_zero, List.set_cons_succ]
  refine wpAnyH_take (i := 9) (oi := { dst := some 35, op := Go.Op.binOp Go.BinOp.add 9 (Go.Operand.tmp 34) (Go.Operand.const (Go.Value.string { data := #[10] })) 9, type := 9, pos := "tariff.go:51", after := #[{ on := 8, ground := Go.Ground.data }], guard := none }) (v := .string Z7) rfl (by kernel_rfl) (by kernel_rfl) (by kernel_rfl) (fun _ _ _ h => h) (Or.inl ⟨by rfl, ?_⟩) (by assumption) ?_
  · intro w9 hSw
    go_simp
  try simp only [Act.put, List.setIfInBounds_toArray, List.set_cons_zero, List.set_cons_succ]
  refine wpAnyH_take (i := 10) (oi := { dst := some 36, op := Go.Op.binOp Go.BinOp.add 9 (Go.Operand.tmp 26) (Go.Operand.tmp 35) 9, type := 9, pos := "tariff.go:51", after := #[{ on := 0, ground := Go.Ground.data }, { on := 9, ground := Go.Ground.data }], guard := none }) (v := .string Z8) rfl (by kernel_rfl) (by kernel_rfl) (by kernel_rfl) (fun _ _ _ h => h) (Or.inl ⟨by rfl, ?_⟩) (by assumption) ?_
  · intro w9 hSw
    go_simp
  try simp only [Act.put, List.setIfInBounds_toArray, List.set_cons_zero, List.set_cons_succ]
  refine wpAnyH_take (i := 11) (oi := { dst := some 3, op := Go.Op.assign (Go.Operand.tmp 36), type := 9, pos := "tariff.go:51", after := #[{ on := 10, ground := Go.Ground.data }, { on := 7, ground := Go.Ground.chain }, { on := 0, ground := Go.Ground.phase }, { on := 1, ground := Go.Ground.phase }, { on := 2, ground := Go.Ground.phase }, { on := 3, ground := Go.Ground.phase }, { on := 4, ground := Go.Ground.phase }, { on := 5, ground := Go.Ground.phase }, { on := 6, ground := Go.Ground.phase }, { on := 7, ground := Go.Ground.phase }, { on := 8, ground := Go.Ground.phase }, { on := 9, ground := Go.Ground.phase }, { on := 10, ground := Go.Ground.phase }], guard := none }) (v := .string Z8) rfl (by kernel_rfl) (by kernel_rfl) (by kernel_rfl) (fun _ _ _ h => h) (Or.inl ⟨by rfl, ?_⟩) (by assumption) ?_
  · intro w9 hSw
    go_simp
  try simp only [Act.put, List.setIfInBounds_toArray, List.set_cons_zero, List.set_cons_succ]
  refine wpAnyH_done (by kernel_rfl) ?_ _
  have RN2 := (Bwk2x2.block _ zN1).trans RN1
  have BN2 := below_then BN1 Bwk2x2
  have TN2 := ht.below BN2
  have zN2 : w.heap.size < wk2x2.heap.size := (Array.getElem?_eq_some_iff.1 RN2).1
  go_upto_region 5 with fail
  have BD3 : Below wk2x2.heap.size wk2x2 wk2x2.drew := Below.drew (Below.refl _ _)
  have TD3 : TB wk2x2.drew := TN2.below BD3
  obtain ⟨Z9, hZ9⟩ : ∃ Z, Z = (⟨#[83]⟩ : ByteArray) ++ (fS t.first) := ⟨_, rfl⟩
  have sZ9 : Z9.size ≤ 23 := by have q1 := (show (⟨#[83]⟩ : ByteArray).size ≤ 1 from Nat.le_refl _); have q2 := (show (fS t.first).size ≤ 22 from (tnn.pc.2.2.1).f); rw [hZ9, app_size]; omega
  have aZ9 : ∀ w, (Op.stringOp .add (⟨#[83]⟩ : ByteArray) (fS t.first)).run Tryd.prog w = .ok (.string Z9) w := by have q1 := (show (⟨#[83]⟩ : ByteArray).size ≤ 1 from Nat.le_refl _); have q2 := (show (fS t.first).size ≤ 22 from (tnn.pc.2.2.1).f); rw [hZ9]; exact sadd _ _ (by omega)
  have HZ9 := hideP hZ9
  clear hZ9
  obtain ⟨Z10, hZ10⟩ : ∃ Z, Z = Z9 ++ (fS t.last) := ⟨_, rfl⟩
  have sZ10 : Z10.size ≤ 45 := by have q1 := (show Z9.size ≤ 23 from sZ9); have q2 := (show (fS t.last).size ≤ 22 from (tnn.pc.2.2.2).f); rw [hZ10, app_size]; omega
  have aZ10 : ∀ w, (Op.stringOp .add Z9 (fS t.last)).run Tryd.prog w = .ok (.string Z10) w := by have q1 := (show Z9.size ≤ 23 from sZ9); have q2 := (show (fS t.last).size ≤ 22 from (tnn.pc.2.2.2).f); rw [hZ10]; exact sadd _ _ (by omega)
  have HZ10 := hideP hZ10
  clear hZ10
  obtain ⟨Z11, hZ11⟩ : ∃ Z, Z = Z10 ++ (⟨#[10]⟩ : ByteArray) := ⟨_, rfl⟩
  have sZ11 : Z11.size ≤ 46 := by have q1 := (show Z10.size ≤ 45 from sZ10); have q2 := (show (⟨#[10]⟩ : ByteArray).size ≤ 1 from Nat.le_refl _); rw [hZ11, app_size]; omega
  have aZ11 : ∀ w, (Op.stringOp .add Z10 (⟨#[10]⟩ : ByteArray)).run Tryd.prog w = .ok (.string Z11) w := by have q1 := (show Z10.size ≤ 45 from sZ10); have q2 := (show (⟨#[10]⟩ : ByteArray).size ≤ 1 from Nat.le_refl _); rw [hZ11]; exact sadd _ _ (by omega)
  have HZ11 := hideP hZ11
  clear hZ11
  obtain ⟨Z12, hZ12⟩ : ∃ Z, Z = Z8 ++ Z11 := ⟨_, rfl⟩
  have sZ12 : Z12.size ≤ 292 := by have q1 := (show Z8.size ≤ 246 from sZ8); have q2 := (show Z11.size ≤ 46 from sZ11); rw [hZ12, app_size]; omega
  have aZ12 : ∀ w, (Op.stringOp .add Z8 Z11).run Tryd.prog w = .ok (.string Z12) w := by have q1 := (show Z8.size ≤ 246 from sZ8); have q2 := (show Z11.size ≤ 46 from sZ11); rw [hZ12]; exact sadd _ _ (by omega)
  have HZ12 := hideP hZ12
  clear hZ12
  refine wp_region_held_drew (S := (fun w' => w'.heap[w.heap.size]? = some (.cells #[.int .i64 t.z.off, .int .i64 t.z.f.m, .int .i64 t.z.f.w, .int .i64 t.z.f.d, .int .i64 t.z.f.h, .int .i64 t.z.t.m, .int .i64 t.z.t.w, .int .i64 t.z.t.d, .int .i64 t.z.t.h, .int .i64 t.days, .int .i64 t.gap, .int .i64 t.first, .int .i64 t.last, .string t.h0, .string t.h1, .string t.h2, .string t.h3, .int .i64 t.b0.x, .int .i64 t.b0.y, .int .i64 t.b0.z, .int .i64 t.b1.x, .int .i64 t.b1.y, .int .i64 t.b1.z, .int .i64 t.b2.x, .int .i64 t.b2.y, .int .i64 t.b2.z, .int .i64 t.d.x, .int .i64 t.d.y, .int .i64 t.d.z, .int .i64 t.np, .int .i64 t.nn, .int .i64 t.fix, .int .i64 t.min, .int .i64 t.tax] 54 (0, 0)))) (by kernel_rfl) RN2 (fun hH0 => ?_)
  refine wpAnyH_take (i := 0) (oi := { dst := some 37, op := Go.Op.move (Go.Operand.tmp 3), type := 9, pos := "tariff.go:52", after := #[], guard := none }) (v := .string Z8) rfl (by kernel_rfl) (by kernel_rfl) (by kernel_rfl) (fun _ _ _ h => h) (Or.inl ⟨by rfl, ?_⟩) (by assumption) ?_
  · intro w9 hSw
    go_simp
  try simp only [Act.put, List.setIfInBounds_toArray, List.set_cons_zero, List.set_cons_succ]
  refine wpAnyH_take (i := 1) (oi := { dst := some 38, op := Go.Op.fieldAddr 54 (Go.Operand.tmp 1) 3, type := 0, pos := "tariff.go:52", after := #[], guard := none }) (v := .pointer (some ⟨w.heap.size, 11, none⟩)) rfl (by kernel_rfl) (by kernel_rfl) (by kernel_rfl) (fun _ _ _ h => h) (Or.inl ⟨by rfl, ?_⟩) (by assumption) ?_
  · intro w9 hSw
    go_simp
  try simp only [Act.put, List.setIfInBounds_toArray, List.set_cons_zero, List.set_cons_succ]
  refine wpAnyH_take (i := 2) (oi := { dst := some 39, op := Go.Op.load 3 (Go.Operand.tmp 38), type := 3, pos := "tariff.go:52", after := #[{ on := 1, ground := Go.Ground.data }], guard := none }) (v := .int .i64 t.first) rfl (by kernel_rfl) (by kernel_rfl) (by kernel_rfl) (fun _ _ _ h => h) (Or.inl ⟨by rfl, ?_⟩) (by assumption) ?_
  · intro w9 hSw
    have q11 : w9.cell? ⟨w.heap.size, 11, none⟩ = some (.int .i64 t.first) := cell_of_row _ _ _ _ _ _ hSw; go_simp
  try simp only [Act.put, List.setIfInBounds_toArray, List.set_cons_zero, List.set_cons_succ]
  refine wpAnyH_take (i := 5) (oi := { dst := some 42, op := Go.Op.fieldAddr 54 (Go.Operand.tmp 1) 4, type := 0, pos := "tariff.go:52", after := #[], guard := none }) (v := .pointer (some ⟨w.heap.size, 12, none⟩)) rfl (by kernel_rfl) (by kernel_rfl) (by kernel_rfl) (fun _ _ _ h => h) (Or.inl ⟨by rfl, ?_⟩) (by assumption) ?_
  · intro w9 hSw
    go_simp
  try simp only [Act.put, List.setIfInBounds_toArray, List.set_cons_zero, List.set_cons_succ]
  refine wpAnyH_take (i := 6) (oi := { dst := some 43, op := Go.Op.load 3 (Go.Operand.tmp 42), type := 3, pos := "tariff.go:52", after := #[{ on := 5, ground := Go.Ground.data }], guard := none }) (v := .int .i64 t.last) rfl (by kernel_rfl) (by kernel_rfl) (by kernel_rfl) (fun _ _ _ h => h) (Or.inl ⟨by rfl, ?_⟩) (by assumption) ?_
  · intro w9 hSw
    have q12 : w9.cell? ⟨w.heap.size, 12, none⟩ = some (.int .i64 t.last) := cell_of_row _ _ _ _ _ _ hSw; go_simp
  try simp only [Act.put, List.setIfInBounds_toArray, List.set_cons_zero, List.set_cons_succ]
  refine wpAnyH_ready (rs := [3]) (by kernel_rfl) (by simp) ?_
  refine AllReadyH.cons (o := { dst := some 40, op := Go.Op.call { callee := Go.Callee.value (Go.Operand.func 27), args := #[Go.Operand.tmp 39], argTypes := #[3] }, type := 9, pos := "tariff.go:52", after := #[{ on := 2, ground := Go.Ground.data }], guard := none }) rfl (fun K hK => ?_) AllReadyH.nil
  go_simp
  refine ((tnn.pc.2.2.1).ft _ TD3).mono ?_
  rintro e wk3x1 ⟨rfl, hwk3x1⟩
  have Bwk3x1 := below_then BD3 hwk3x1
  have Twk3x1 := TD3.below hwk3x1
  go_wp2_with fail
  refine hK.out _ _ ((Bwk3x1.block _ zN2).trans RN2) (fun hHwk3x1 => ?_)
  clear hK K
  try simp only [Act.put, List.setIfInBounds_toArray, List.set_cons_zero, List.set_cons_succ]
  refine wpAnyH_take (i := 4) (oi := { dst := some 41, op := Go.Op.binOp Go.BinOp.add 9 (Go.Operand.const (Go.Value.string { data := #[83] })) (Go.Operand.tmp 40) 9, type := 9, pos := "tariff.go:52", after := #[{ on := 3, ground := Go.Ground.data }], guard := none }) (v := .string Z9) rfl (by kernel_rfl) (by kernel_rfl) (by kernel_rfl) (fun _ _ _ h => h) (Or.inl ⟨by rfl, ?_⟩) (by assumption) ?_
  · intro w9 hSw
    go_simp
  try simp only [Act.put, List.setIfInBounds_toArray, List.set_cons_zero, List.set_cons_succ]
  refine wpAnyH_ready (rs := [7]) (by kernel_rfl) (by simp) ?_
  refine AllReadyH.cons (o := { dst := some 44, op := Go.Op.call { callee := Go.Callee.value (Go.Operand.func 27), args := #[Go.Operand.tmp 43], argTypes := #[3] }, type := 9, pos := "tariff.go:52", after := #[{ on := 6, ground := Go.Ground.data }, { on := 3, ground := Go.Ground.chain }], guard := none }) rfl (fun K hK => ?_) AllReadyH.nil
  go_simp
  refine ((tnn.pc.2.2.2).ft _ Twk3x1).mono ?_
  rintro e wk3x2 ⟨rfl, hwk3x2⟩
  have Bwk3x2 := below_then Bwk3x1 hwk3x2
  have Twk3x2 := Twk3x1.below hwk3x2
  go_wp2_with fail
  refine hK.out _ _ ((Bwk3x2.block _ zN2).trans RN2) (fun hHwk3x2 => ?_)
  clear hK K
  try simp only [Act.put, List.setIfInBounds_toArray, List.set_cons_zero, List.set_cons_succ]
  refine wpAnyH_take (i := 8) (oi := { dst := some 45, op := Go.Op.binOp Go.BinOp.add 9 (Go.Operand.tmp 41) (Go.Operand.tmp 44) 9, type := 9, pos := "tariff.go:52", after := #[{ on := 4, ground := Go.Ground.data }, { on := 7, ground := Go.Ground.data }], guard := none }) (v := .string Z10) rfl (by kernel_rfl) (by kernel_rfl) (by kernel_rfl) (fun _ _ _ h => h) (Or.inl ⟨by rfl, ?_⟩) (by assumption) ?_
  · intro w9 hSw
    go_simp
  try simp only [Act.put, List.setIfInBounds_toArray, List.set_cons_zero, List.set_cons_succ]
  refine wpAnyH_take (i := 9) (oi := { dst := some 46, op := Go.Op.binOp Go.BinOp.add 9 (Go.Operand.tmp 45) (Go.Operand.const (Go.Value.string { data := #[10] })) 9, type := 9, pos := "tariff.go:52", after := #[{ on := 8, ground := Go.Ground.data }], guard := none }) (v := .string Z11) rfl (by kernel_rfl) (by kernel_rfl) (by kernel_rfl) (fun _ _ _ h => h) (Or.inl ⟨by rfl, ?_⟩) (by assumption) ?_
  · intro w9 hSw
    go_simp
  try simp only [Act.put, List.setIfInBounds_toArray, List.set_cons_zero, List.set_cons_succ]
  refine wpAnyH_take (i := 10) (oi := { dst := some 47, op := Go.Op.binOp Go.BinOp.add 9 (Go.Operand.tmp 37) (Go.Operand.tmp 46) 9, type := 9, pos := "tariff.go:52", after := #[{ on := 0, ground := Go.Ground.data }, { on := 9, ground := Go.Ground.data }], guard := none }) (v := .string Z12) rfl (by kernel_rfl) (by kernel_rfl) (by kernel_rfl) (fun _ _ _ h => h) (Or.inl ⟨by rfl, ?_⟩) (by assumption) ?_
  · intro w9 hSw
    go_simp
  try simp only [Act.put, List.setIfInBounds_toArray, List.set_cons_zero, List.set_cons_succ]
  refine wpAnyH_take (i := 11) (oi := { dst := some 3, op := Go.Op.assign (Go.Operand.tmp 47), type := 9, pos := "tariff.go:52", after := #[{ on := 10, ground := Go.Ground.data }, { on := 7, ground := Go.Ground.chain }, { on := 0, ground := Go.Ground.phase }, { on := 1, ground := Go.Ground.phase }, { on := 2, ground := Go.Ground.phase }, { on := 3, ground := Go.Ground.phase }, { on := 4, ground := Go.Ground.phase }, { on := 5, ground := Go.Ground.phase }, { on := 6, ground := Go.Ground.phase }, { on := 7, ground := Go.Ground.phase }, { on := 8, ground := Go.Ground.phase }, { on := 9, ground := Go.Ground.phase }, { on := 10, ground := Go.Ground.phase }], guard := none }) (v := .string Z12) rfl (by kernel_rfl) (by kernel_rfl) (by kernel_rfl) (fun _ _ _ h => h) (Or.inl ⟨by rfl, ?_⟩) (by assumption) ?_
  · intro w9 hSw
    go_simp
  try simp only [Act.put, List.setIfInBounds_toArray, List.set_cons_zero, List.set_cons_succ]
  refine wpAnyH_done (by kernel_rfl) ?_ _
  have RN3 := (Bwk3x2.block _ zN2).trans RN2
  have BN3 := below_then BN2 Bwk3x2
  have TN3 := ht.below BN3
  have zN3 : w.heap.size < wk3x2.heap.size := (Array.getElem?_eq_some_iff.1 RN3).1
  go_upto_region 6 with fail
  have HX0 : Hid (Z12 = lZ t ++ lD t ++ lS t) := by show _ = _; unfold lZ lD lS; rw [HZ12.out, HZ11.out, HZ10.out, HZ9.out, HZ8.out, HZ7.out, HZ6.out, HZ5.out, HZ4.out, HZ3.out, HZ2.out, HZ1.out]
  have sX0 : (lZ t ++ lD t ++ lS t).size ≤ 292 := by have := sZ12; rw [HX0.out] at this; exact this
  obtain ⟨X0, hX0⟩ : ∃ X, X = lZ t ++ lD t ++ lS t := ⟨_, rfl⟩
  rw [← hX0] at sX0 HX0
  rw [HX0.out]
  have HXX := hideP hX0
  have HKS := hideP (hK_size tnn sX0)
  clear hX0
  go_wp2_with fail
  go_loopw [3, 4] (fun s p wi => ∃ k : Nat, p = .int .i64 k ∧ k ≤ 4 ∧ s = .string (hK t X0 k) ∧ wi = wk3x2) (fun _ p _ => 4 - (intOf p).toNat)
  case atStart => exact ⟨0, rfl, by omega, rfl, rfl⟩
  case round =>
    obtain ⟨k, rfl, hk, rfl, hwr⟩ := hrel
    have hwr2 := hwr.symm
    subst hwr2
    by_cases hlt : k < 4
    · have hlt' : (k : Int) < 4 := by omega
      have hk0 : (0 : Int) ≤ (k : Int) := by omega
      have ck : wk3x2.cell? ⟨w.heap.size, 13 + k, none⟩ = some (.string (hAt t k)) := by
        rw [cell_of_row _ _ _ _ _ _ RN3]
        rcases (by omega : k = 0 ∨ k = 1 ∨ k = 2 ∨ k = 3) with rfl | rfl | rfl | rfl <;> rfl
      have sk := HKS.out k (by omega)
      have sh := tnn.ph k hlt
      have HS : Hid (hK t X0 (k + 1) = hK t X0 k ++ (⟨#[87, 32]⟩ ++ hAt t k ++ ⟨#[10]⟩)) := rfl
      obtain ⟨X, hX⟩ : ∃ X, X = hK t X0 k := ⟨_, rfl⟩
      rw [← hX] at sk HS
      rw [← hX]
      obtain ⟨h, hh⟩ : ∃ h, h = hAt t k := ⟨_, rfl⟩
      rw [← hh] at ck sh HS
      obtain ⟨A1, hA1⟩ : ∃ A, A = (⟨#[87, 32]⟩ : ByteArray) ++ h := ⟨_, rfl⟩
      obtain ⟨A2, hA2⟩ : ∃ A, A = A1 ++ (⟨#[10]⟩ : ByteArray) := ⟨_, rfl⟩
      have sA1 : A1.size = 26 := by rw [hA1, app_size, sh]; rfl
      have sA2 : A2.size = 27 := by rw [hA2, app_size, sA1]; rfl
      have d1 : ∀ w, (Op.stringOp .add ⟨#[87, 32]⟩ h).run Tryd.prog w = .ok (.string A1) w := by rw [hA1]; exact sadd _ _ (by show 2 + _ ≤ _; omega)
      have d2 : ∀ w, (Op.stringOp .add A1 ⟨#[10]⟩).run Tryd.prog w = .ok (.string A2) w := by rw [hA2]; exact sadd _ _ (by show _ + 1 ≤ _; omega)
      have d3 : ∀ w, (Op.stringOp .add X A2).run Tryd.prog w = .ok (.string (X ++ A2)) w := sadd _ _ (by omega)
      have HA : Hid (A2 = ⟨#[87, 32]⟩ ++ h ++ ⟨#[10]⟩) := by show _ = _; rw [hA2, hA1]
      clear hX hh hA1 hA2
      go_wp2_with fail
      go_roundw
      case rel => exact ⟨k + 1, by go_num, by omega, by rw [HS.out, HA.out], by first | rfl | trivial⟩
      case measure => simp [intOf]; omega
    · have hlt' : ¬ (k : Int) < 4 := by omega
      have hk4 : k = 4 := by omega
      subst hk4
      have sX4 := HKS.out 4 (by omega)
      obtain ⟨X4, hX4⟩ : ∃ X, X = hK t X0 4 := ⟨_, rfl⟩
      rw [← hX4] at sX4
      rw [← hX4]
      have HX4 := hideP hX4
      have BKS := hideP (bK_size tnn sX4)
      clear hX4 hlt
      go_wp2_with fail
      go_loopw [3, 5] (fun s p wi => ∃ k : Nat, p = .int .i64 k ∧ k ≤ 3 ∧ s = .string (bK t X4 k) ∧ Below wk3x2.heap.size wk3x2 wi) (fun _ p _ => 3 - (intOf p).toNat)
      case atStart => exact ⟨0, rfl, by omega, rfl, Below.refl _ _⟩
      case round =>
        obtain ⟨k, rfl, hk, rfl, hb⟩ := hrel
        have RW : wr.heap[w.heap.size]? = some (.cells #[.int .i64 t.z.off, .int .i64 t.z.f.m, .int .i64 t.z.f.w, .int .i64 t.z.f.d, .int .i64 t.z.f.h, .int .i64 t.z.t.m, .int .i64 t.z.t.w, .int .i64 t.z.t.d, .int .i64 t.z.t.h, .int .i64 t.days, .int .i64 t.gap, .int .i64 t.first, .int .i64 t.last, .string t.h0, .string t.h1, .string t.h2, .string t.h3, .int .i64 t.b0.x, .int .i64 t.b0.y, .int .i64 t.b0.z, .int .i64 t.b1.x, .int .i64 t.b1.y, .int .i64 t.b1.z, .int .i64 t.b2.x, .int .i64 t.b2.y, .int .i64 t.b2.z, .int .i64 t.d.x, .int .i64 t.d.y, .int .i64 t.d.z, .int .i64 t.np, .int .i64 t.nn, .int .i64 t.fix, .int .i64 t.min, .int .i64 t.tax] 54) := (hb.block _ zN3).trans RN3
        have BW := below_then BN3 hb
        have TW := ht.below BW
        have zW : w.heap.size < wr.heap.size := (Array.getElem?_eq_some_iff.1 RW).1
        by_cases hlt : k < 3
        · have hlt' : (k : Int) < 3 := by omega
          have hk0 : (0 : Int) ≤ (k : Int) := by omega
          have ck : wr.cell? ⟨w.heap.size, 17 + k * 3, none⟩ = some (.int .i64 (bAt t k).x) ∧ wr.cell? ⟨w.heap.size, 17 + k * 3 + 1, none⟩ = some (.int .i64 (bAt t k).y) ∧ wr.cell? ⟨w.heap.size, 17 + k * 3 + 2, none⟩ = some (.int .i64 (bAt t k).z) := by
            rcases (by omega : k = 0 ∨ k = 1 ∨ k = 2) with rfl | rfl | rfl <;> exact ⟨cell_of_row _ _ _ _ _ _ RW, cell_of_row _ _ _ _ _ _ RW, cell_of_row _ _ _ _ _ _ RW⟩
          obtain ⟨k0, k1, k2⟩ := ck
          have bt := fun W (hT : TB W) => blockText_any (bAt t k) W hT (tnn.pb k hlt).1 (tnn.pb k hlt).2.1 (tnn.pb k hlt).2.2
          have sb := bS_size (tnn.pb k hlt)
          have sk := BKS.out k (by omega)
          have HS : Hid (bK t X4 (k + 1) = bK t X4 k ++ bS (bAt t k)) := rfl
          obtain ⟨X, hX⟩ : ∃ X, X = bK t X4 k := ⟨_, rfl⟩
          rw [← hX] at sk HS
          rw [← hX]
          obtain ⟨q, hq⟩ : ∃ q, q = bAt t k := ⟨_, rfl⟩
          rw [← hq] at k0 k1 k2 bt sb HS
          have d3 : ∀ w, (Op.stringOp .add X (bS q)).run Tryd.prog w = .ok (.string (X ++ bS q)) w := sadd _ _ (by omega)
          clear hX hq
          go_wp2_with (go_at_call 32; refine (bt _ TW).mono ?_; rintro e w8 ⟨rfl, hb8⟩)
          go_roundw
          case rel => exact ⟨k + 1, by go_num, by omega, by rw [HS.out], below_then hb hb8⟩
          case measure => simp [intOf]; omega
        · have hlt' : ¬ (k : Int) < 3 := by omega
          have hk3 : k = 3 := by omega
          subst hk3
          have sX5 := BKS.out 3 (by omega)
          obtain ⟨X5, hX5⟩ : ∃ X, X = bK t X4 3 := ⟨_, rfl⟩
          rw [← hX5] at sX5
          rw [← hX5]
          have HX5 := hideP hX5
          clear hX5 hlt
          go_upto_region 14 with fail
          have BD4 : Below wr.heap.size wr wr.drew := Below.drew (Below.refl _ _)
          have TD4 : TB wr.drew := TW.below BD4
          obtain ⟨Z13, hZ13⟩ : ∃ Z, Z = (⟨#[77]⟩ : ByteArray) ++ (fS t.d.x) := ⟨_, rfl⟩
          have sZ13 : Z13.size ≤ 23 := by have q1 := (show (⟨#[77]⟩ : ByteArray).size ≤ 1 from Nat.le_refl _); have q2 := (show (fS t.d.x).size ≤ 22 from (tnn.pd.1).f); rw [hZ13, app_size]; omega
          have aZ13 : ∀ w, (Op.stringOp .add (⟨#[77]⟩ : ByteArray) (fS t.d.x)).run Tryd.prog w = .ok (.string Z13) w := by have q1 := (show (⟨#[77]⟩ : ByteArray).size ≤ 1 from Nat.le_refl _); have q2 := (show (fS t.d.x).size ≤ 22 from (tnn.pd.1).f); rw [hZ13]; exact sadd _ _ (by omega)
          have HZ13 := hideP hZ13
          clear hZ13
          obtain ⟨Z14, hZ14⟩ : ∃ Z, Z = Z13 ++ (fS t.d.y) := ⟨_, rfl⟩
          have sZ14 : Z14.size ≤ 45 := by have q1 := (show Z13.size ≤ 23 from sZ13); have q2 := (show (fS t.d.y).size ≤ 22 from (tnn.pd.2.1).f); rw [hZ14, app_size]; omega
          have aZ14 : ∀ w, (Op.stringOp .add Z13 (fS t.d.y)).run Tryd.prog w = .ok (.string Z14) w := by have q1 := (show Z13.size ≤ 23 from sZ13); have q2 := (show (fS t.d.y).size ≤ 22 from (tnn.pd.2.1).f); rw [hZ14]; exact sadd _ _ (by omega)
          have HZ14 := hideP hZ14
          clear hZ14
          obtain ⟨Z15, hZ15⟩ : ∃ Z, Z = Z14 ++ (fS t.d.z) := ⟨_, rfl⟩
          have sZ15 : Z15.size ≤ 67 := by have q1 := (show Z14.size ≤ 45 from sZ14); have q2 := (show (fS t.d.z).size ≤ 22 from (tnn.pd.2.2).f); rw [hZ15, app_size]; omega
          have aZ15 : ∀ w, (Op.stringOp .add Z14 (fS t.d.z)).run Tryd.prog w = .ok (.string Z15) w := by have q1 := (show Z14.size ≤ 45 from sZ14); have q2 := (show (fS t.d.z).size ≤ 22 from (tnn.pd.2.2).f); rw [hZ15]; exact sadd _ _ (by omega)
          have HZ15 := hideP hZ15
          clear hZ15
          obtain ⟨Z16, hZ16⟩ : ∃ Z, Z = Z15 ++ (⟨#[10]⟩ : ByteArray) := ⟨_, rfl⟩
          have sZ16 : Z16.size ≤ 68 := by have q1 := (show Z15.size ≤ 67 from sZ15); have q2 := (show (⟨#[10]⟩ : ByteArray).size ≤ 1 from Nat.le_refl _); rw [hZ16, app_size]; omega
          have aZ16 : ∀ w, (Op.stringOp .add Z15 (⟨#[10]⟩ : ByteArray)).run Tryd.prog w = .ok (.string Z16) w := by have q1 := (show Z15.size ≤ 67 from sZ15); have q2 := (show (⟨#[10]⟩ : ByteArray).size ≤ 1 from Nat.le_refl _); rw [hZ16]; exact sadd _ _ (by omega)
          have HZ16 := hideP hZ16
          clear hZ16
          obtain ⟨Z17, hZ17⟩ : ∃ Z, Z = X5 ++ Z16 := ⟨_, rfl⟩
          have sZ17 : Z17.size ≤ 672 := by have q1 := (show X5.size ≤ 604 from sX5); have q2 := (show Z16.size ≤ 68 from sZ16); rw [hZ17, app_size]; omega
          have aZ17 : ∀ w, (Op.stringOp .add X5 Z16).run Tryd.prog w = .ok (.string Z17) w := by have q1 := (show X5.size ≤ 604 from sX5); have q2 := (show Z16.size ≤ 68 from sZ16); rw [hZ17]; exact sadd _ _ (by omega)
          have HZ17 := hideP hZ17
          clear hZ17
          refine wp_region_held_drew (S := (fun w' => w'.heap[w.heap.size]? = some (.cells #[.int .i64 t.z.off, .int .i64 t.z.f.m, .int .i64 t.z.f.w, .int .i64 t.z.f.d, .int .i64 t.z.f.h, .int .i64 t.z.t.m, .int .i64 t.z.t.w, .int .i64 t.z.t.d, .int .i64 t.z.t.h, .int .i64 t.days, .int .i64 t.gap, .int .i64 t.first, .int .i64 t.last, .string t.h0, .string t.h1, .string t.h2, .string t.h3, .int .i64 t.b0.x, .int .i64 t.b0.y, .int .i64 t.b0.z, .int .i64 t.b1.x, .int .i64 t.b1.y, .int .i64 t.b1.z, .int .i64 t.b2.x, .int .i64 t.b2.y, .int .i64 t.b2.z, .int .i64 t.d.x, .int .i64 t.d.y, .int .i64 t.d.z, .int .i64 t.np, .int .i64 t.nn, .int .i64 t.fix, .int .i64 t.min, .int .i64 t.tax] 54 (0, 0)))) (by kernel_rfl) RW (fun hH0 => ?_)
          refine wpAnyH_take (i := 0) (oi := { dst := some 71, op := Go.Op.move (Go.Operand.tmp 3), type := 9, pos := "tariff.go:59", after := #[], guard := none }) (v := .string X5) rfl (by kernel_rfl) (by kernel_rfl) (by kernel_rfl) (fun _ _ _ h => h) (Or.inl ⟨by rfl, ?_⟩) (by assumption) ?_
          · intro w9 hSw
            go_simp
          try simp only [Act.put, List.setIfInBounds_toArray, List.set_cons_zero, List.set_cons_succ]
          refine wpAnyH_take (i := 1) (oi := { dst := some 72, op := Go.Op.fieldAddr 54 (Go.Operand.tmp 1) 7, type := 0, pos := "tariff.go:59", after := #[], guard := none }) (v := .pointer (some ⟨w.heap.size, 26, none⟩)) rfl (by kernel_rfl) (by kernel_rfl) (by kernel_rfl) (fun _ _ _ h => h) (Or.inl ⟨by rfl, ?_⟩) (by assumption) ?_
          · intro w9 hSw
            go_simp
          try simp only [Act.put, List.setIfInBounds_toArray, List.set_cons_zero, List.set_cons_succ]
          refine wpAnyH_take (i := 2) (oi := { dst := some 73, op := Go.Op.fieldAddr 50 (Go.Operand.tmp 72) 0, type := 0, pos := "tariff.go:59", after := #[{ on := 1, ground := Go.Ground.data }], guard := none }) (v := .pointer (some ⟨w.heap.size, 26, none⟩)) rfl (by kernel_rfl) (by kernel_rfl) (by kernel_rfl) (fun _ _ _ h => h) (Or.inl ⟨by rfl, ?_⟩) (by assumption) ?_
          · intro w9 hSw
            go_simp
          try simp only [Act.put, List.setIfInBounds_toArray, List.set_cons_zero, List.set_cons_succ]
          refine wpAnyH_take (i := 3) (oi := { dst := some 74, op := Go.Op.load 3 (Go.Operand.tmp 73), type := 3, pos := "tariff.go:59", after := #[{ on := 2, ground := Go.Ground.data }], guard := none }) (v := .int .i64 t.d.x) rfl (by kernel_rfl) (by kernel_rfl) (by kernel_rfl) (fun _ _ _ h => h) (Or.inl ⟨by rfl, ?_⟩) (by assumption) ?_
          · intro w9 hSw
            have q26 : w9.cell? ⟨w.heap.size, 26, none⟩ = some (.int .i64 t.d.x) := cell_of_row _ _ _ _ _ _ hSw; go_simp
          try simp only [Act.put, List.setIfInBounds_toArray, List.set_cons_zero, List.set_cons_succ]
          refine wpAnyH_take (i := 6) (oi := { dst := some 77, op := Go.Op.fieldAddr 54 (Go.Operand.tmp 1) 7, type := 0, pos := "tariff.go:59", after := #[], guard := none }) (v := .pointer (some ⟨w.heap.size, 26, none⟩)) rfl (by kernel_rfl) (by kernel_rfl) (by kernel_rfl) (fun _ _ _ h => h) (Or.inl ⟨by rfl, ?_⟩) (by assumption) ?_
          · intro w9 hSw
            go_simp
          try simp only [Act.put, List.setIfInBounds_toArray, List.set_cons_zero, List.set_cons_succ]
          refine wpAnyH_take (i := 7) (oi := { dst := some 78, op := Go.Op.fieldAddr 50 (Go.Operand.tmp 77) 1, type := 0, pos := "tariff.go:59", after := #[{ on := 6, ground := Go.Ground.data }], guard := none }) (v := .pointer (some ⟨w.heap.size, 27, none⟩)) rfl (by kernel_rfl) (by kernel_rfl) (by kernel_rfl) (fun _ _ _ h => h) (Or.inl ⟨by rfl, ?_⟩) (by assumption) ?_
          · intro w9 hSw
            go_simp
          try simp only [Act.put, List.setIfInBounds_toArray, List.set_cons_zero, List.set_cons_succ]
          refine wpAnyH_take (i := 8) (oi := { dst := some 79, op := Go.Op.load 3 (Go.Operand.tmp 78), type := 3, pos := "tariff.go:59", after := #[{ on := 7, ground := Go.Ground.data }], guard := none }) (v := .int .i64 t.d.y) rfl (by kernel_rfl) (by kernel_rfl) (by kernel_rfl) (fun _ _ _ h => h) (Or.inl ⟨by rfl, ?_⟩) (by assumption) ?_
          · intro w9 hSw
            have q27 : w9.cell? ⟨w.heap.size, 27, none⟩ = some (.int .i64 t.d.y) := cell_of_row _ _ _ _ _ _ hSw; go_simp
          try simp only [Act.put, List.setIfInBounds_toArray, List.set_cons_zero, List.set_cons_succ]
          refine wpAnyH_take (i := 11) (oi := { dst := some 82, op := Go.Op.fieldAddr 54 (Go.Operand.tmp 1) 7, type := 0, pos := "tariff.go:59", after := #[], guard := none }) (v := .pointer (some ⟨w.heap.size, 26, none⟩)) rfl (by kernel_rfl) (by kernel_rfl) (by kernel_rfl) (fun _ _ _ h => h) (Or.inl ⟨by rfl, ?_⟩) (by assumption) ?_
          · intro w9 hSw
            go_simp
          try simp only [Act.put, List.setIfInBounds_toArray, List.set_cons_zero, List.set_cons_succ]
          refine wpAnyH_take (i := 12) (oi := { dst := some 83, op := Go.Op.fieldAddr 50 (Go.Operand.tmp 82) 2, type := 0, pos := "tariff.go:59", after := #[{ on := 11, ground := Go.Ground.data }], guard := none }) (v := .pointer (some ⟨w.heap.size, 28, none⟩)) rfl (by kernel_rfl) (by kernel_rfl) (by kernel_rfl) (fun _ _ _ h => h) (Or.inl ⟨by rfl, ?_⟩) (by assumption) ?_
          · intro w9 hSw
            go_simp
          try simp only [Act.put, List.setIfInBounds_toArray, List.set_cons_zero, List.set_cons_succ]
          refine wpAnyH_take (i := 13) (oi := { dst := some 84, op := Go.Op.load 3 (Go.Operand.tmp 83), type := 3, pos := "tariff.go:59", after := #[{ on := 12, ground := Go.Ground.data }], guard := none }) (v := .int .i64 t.d.z) rfl (by kernel_rfl) (by kernel_rfl) (by kernel_rfl) (fun _ _ _ h => h) (Or.inl ⟨by rfl, ?_⟩) (by assumption) ?_
          · intro w9 hSw
            have q28 : w9.cell? ⟨w.heap.size, 28, none⟩ = some (.int .i64 t.d.z) := cell_of_row _ _ _ _ _ _ hSw; go_simp
          try simp only [Act.put, List.setIfInBounds_toArray, List.set_cons_zero, List.set_cons_succ]
          refine wpAnyH_ready (rs := [4]) (by kernel_rfl) (by simp) ?_
          refine AllReadyH.cons (o := { dst := some 75, op := Go.Op.call { callee := Go.Callee.value (Go.Operand.func 27), args := #[Go.Operand.tmp 74], argTypes := #[3] }, type := 9, pos := "tariff.go:59", after := #[{ on := 3, ground := Go.Ground.data }], guard := none }) rfl (fun K hK => ?_) AllReadyH.nil
          go_simp
          refine ((tnn.pd.1).ft _ TD4).mono ?_
          rintro e wk4x1 ⟨rfl, hwk4x1⟩
          have Bwk4x1 := below_then BD4 hwk4x1
          have Twk4x1 := TD4.below hwk4x1
          go_wp2_with fail
          refine hK.out _ _ ((Bwk4x1.block _ zW).trans RW) (fun hHwk4x1 => ?_)
          clear hK K
          try simp only [Act.put, List.setIfInBounds_toArray, List.set_cons_zero, List.set_cons_succ]
          refine wpAnyH_take (i := 5) (oi := { dst := some 76, op := Go.Op.binOp Go.BinOp.add 9 (Go.Operand.const (Go.Value.string { data := #[77] })) (Go.Operand.tmp 75) 9, type := 9, pos := "tariff.go:59", after := #[{ on := 4, ground := Go.Ground.data }], guard := none }) (v := .string Z13) rfl (by kernel_rfl) (by kernel_rfl) (by kernel_rfl) (fun _ _ _ h => h) (Or.inl ⟨by rfl, ?_⟩) (by assumption) ?_
          · intro w9 hSw
            go_simp
          try simp only [Act.put, List.setIfInBounds_toArray, List.set_cons_zero, List.set_cons_succ]
          refine wpAnyH_ready (rs := [9]) (by kernel_rfl) (by simp) ?_
          refine AllReadyH.cons (o := { dst := some 80, op := Go.Op.call { callee := Go.Callee.value (Go.Operand.func 27), args := #[Go.Operand.tmp 79], argTypes := #[3] }, type := 9, pos := "tariff.go:59", after := #[{ on := 8, ground := Go.Ground.data }, { on := 4, ground := Go.Ground.chain }], guard := none }) rfl (fun K hK => ?_) AllReadyH.nil
          go_simp
          refine ((tnn.pd.2.1).ft _ Twk4x1).mono ?_
          rintro e wk4x2 ⟨rfl, hwk4x2⟩
          have Bwk4x2 := below_then Bwk4x1 hwk4x2
          have Twk4x2 := Twk4x1.below hwk4x2
          go_wp2_with fail
          refine hK.out _ _ ((Bwk4x2.block _ zW).trans RW) (fun hHwk4x2 => ?_)
          clear hK K
          try simp only [Act.put, List.setIfInBounds_toArray, List.set_cons_zero, List.set_cons_succ]
          refine wpAnyH_take (i := 10) (oi := { dst := some 81, op := Go.Op.binOp Go.BinOp.add 9 (Go.Operand.tmp 76) (Go.Operand.tmp 80) 9, type := 9, pos := "tariff.go:59", after := #[{ on := 5, ground := Go.Ground.data }, { on := 9, ground := Go.Ground.data }], guard := none }) (v := .string Z14) rfl (by kernel_rfl) (by kernel_rfl) (by kernel_rfl) (fun _ _ _ h => h) (Or.inl ⟨by rfl, ?_⟩) (by assumption) ?_
          · intro w9 hSw
            go_simp
          try simp only [Act.put, List.setIfInBounds_toArray, List.set_cons_zero, List.set_cons_succ]
          refine wpAnyH_ready (rs := [14]) (by kernel_rfl) (by simp) ?_
          refine AllReadyH.cons (o := { dst := some 85, op := Go.Op.call { callee := Go.Callee.value (Go.Operand.func 27), args := #[Go.Operand.tmp 84], argTypes := #[3] }, type := 9, pos := "tariff.go:59", after := #[{ on := 13, ground := Go.Ground.data }, { on := 9, ground := Go.Ground.chain }], guard := none }) rfl (fun K hK => ?_) AllReadyH.nil
          go_simp
          refine ((tnn.pd.2.2).ft _ Twk4x2).mono ?_
          rintro e wk4x3 ⟨rfl, hwk4x3⟩
          have Bwk4x3 := below_then Bwk4x2 hwk4x3
          have Twk4x3 := Twk4x2.below hwk4x3
          go_wp2_with fail
          refine hK.out _ _ ((Bwk4x3.block _ zW).trans RW) (fun hHwk4x3 => ?_)
          clear hK K
          try simp only [Act.put, List.setIfInBounds_toArray, List.set_cons_zero, List.set_cons_succ]
          refine wpAnyH_take (i := 15) (oi := { dst := some 86, op := Go.Op.binOp Go.BinOp.add 9 (Go.Operand.tmp 81) (Go.Operand.tmp 85) 9, type := 9, pos := "tariff.go:59", after := #[{ on := 10, ground := Go.Ground.data }, { on := 14, ground := Go.Ground.data }], guard := none }) (v := .string Z15) rfl (by kernel_rfl) (by kernel_rfl) (by kernel_rfl) (fun _ _ _ h => h) (Or.inl ⟨by rfl, ?_⟩) (by assumption) ?_
          · intro w9 hSw
            go_simp
          try simp only [Act.put, List.setIfInBounds_toArray, List.set_cons_zero, List.set_cons_succ]
          refine wpAnyH_take (i := 16) (oi := { dst := some 87, op := Go.Op.binOp Go.BinOp.add 9 (Go.Operand.tmp 86) (Go.Operand.const (Go.Value.string { data := #[10] })) 9, type := 9, pos := "tariff.go:59", after := #[{ on := 15, ground := Go.Ground.data }], guard := none }) (v := .string Z16) rfl (by kernel_rfl) (by kernel_rfl) (by kernel_rfl) (fun _ _ _ h => h) (Or.inl ⟨by rfl, ?_⟩) (by assumption) ?_
          · intro w9 hSw
            go_simp
          try simp only [Act.put, List.setIfInBounds_toArray, List.set_cons_zero, List.set_cons_succ]
          refine wpAnyH_take (i := 17) (oi := { dst := some 88, op := Go.Op.binOp Go.BinOp.add 9 (Go.Operand.tmp 71) (Go.Operand.tmp 87) 9, type := 9, pos := "tariff.go:59", after := #[{ on := 0, ground := Go.Ground.data }, { on := 16, ground := Go.Ground.data }], guard := none }) (v := .string Z17) rfl (by kernel_rfl) (by kernel_rfl) (by kernel_rfl) (fun _ _ _ h => h) (Or.inl ⟨by rfl, ?_⟩) (by assumption) ?_
          · intro w9 hSw
            go_simp
          try simp only [Act.put, List.setIfInBounds_toArray, List.set_cons_zero, List.set_cons_succ]
          refine wpAnyH_take (i := 18) (oi := { dst := some 3, op := Go.Op.assign (Go.Operand.tmp 88), type := 9, pos := "tariff.go:59", after := #[{ on := 17, ground := Go.Ground.data }, { on := 14, ground := Go.Ground.chain }, { on := 0, ground := Go.Ground.phase }, { on := 1, ground := Go.Ground.phase }, { on := 2, ground := Go.Ground.phase }, { on := 3, ground := Go.Ground.phase }, { on := 4, ground := Go.Ground.phase }, { on := 5, ground := Go.Ground.phase }, { on := 6, ground := Go.Ground.phase }, { on := 7, ground := Go.Ground.phase }, { on := 8, ground := Go.Ground.phase }, { on := 9, ground := Go.Ground.phase }, { on := 10, ground := Go.Ground.phase }, { on := 11, ground := Go.Ground.phase }, { on := 12, ground := Go.Ground.phase }, { on := 13, ground := Go.Ground.phase }, { on := 14, ground := Go.Ground.phase }, { on := 15, ground := Go.Ground.phase }, { on := 16, ground := Go.Ground.phase }, { on := 17, ground := Go.Ground.phase }], guard := none }) (v := .string Z17) rfl (by kernel_rfl) (by kernel_rfl) (by kernel_rfl) (fun _ _ _ h => h) (Or.inl ⟨by rfl, ?_⟩) (by assumption) ?_
          · intro w9 hSw
            go_simp
          try simp only [Act.put, List.setIfInBounds_toArray, List.set_cons_zero, List.set_cons_succ]
          refine wpAnyH_done (by kernel_rfl) ?_ _
          have RN4 := (Bwk4x3.block _ zW).trans RW
          have BN4 := below_then BW Bwk4x3
          have TN4 := ht.below BN4
          have zN4 : w.heap.size < wk4x3.heap.size := (Array.getElem?_eq_some_iff.1 RN4).1
          go_upto_region 15 with fail
          have BD5 : Below wk4x3.heap.size wk4x3 wk4x3.drew := Below.drew (Below.refl _ _)
          have TD5 : TB wk4x3.drew := TN4.below BD5
          obtain ⟨Z18, hZ18⟩ : ∃ Z, Z = (⟨#[78]⟩ : ByteArray) ++ (fS t.np) := ⟨_, rfl⟩
          have sZ18 : Z18.size ≤ 23 := by have q1 := (show (⟨#[78]⟩ : ByteArray).size ≤ 1 from Nat.le_refl _); have q2 := (show (fS t.np).size ≤ 22 from (tnn.pn.1).f); rw [hZ18, app_size]; omega
          have aZ18 : ∀ w, (Op.stringOp .add (⟨#[78]⟩ : ByteArray) (fS t.np)).run Tryd.prog w = .ok (.string Z18) w := by have q1 := (show (⟨#[78]⟩ : ByteArray).size ≤ 1 from Nat.le_refl _); have q2 := (show (fS t.np).size ≤ 22 from (tnn.pn.1).f); rw [hZ18]; exact sadd _ _ (by omega)
          have HZ18 := hideP hZ18
          clear hZ18
          obtain ⟨Z19, hZ19⟩ : ∃ Z, Z = Z18 ++ (fS t.nn) := ⟨_, rfl⟩
          have sZ19 : Z19.size ≤ 45 := by have q1 := (show Z18.size ≤ 23 from sZ18); have q2 := (show (fS t.nn).size ≤ 22 from (tnn.pn.2).f); rw [hZ19, app_size]; omega
          have aZ19 : ∀ w, (Op.stringOp .add Z18 (fS t.nn)).run Tryd.prog w = .ok (.string Z19) w := by have q1 := (show Z18.size ≤ 23 from sZ18); have q2 := (show (fS t.nn).size ≤ 22 from (tnn.pn.2).f); rw [hZ19]; exact sadd _ _ (by omega)
          have HZ19 := hideP hZ19
          clear hZ19
          obtain ⟨Z20, hZ20⟩ : ∃ Z, Z = Z19 ++ (⟨#[10]⟩ : ByteArray) := ⟨_, rfl⟩
          have sZ20 : Z20.size ≤ 46 := by have q1 := (show Z19.size ≤ 45 from sZ19); have q2 := (show (⟨#[10]⟩ : ByteArray).size ≤ 1 from Nat.le_refl _); rw [hZ20, app_size]; omega
          have aZ20 : ∀ w, (Op.stringOp .add Z19 (⟨#[10]⟩ : ByteArray)).run Tryd.prog w = .ok (.string Z20) w := by have q1 := (show Z19.size ≤ 45 from sZ19); have q2 := (show (⟨#[10]⟩ : ByteArray).size ≤ 1 from Nat.le_refl _); rw [hZ20]; exact sadd _ _ (by omega)
          have HZ20 := hideP hZ20
          clear hZ20
          obtain ⟨Z21, hZ21⟩ : ∃ Z, Z = Z17 ++ Z20 := ⟨_, rfl⟩
          have sZ21 : Z21.size ≤ 718 := by have q1 := (show Z17.size ≤ 672 from sZ17); have q2 := (show Z20.size ≤ 46 from sZ20); rw [hZ21, app_size]; omega
          have aZ21 : ∀ w, (Op.stringOp .add Z17 Z20).run Tryd.prog w = .ok (.string Z21) w := by have q1 := (show Z17.size ≤ 672 from sZ17); have q2 := (show Z20.size ≤ 46 from sZ20); rw [hZ21]; exact sadd _ _ (by omega)
          have HZ21 := hideP hZ21
          clear hZ21
          refine wp_region_held_drew (S := (fun w' => w'.heap[w.heap.size]? = some (.cells #[.int .i64 t.z.off, .int .i64 t.z.f.m, .int .i64 t.z.f.w, .int .i64 t.z.f.d, .int .i64 t.z.f.h, .int .i64 t.z.t.m, .int .i64 t.z.t.w, .int .i64 t.z.t.d, .int .i64 t.z.t.h, .int .i64 t.days, .int .i64 t.gap, .int .i64 t.first, .int .i64 t.last, .string t.h0, .string t.h1, .string t.h2, .string t.h3, .int .i64 t.b0.x, .int .i64 t.b0.y, .int .i64 t.b0.z, .int .i64 t.b1.x, .int .i64 t.b1.y, .int .i64 t.b1.z, .int .i64 t.b2.x, .int .i64 t.b2.y, .int .i64 t.b2.z, .int .i64 t.d.x, .int .i64 t.d.y, .int .i64 t.d.z, .int .i64 t.np, .int .i64 t.nn, .int .i64 t.fix, .int .i64 t.min, .int .i64 t.tax] 54 (0, 0)))) (by kernel_rfl) RN4 (fun hH0 => ?_)
          refine wpAnyH_take (i := 0) (oi := { dst := some 89, op := Go.Op.move (Go.Operand.tmp 3), type := 9, pos := "tariff.go:60", after := #[], guard := none }) (v := .string Z17) rfl (by kernel_rfl) (by kernel_rfl) (by kernel_rfl) (fun _ _ _ h => h) (Or.inl ⟨by rfl, ?_⟩) (by assumption) ?_
          · intro w9 hSw
            go_simp
          try simp only [Act.put, List.setIfInBounds_toArray, List.set_cons_zero, List.set_cons_succ]
          refine wpAnyH_take (i := 1) (oi := { dst := some 90, op := Go.Op.fieldAddr 54 (Go.Operand.tmp 1) 8, type := 0, pos := "tariff.go:60", after := #[], guard := none }) (v := .pointer (some ⟨w.heap.size, 29, none⟩)) rfl (by kernel_rfl) (by kernel_rfl) (by kernel_rfl) (fun _ _ _ h => h) (Or.inl ⟨by rfl, ?_⟩) (by assumption) ?_
          · intro w9 hSw
            go_simp
          try simp only [Act.put, List.setIfInBounds_toArray, List.set_cons_zero, List.set_cons_succ]
          refine wpAnyH_take (i := 2) (oi := { dst := some 91, op := Go.Op.fieldAddr 52 (Go.Operand.tmp 90) 0, type := 0, pos := "tariff.go:60", after := #[{ on := 1, ground := Go.Ground.data }], guard := none }) (v := .pointer (some ⟨w.heap.size, 29, none⟩)) rfl (by kernel_rfl) (by kernel_rfl) (by kernel_rfl) (fun _ _ _ h => h) (Or.inl ⟨by rfl, ?_⟩) (by assumption) ?_
          · intro w9 hSw
            go_simp
          try simp only [Act.put, List.setIfInBounds_toArray, List.set_cons_zero, List.set_cons_succ]
          refine wpAnyH_take (i := 3) (oi := { dst := some 92, op := Go.Op.load 3 (Go.Operand.tmp 91), type := 3, pos := "tariff.go:60", after := #[{ on := 2, ground := Go.Ground.data }], guard := none }) (v := .int .i64 t.np) rfl (by kernel_rfl) (by kernel_rfl) (by kernel_rfl) (fun _ _ _ h => h) (Or.inl ⟨by rfl, ?_⟩) (by assumption) ?_
          · intro w9 hSw
            have q29 : w9.cell? ⟨w.heap.size, 29, none⟩ = some (.int .i64 t.np) := cell_of_row _ _ _ _ _ _ hSw; go_simp
          try simp only [Act.put, List.setIfInBounds_toArray, List.set_cons_zero, List.set_cons_succ]
          refine wpAnyH_take (i := 6) (oi := { dst := some 95, op := Go.Op.fieldAddr 54 (Go.Operand.tmp 1) 8, type := 0, pos := "tariff.go:60", after := #[], guard := none }) (v := .pointer (some ⟨w.heap.size, 29, none⟩)) rfl (by kernel_rfl) (by kernel_rfl) (by kernel_rfl) (fun _ _ _ h => h) (Or.inl ⟨by rfl, ?_⟩) (by assumption) ?_
          · intro w9 hSw
            go_simp
          try simp only [Act.put, List.setIfInBounds_toArray, List.set_cons_zero, List.set_cons_succ]
          refine wpAnyH_take (i := 7) (oi := { dst := some 96, op := Go.Op.fieldAddr 52 (Go.Operand.tmp 95) 1, type := 0, pos := "tariff.go:60", after := #[{ on := 6, ground := Go.Ground.data }], guard := none }) (v := .pointer (some ⟨w.heap.size, 30, none⟩)) rfl (by kernel_rfl) (by kernel_rfl) (by kernel_rfl) (fun _ _ _ h => h) (Or.inl ⟨by rfl, ?_⟩) (by assumption) ?_
          · intro w9 hSw
            go_simp
          try simp only [Act.put, List.setIfInBounds_toArray, List.set_cons_zero, List.set_cons_succ]
          refine wpAnyH_take (i := 8) (oi := { dst := some 97, op := Go.Op.load 3 (Go.Operand.tmp 96), type := 3, pos := "tariff.go:60", after := #[{ on := 7, ground := Go.Ground.data }], guard := none }) (v := .int .i64 t.nn) rfl (by kernel_rfl) (by kernel_rfl) (by kernel_rfl) (fun _ _ _ h => h) (Or.inl ⟨by rfl, ?_⟩) (by assumption) ?_
          · intro w9 hSw
            have q30 : w9.cell? ⟨w.heap.size, 30, none⟩ = some (.int .i64 t.nn) := cell_of_row _ _ _ _ _ _ hSw; go_simp
          try simp only [Act.put, List.setIfInBounds_toArray, List.set_cons_zero, List.set_cons_succ]
          refine wpAnyH_ready (rs := [4]) (by kernel_rfl) (by simp) ?_
          refine AllReadyH.cons (o := { dst := some 93, op := Go.Op.call { callee := Go.Callee.value (Go.Operand.func 27), args := #[Go.Operand.tmp 92], argTypes := #[3] }, type := 9, pos := "tariff.go:60", after := #[{ on := 3, ground := Go.Ground.data }], guard := none }) rfl (fun K hK => ?_) AllReadyH.nil
          go_simp
          refine ((tnn.pn.1).ft _ TD5).mono ?_
          rintro e wk5x1 ⟨rfl, hwk5x1⟩
          have Bwk5x1 := below_then BD5 hwk5x1
          have Twk5x1 := TD5.below hwk5x1
          go_wp2_with fail
          refine hK.out _ _ ((Bwk5x1.block _ zN4).trans RN4) (fun hHwk5x1 => ?_)
          clear hK K
          try simp only [Act.put, List.setIfInBounds_toArray, List.set_cons_zero, List.set_cons_succ]
          refine wpAnyH_take (i := 5) (oi := { dst := some 94, op := Go.Op.binOp Go.BinOp.add 9 (Go.Operand.const (Go.Value.string { data := #[78] })) (Go.Operand.tmp 93) 9, type := 9, pos := "tariff.go:60", after := #[{ on := 4, ground := Go.Ground.data }], guard := none }) (v := .string Z18) rfl (by kernel_rfl) (by kernel_rfl) (by kernel_rfl) (fun _ _ _ h => h) (Or.inl ⟨by rfl, ?_⟩) (by assumption) ?_
          · intro w9 hSw
            go_simp
          try simp only [Act.put, List.setIfInBounds_toArray, List.set_cons_zero, List.set_cons_succ]
          refine wpAnyH_ready (rs := [9]) (by kernel_rfl) (by simp) ?_
          refine AllReadyH.cons (o := { dst := some 98, op := Go.Op.call { callee := Go.Callee.value (Go.Operand.func 27), args := #[Go.Operand.tmp 97], argTypes := #[3] }, type := 9, pos := "tariff.go:60", after := #[{ on := 8, ground := Go.Ground.data }, { on := 4, ground := Go.Ground.chain }], guard := none }) rfl (fun K hK => ?_) AllReadyH.nil
          go_simp
          refine ((tnn.pn.2).ft _ Twk5x1).mono ?_
          rintro e wk5x2 ⟨rfl, hwk5x2⟩
          have Bwk5x2 := below_then Bwk5x1 hwk5x2
          have Twk5x2 := Twk5x1.below hwk5x2
          go_wp2_with fail
          refine hK.out _ _ ((Bwk5x2.block _ zN4).trans RN4) (fun hHwk5x2 => ?_)
          clear hK K
          try simp only [Act.put, List.setIfInBounds_toArray, List.set_cons_zero, List.set_cons_succ]
          refine wpAnyH_take (i := 10) (oi := { dst := some 99, op := Go.Op.binOp Go.BinOp.add 9 (Go.Operand.tmp 94) (Go.Operand.tmp 98) 9, type := 9, pos := "tariff.go:60", after := #[{ on := 5, ground := Go.Ground.data }, { on := 9, ground := Go.Ground.data }], guard := none }) (v := .string Z19) rfl (by kernel_rfl) (by kernel_rfl) (by kernel_rfl) (fun _ _ _ h => h) (Or.inl ⟨by rfl, ?_⟩) (by assumption) ?_
          · intro w9 hSw
            go_simp
          try simp only [Act.put, List.setIfInBounds_toArray, List.set_cons_zero, List.set_cons_succ]
          refine wpAnyH_take (i := 11) (oi := { dst := some 100, op := Go.Op.binOp Go.BinOp.add 9 (Go.Operand.tmp 99) (Go.Operand.const (Go.Value.string { data := #[10] })) 9, type := 9, pos := "tariff.go:60", after := #[{ on := 10, ground := Go.Ground.data }], guard := none }) (v := .string Z20) rfl (by kernel_rfl) (by kernel_rfl) (by kernel_rfl) (fun _ _ _ h => h) (Or.inl ⟨by rfl, ?_⟩) (by assumption) ?_
          · intro w9 hSw
            go_simp
          try simp only [Act.put, List.setIfInBounds_toArray, List.set_cons_zero, List.set_cons_succ]
          refine wpAnyH_take (i := 12) (oi := { dst := some 101, op := Go.Op.binOp Go.BinOp.add 9 (Go.Operand.tmp 89) (Go.Operand.tmp 100) 9, type := 9, pos := "tariff.go:60", after := #[{ on := 0, ground := Go.Ground.data }, { on := 11, ground := Go.Ground.data }], guard := none }) (v := .string Z21) rfl (by kernel_rfl) (by kernel_rfl) (by kernel_rfl) (fun _ _ _ h => h) (Or.inl ⟨by rfl, ?_⟩) (by assumption) ?_
          · intro w9 hSw
            go_simp
          try simp only [Act.put, List.setIfInBounds_toArray, List.set_cons_zero, List.set_cons_succ]
          refine wpAnyH_take (i := 13) (oi := { dst := some 3, op := Go.Op.assign (Go.Operand.tmp 101), type := 9, pos := "tariff.go:60", after := #[{ on := 12, ground := Go.Ground.data }, { on := 9, ground := Go.Ground.chain }, { on := 0, ground := Go.Ground.phase }, { on := 1, ground := Go.Ground.phase }, { on := 2, ground := Go.Ground.phase }, { on := 3, ground := Go.Ground.phase }, { on := 4, ground := Go.Ground.phase }, { on := 5, ground := Go.Ground.phase }, { on := 6, ground := Go.Ground.phase }, { on := 7, ground := Go.Ground.phase }, { on := 8, ground := Go.Ground.phase }, { on := 9, ground := Go.Ground.phase }, { on := 10, ground := Go.Ground.phase }, { on := 11, ground := Go.Ground.phase }, { on := 12, ground := Go.Ground.phase }], guard := none }) (v := .string Z21) rfl (by kernel_rfl) (by kernel_rfl) (by kernel_rfl) (fun _ _ _ h => h) (Or.inl ⟨by rfl, ?_⟩) (by assumption) ?_
          · intro w9 hSw
            go_simp
          try simp only [Act.put, List.setIfInBounds_toArray, List.set_cons_zero, List.set_cons_succ]
          refine wpAnyH_done (by kernel_rfl) ?_ _
          have RN5 := (Bwk5x2.block _ zN4).trans RN4
          have BN5 := below_then BN4 Bwk5x2
          have TN5 := ht.below BN5
          have zN5 : w.heap.size < wk5x2.heap.size := (Array.getElem?_eq_some_iff.1 RN5).1
          go_upto_region 16 with fail
          have BD6 : Below wk5x2.heap.size wk5x2 wk5x2.drew := Below.drew (Below.refl _ _)
          have TD6 : TB wk5x2.drew := TN5.below BD6
          obtain ⟨Z22, hZ22⟩ : ∃ Z, Z = Z21 ++ (⟨#[70]⟩ : ByteArray) := ⟨_, rfl⟩
          have sZ22 : Z22.size ≤ 719 := by have q1 := (show Z21.size ≤ 718 from sZ21); have q2 := (show (⟨#[70]⟩ : ByteArray).size ≤ 1 from Nat.le_refl _); rw [hZ22, app_size]; omega
          have aZ22 : ∀ w, (Op.stringOp .add Z21 (⟨#[70]⟩ : ByteArray)).run Tryd.prog w = .ok (.string Z22) w := by have q1 := (show Z21.size ≤ 718 from sZ21); have q2 := (show (⟨#[70]⟩ : ByteArray).size ≤ 1 from Nat.le_refl _); rw [hZ22]; exact sadd _ _ (by omega)
          have HZ22 := hideP hZ22
          clear hZ22
          obtain ⟨Z23, hZ23⟩ : ∃ Z, Z = Z22 ++ (fS t.fix) := ⟨_, rfl⟩
          have sZ23 : Z23.size ≤ 741 := by have q1 := (show Z22.size ≤ 719 from sZ22); have q2 := (show (fS t.fix).size ≤ 22 from (tnn.pe.1).f); rw [hZ23, app_size]; omega
          have aZ23 : ∀ w, (Op.stringOp .add Z22 (fS t.fix)).run Tryd.prog w = .ok (.string Z23) w := by have q1 := (show Z22.size ≤ 719 from sZ22); have q2 := (show (fS t.fix).size ≤ 22 from (tnn.pe.1).f); rw [hZ23]; exact sadd _ _ (by omega)
          have HZ23 := hideP hZ23
          clear hZ23
          obtain ⟨Z24, hZ24⟩ : ∃ Z, Z = Z23 ++ (fS t.min) := ⟨_, rfl⟩
          have sZ24 : Z24.size ≤ 763 := by have q1 := (show Z23.size ≤ 741 from sZ23); have q2 := (show (fS t.min).size ≤ 22 from (tnn.pe.2.1).f); rw [hZ24, app_size]; omega
          have aZ24 : ∀ w, (Op.stringOp .add Z23 (fS t.min)).run Tryd.prog w = .ok (.string Z24) w := by have q1 := (show Z23.size ≤ 741 from sZ23); have q2 := (show (fS t.min).size ≤ 22 from (tnn.pe.2.1).f); rw [hZ24]; exact sadd _ _ (by omega)
          have HZ24 := hideP hZ24
          clear hZ24
          obtain ⟨Z25, hZ25⟩ : ∃ Z, Z = Z24 ++ (fS t.tax) := ⟨_, rfl⟩
          have sZ25 : Z25.size ≤ 785 := by have q1 := (show Z24.size ≤ 763 from sZ24); have q2 := (show (fS t.tax).size ≤ 22 from (tnn.pe.2.2).f); rw [hZ25, app_size]; omega
          have aZ25 : ∀ w, (Op.stringOp .add Z24 (fS t.tax)).run Tryd.prog w = .ok (.string Z25) w := by have q1 := (show Z24.size ≤ 763 from sZ24); have q2 := (show (fS t.tax).size ≤ 22 from (tnn.pe.2.2).f); rw [hZ25]; exact sadd _ _ (by omega)
          have HZ25 := hideP hZ25
          clear hZ25
          obtain ⟨Z26, hZ26⟩ : ∃ Z, Z = Z25 ++ (⟨#[10]⟩ : ByteArray) := ⟨_, rfl⟩
          have sZ26 : Z26.size ≤ 786 := by have q1 := (show Z25.size ≤ 785 from sZ25); have q2 := (show (⟨#[10]⟩ : ByteArray).size ≤ 1 from Nat.le_refl _); rw [hZ26, app_size]; omega
          have aZ26 : ∀ w, (Op.stringOp .add Z25 (⟨#[10]⟩ : ByteArray)).run Tryd.prog w = .ok (.string Z26) w := by have q1 := (show Z25.size ≤ 785 from sZ25); have q2 := (show (⟨#[10]⟩ : ByteArray).size ≤ 1 from Nat.le_refl _); rw [hZ26]; exact sadd _ _ (by omega)
          have HZ26 := hideP hZ26
          clear hZ26
          refine wp_region_held_drew (S := (fun w' => w'.heap[w.heap.size]? = some (.cells #[.int .i64 t.z.off, .int .i64 t.z.f.m, .int .i64 t.z.f.w, .int .i64 t.z.f.d, .int .i64 t.z.f.h, .int .i64 t.z.t.m, .int .i64 t.z.t.w, .int .i64 t.z.t.d, .int .i64 t.z.t.h, .int .i64 t.days, .int .i64 t.gap, .int .i64 t.first, .int .i64 t.last, .string t.h0, .string t.h1, .string t.h2, .string t.h3, .int .i64 t.b0.x, .int .i64 t.b0.y, .int .i64 t.b0.z, .int .i64 t.b1.x, .int .i64 t.b1.y, .int .i64 t.b1.z, .int .i64 t.b2.x, .int .i64 t.b2.y, .int .i64 t.b2.z, .int .i64 t.d.x, .int .i64 t.d.y, .int .i64 t.d.z, .int .i64 t.np, .int .i64 t.nn, .int .i64 t.fix, .int .i64 t.min, .int .i64 t.tax] 54 (0, 0)))) (by kernel_rfl) RN5 (fun hH0 => ?_)
          refine wpAnyH_take (i := 0) (oi := { dst := some 102, op := Go.Op.move (Go.Operand.tmp 3), type := 9, pos := "tariff.go:61", after := #[], guard := none }) (v := .string Z21) rfl (by kernel_rfl) (by kernel_rfl) (by kernel_rfl) (fun _ _ _ h => h) (Or.inl ⟨by rfl, ?_⟩) (by assumption) ?_
          · intro w9 hSw
            go_simp
          try simp only [Act.put, List.setIfInBounds_toArray, List.set_cons_zero, List.set_cons_succ]
          refine wpAnyH_take (i := 1) (oi := { dst := some 103, op := Go.Op.binOp Go.BinOp.add 9 (Go.Operand.tmp 102) (Go.Operand.const (Go.Value.string { data := #[70] })) 9, type := 9, pos := "tariff.go:61", after := #[{ on := 0, ground := Go.Ground.data }], guard := none }) (v := .string Z22) rfl (by kernel_rfl) (by kernel_rfl) (by kernel_rfl) (fun _ _ _ h => h) (Or.inl ⟨by rfl, ?_⟩) (by assumption) ?_
          · intro w9 hSw
            go_simp
          try simp only [Act.put, List.setIfInBounds_toArray, List.set_cons_zero, List.set_cons_succ]
          refine wpAnyH_take (i := 2) (oi := { dst := some 104, op := Go.Op.fieldAddr 54 (Go.Operand.tmp 1) 9, type := 0, pos := "tariff.go:61", after := #[], guard := none }) (v := .pointer (some ⟨w.heap.size, 31, none⟩)) rfl (by kernel_rfl) (by kernel_rfl) (by kernel_rfl) (fun _ _ _ h => h) (Or.inl ⟨by rfl, ?_⟩) (by assumption) ?_
          · intro w9 hSw
            go_simp
          try simp only [Act.put, List.setIfInBounds_toArray, List.set_cons_zero, List.set_cons_succ]
          refine wpAnyH_take (i := 3) (oi := { dst := some 105, op := Go.Op.load 3 (Go.Operand.tmp 104), type := 3, pos := "tariff.go:61", after := #[{ on := 2, ground := Go.Ground.data }], guard := none }) (v := .int .i64 t.fix) rfl (by kernel_rfl) (by kernel_rfl) (by kernel_rfl) (fun _ _ _ h => h) (Or.inl ⟨by rfl, ?_⟩) (by assumption) ?_
          · intro w9 hSw
            have q31 : w9.cell? ⟨w.heap.size, 31, none⟩ = some (.int .i64 t.fix) := cell_of_row _ _ _ _ _ _ hSw; go_simp
          try simp only [Act.put, List.setIfInBounds_toArray, List.set_cons_zero, List.set_cons_succ]
          refine wpAnyH_take (i := 6) (oi := { dst := some 108, op := Go.Op.fieldAddr 54 (Go.Operand.tmp 1) 10, type := 0, pos := "tariff.go:61", after := #[], guard := none }) (v := .pointer (some ⟨w.heap.size, 32, none⟩)) rfl (by kernel_rfl) (by kernel_rfl) (by kernel_rfl) (fun _ _ _ h => h) (Or.inl ⟨by rfl, ?_⟩) (by assumption) ?_
          · intro w9 hSw
            go_simp
          try simp only [Act.put, List.setIfInBounds_toArray, List.set_cons_zero, List.set_cons_succ]
          refine wpAnyH_take (i := 7) (oi := { dst := some 109, op := Go.Op.load 3 (Go.Operand.tmp 108), type := 3, pos := "tariff.go:61", after := #[{ on := 6, ground := Go.Ground.data }], guard := none }) (v := .int .i64 t.min) rfl (by kernel_rfl) (by kernel_rfl) (by kernel_rfl) (fun _ _ _ h => h) (Or.inl ⟨by rfl, ?_⟩) (by assumption) ?_
          · intro w9 hSw
            have q32 : w9.cell? ⟨w.heap.size, 32, none⟩ = some (.int .i64 t.min) := cell_of_row _ _ _ _ _ _ hSw; go_simp
          try simp only [Act.put, List.setIfInBounds_toArray, List.set_cons_zero, List.set_cons_succ]
          refine wpAnyH_take (i := 10) (oi := { dst := some 112, op := Go.Op.fieldAddr 54 (Go.Operand.tmp 1) 11, type := 0, pos := "tariff.go:61", after := #[], guard := none }) (v := .pointer (some ⟨w.heap.size, 33, none⟩)) rfl (by kernel_rfl) (by kernel_rfl) (by kernel_rfl) (fun _ _ _ h => h) (Or.inl ⟨by rfl, ?_⟩) (by assumption) ?_
          · intro w9 hSw
            go_simp
          try simp only [Act.put, List.setIfInBounds_toArray, List.set_cons_zero, List.set_cons_succ]
          refine wpAnyH_take (i := 11) (oi := { dst := some 113, op := Go.Op.load 3 (Go.Operand.tmp 112), type := 3, pos := "tariff.go:61", after := #[{ on := 10, ground := Go.Ground.data }], guard := none }) (v := .int .i64 t.tax) rfl (by kernel_rfl) (by kernel_rfl) (by kernel_rfl) (fun _ _ _ h => h) (Or.inl ⟨by rfl, ?_⟩) (by assumption) ?_
          · intro w9 hSw
            have q33 : w9.cell? ⟨w.heap.size, 33, none⟩ = some (.int .i64 t.tax) := cell_of_row _ _ _ _ _ _ hSw; go_simp
          try simp only [Act.put, List.setIfInBounds_toArray, List.set_cons_zero, List.set_cons_succ]
          refine wpAnyH_ready (rs := [4]) (by kernel_rfl) (by simp) ?_
          refine AllReadyH.cons (o := { dst := some 106, op := Go.Op.call { callee := Go.Callee.value (Go.Operand.func 27), args := #[Go.Operand.tmp 105], argTypes := #[3] }, type := 9, pos := "tariff.go:61", after := #[{ on := 3, ground := Go.Ground.data }], guard := none }) rfl (fun K hK => ?_) AllReadyH.nil
          go_simp
          refine ((tnn.pe.1).ft _ TD6).mono ?_
          rintro e wk6x1 ⟨rfl, hwk6x1⟩
          have Bwk6x1 := below_then BD6 hwk6x1
          have Twk6x1 := TD6.below hwk6x1
          go_wp2_with fail
          refine hK.out _ _ ((Bwk6x1.block _ zN5).trans RN5) (fun hHwk6x1 => ?_)
          clear hK K
          try simp only [Act.put, List.setIfInBounds_toArray, List.set_cons_zero, List.set_cons_succ]
          refine wpAnyH_take (i := 5) (oi := { dst := some 107, op := Go.Op.binOp Go.BinOp.add 9 (Go.Operand.tmp 103) (Go.Operand.tmp 106) 9, type := 9, pos := "tariff.go:61", after := #[{ on := 1, ground := Go.Ground.data }, { on := 4, ground := Go.Ground.data }], guard := none }) (v := .string Z23) rfl (by kernel_rfl) (by kernel_rfl) (by kernel_rfl) (fun _ _ _ h => h) (Or.inl ⟨by rfl, ?_⟩) (by assumption) ?_
          · intro w9 hSw
            go_simp
          try simp only [Act.put, List.setIfInBounds_toArray, List.set_cons_zero, List.set_cons_succ]
          refine wpAnyH_ready (rs := [8]) (by kernel_rfl) (by simp) ?_
          refine AllReadyH.cons (o := { dst := some 110, op := Go.Op.call { callee := Go.Callee.value (Go.Operand.func 27), args := #[Go.Operand.tmp 109], argTypes := #[3] }, type := 9, pos := "tariff.go:61", after := #[{ on := 7, ground := Go.Ground.data }, { on := 4, ground := Go.Ground.chain }], guard := none }) rfl (fun K hK => ?_) AllReadyH.nil
          go_simp
          refine ((tnn.pe.2.1).ft _ Twk6x1).mono ?_
          rintro e wk6x2 ⟨rfl, hwk6x2⟩
          have Bwk6x2 := below_then Bwk6x1 hwk6x2
          have Twk6x2 := Twk6x1.below hwk6x2
          go_wp2_with fail
          refine hK.out _ _ ((Bwk6x2.block _ zN5).trans RN5) (fun hHwk6x2 => ?_)
          clear hK K
          try simp only [Act.put, List.setIfInBounds_toArray, List.set_cons_zero, List.set_cons_succ]
          refine wpAnyH_take (i := 9) (oi := { dst := some 111, op := Go.Op.binOp Go.BinOp.add 9 (Go.Operand.tmp 107) (Go.Operand.tmp 110) 9, type := 9, pos := "tariff.go:61", after := #[{ on := 5, ground := Go.Ground.data }, { on := 8, ground := Go.Ground.data }], guard := none }) (v := .string Z24) rfl (by kernel_rfl) (by kernel_rfl) (by kernel_rfl) (fun _ _ _ h => h) (Or.inl ⟨by rfl, ?_⟩) (by assumption) ?_
          · intro w9 hSw
            go_simp
          try simp only [Act.put, List.setIfInBounds_toArray, List.set_cons_zero, List.set_cons_succ]
          refine wpAnyH_ready (rs := [12]) (by kernel_rfl) (by simp) ?_
          refine AllReadyH.cons (o := { dst := some 114, op := Go.Op.call { callee := Go.Callee.value (Go.Operand.func 27), args := #[Go.Operand.tmp 113], argTypes := #[3] }, type := 9, pos := "tariff.go:61", after := #[{ on := 11, ground := Go.Ground.data }, { on := 8, ground := Go.Ground.chain }], guard := none }) rfl (fun K hK => ?_) AllReadyH.nil
          go_simp
          refine ((tnn.pe.2.2).ft _ Twk6x2).mono ?_
          rintro e wk6x3 ⟨rfl, hwk6x3⟩
          have Bwk6x3 := below_then Bwk6x2 hwk6x3
          have Twk6x3 := Twk6x2.below hwk6x3
          go_wp2_with fail
          refine hK.out _ _ ((Bwk6x3.block _ zN5).trans RN5) (fun hHwk6x3 => ?_)
          clear hK K
          try simp only [Act.put, List.setIfInBounds_toArray, List.set_cons_zero, List.set_cons_succ]
          refine wpAnyH_take (i := 13) (oi := { dst := some 115, op := Go.Op.binOp Go.BinOp.add 9 (Go.Operand.tmp 111) (Go.Operand.tmp 114) 9, type := 9, pos := "tariff.go:61", after := #[{ on := 9, ground := Go.Ground.data }, { on := 12, ground := Go.Ground.data }], guard := none }) (v := .string Z25) rfl (by kernel_rfl) (by kernel_rfl) (by kernel_rfl) (fun _ _ _ h => h) (Or.inl ⟨by rfl, ?_⟩) (by assumption) ?_
          · intro w9 hSw
            go_simp
          try simp only [Act.put, List.setIfInBounds_toArray, List.set_cons_zero, List.set_cons_succ]
          refine wpAnyH_take (i := 14) (oi := { dst := some 116, op := Go.Op.binOp Go.BinOp.add 9 (Go.Operand.tmp 115) (Go.Operand.const (Go.Value.string { data := #[10] })) 9, type := 9, pos := "tariff.go:61", after := #[{ on := 13, ground := Go.Ground.data }], guard := none }) (v := .string Z26) rfl (by kernel_rfl) (by kernel_rfl) (by kernel_rfl) (fun _ _ _ h => h) (Or.inl ⟨by rfl, ?_⟩) (by assumption) ?_
          · intro w9 hSw
            go_simp
          try simp only [Act.put, List.setIfInBounds_toArray, List.set_cons_zero, List.set_cons_succ]
          refine wpAnyH_take (i := 15) (oi := { dst := some 2, op := Go.Op.assign (Go.Operand.tmp 116), type := 9, pos := "tariff.go:61", after := #[{ on := 14, ground := Go.Ground.data }, { on := 12, ground := Go.Ground.chain }, { on := 0, ground := Go.Ground.phase }, { on := 1, ground := Go.Ground.phase }, { on := 2, ground := Go.Ground.phase }, { on := 3, ground := Go.Ground.phase }, { on := 4, ground := Go.Ground.phase }, { on := 5, ground := Go.Ground.phase }, { on := 6, ground := Go.Ground.phase }, { on := 7, ground := Go.Ground.phase }, { on := 8, ground := Go.Ground.phase }, { on := 9, ground := Go.Ground.phase }, { on := 10, ground := Go.Ground.phase }, { on := 11, ground := Go.Ground.phase }, { on := 12, ground := Go.Ground.phase }, { on := 13, ground := Go.Ground.phase }, { on := 14, ground := Go.Ground.phase }], guard := none }) (v := .string Z26) rfl (by kernel_rfl) (by kernel_rfl) (by kernel_rfl) (fun _ _ _ h => h) (Or.inl ⟨by rfl, ?_⟩) (by assumption) ?_
          · intro w9 hSw
            go_simp
          try simp only [Act.put, List.setIfInBounds_toArray, List.set_cons_zero, List.set_cons_succ]
          refine wpAnyH_done (by kernel_rfl) ?_ _
          have RN6 := (Bwk6x3.block _ zN5).trans RN5
          have BN6 := below_then BN5 Bwk6x3
          have TN6 := ht.below BN6
          have zN6 : w.heap.size < wk6x3.heap.size := (Array.getElem?_eq_some_iff.1 RN6).1
          go_wp2_with fail
          go_ret
          exact ⟨ret_str (by unfold tPT lM lN; rw [HZ26.out, HZ25.out, HZ24.out, HZ23.out, HZ22.out, HZ21.out, HZ20.out, HZ19.out, HZ18.out, HZ17.out, HZ16.out, HZ15.out, HZ14.out, HZ13.out, HX5.out, HX4.out, HXX.out]), BN6⟩
theorem PrintTariff_any (t : Trf) (w : World) (ht : TB w) (s0 : t.h0.size ≤ maxLen) (s1 : t.h1.size ≤ maxLen) (s2 : t.h2.size ≤ maxLen) (s3 : t.h3.size ≤ maxLen) :
    Calls Tryd.prog 13 #[.agg #[.int .i64 t.z.off, .int .i64 t.z.f.m, .int .i64 t.z.f.w, .int .i64 t.z.f.d, .int .i64 t.z.f.h, .int .i64 t.z.t.m, .int .i64 t.z.t.w, .int .i64 t.z.t.d, .int .i64 t.z.t.h, .int .i64 t.days, .int .i64 t.gap, .int .i64 t.first, .int .i64 t.last, .string t.h0, .string t.h1, .string t.h2, .string t.h3, .int .i64 t.b0.x, .int .i64 t.b0.y, .int .i64 t.b0.z, .int .i64 t.b1.x, .int .i64 t.b1.y, .int .i64 t.b1.z, .int .i64 t.b2.x, .int .i64 t.b2.y, .int .i64 t.b2.z, .int .i64 t.d.x, .int .i64 t.d.y, .int .i64 t.d.z, .int .i64 t.np, .int .i64 t.nn, .int .i64 t.fix, .int .i64 t.min, .int .i64 t.tax]] w fun e w' => e = .returned (.string (if badN t < 13 then ByteArray.empty else tPT t)) ∧ Below w.heap.size w w' := by
  by_cases hn : badN t < 13
  · rw [if_pos hn]; exact PrintTariff_no t w s0 s1 s2 s3 hn
  · rw [if_neg hn]; exact PrintTariff_yes t w ht s0 s1 s2 s3 (by have := badN_le t; omega)
end Go.Proofs.YtjaffmmocbplaabDoor
