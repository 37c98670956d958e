/-
  Adds: the law's walk.
-/
import Derived.Test.YtjaffmmocbplaabLinR
import Derived.BigQuiet
namespace Go.Proofs.Ytjaffmmocbplaab.adds
open Go.RowKit Bil
set_option linter.unusedVariables false
attribute [local go_sem ↓] Go.wp_at_zero Go.wp_at_succ

theorem most_any (a b : Int) (w : World) : Calls Try.prog 18 #[.int .i64 a, .int .i64 b] w fun e w' => e = .returned (.int .i64 (mx a b)) ∧ w' = w := by
  by_cases h : b < a
  all_goals
    go_enter Try.func18, Try.ntmps18
    go_wp2
    go_ret
    exact ⟨ret_int (by unfold mx; split <;> omega), rfl⟩

/-- what Adds asks of a line -/
structure AdB (t : Trf) (ps : List Per) (k : Nat) : Prop where
  su : (lnAt t ps k).su = mx (t.fix + (lnAt t ps k).en - (lnAt t ps k).ap + (lnAt t ps k).pw) t.min
  en : 0 ≤ (lnAt t ps k).en ∧ (lnAt t ps k).en ≤ 60000300000006
  ap : 0 ≤ (lnAt t ps k).ap ∧ (lnAt t ps k).ap ≤ (lnAt t ps k).en
  pw : 0 ≤ (lnAt t ps k).pw ∧ (lnAt t ps k).pw ≤ 4000000000001
  sb : 0 ≤ (lnAt t ps k).su ∧ (lnAt t ps k).su ≤ 64000302000007
  sm : 0 ≤ (lnAt t ps k).su * t.tax ∧ (lnAt t ps k).su * t.tax ≤ 64000302000007000
  tx : (lnAt t ps k).tx = ((lnAt t ps k).su * t.tax + 500) / 1000
  to : (lnAt t ps k).to = (lnAt t ps k).su + (lnAt t ps k).tx
  bb : 0 ≤ (lnAt t ps k).bl ∧ (lnAt t ps k).bl ≤ 4000000000
  bm : 0 ≤ (lnAt t ps k).bl * t.d.x ∧ (lnAt t ps k).bl * t.d.x ≤ 4000000000000000
  pr : (lnAt t ps k).pw = ((lnAt t ps k).bl * t.d.x + 500) / 1000
  pk : (lnAt t ps k).pk ≤ (lnAt t ps k).bl
  own : (lnAt t ps k).pk = tpR ps k 0
theorem adB {t : Trf} {ps : List Per} (ht : OkT t) (h : ∀ k, okP (pAt ps k) 200) (k : Nat) : AdB t ps k := by
  have b := lnB ht h k
  have c := lnC ht h (cr_ok ht h k) k
  exact ⟨rfl, b.en, c.ap, b.pw, c.su, c.sm, rfl, rfl, b.bl, b.bm, rfl, (mx_ge _ _).1, rfl⟩
theorem tp_step (ps : List Per) {k J : Nat} (h : J < k) : tpR ps k (k - J) = mx (tpR ps k (k - (J + 1))) (pAt ps J).pk := by
  rw [show k - J = (k - (J + 1)) + 1 by omega]
  show mx (tpR ps k (k - (J + 1))) (pAt ps (k - 1 - (k - (J + 1)))).pk = _
  rw [show k - 1 - (k - (J + 1)) = J by omega]

set_option maxRecDepth 1000000 in
set_option maxHeartbeats 1500000 in
theorem walk_no (t : Trf) (step start : Int) (v : Value) (l : List Txt.Val) (w : World) (h : VRow w v l) (s0 : t.h0.size ≤ maxLen) (s1 : t.h1.size ≤ maxLen) (s2 : t.h2.size ≤ maxLen) (s3 : t.h3.size ≤ maxLen) (hne : ¬ spE t step start l = 0) :
    Calls Try.prog 8 #[.agg #[.int .i64 step, .int .i64 start, v], .agg #[.int .i64 t.z.off, .int .i64 t.z.f.m, .int .i64 t.z.f.w, .int .i64 t.z.f.d, .int .i64 t.z.f.h, .int .i64 t.z.t.m, .int .i64 t.z.t.w, .int .i64 t.z.t.d, .int .i64 t.z.t.h, .int .i64 t.days, .int .i64 t.gap, .int .i64 t.first, .int .i64 t.last, .string t.h0, .string t.h1, .string t.h2, .string t.h3, .int .i64 t.b0.x, .int .i64 t.b0.y, .int .i64 t.b0.z, .int .i64 t.b1.x, .int .i64 t.b1.y, .int .i64 t.b1.z, .int .i64 t.b2.x, .int .i64 t.b2.y, .int .i64 t.b2.z, .int .i64 t.d.x, .int .i64 t.d.y, .int .i64 t.d.z, .int .i64 t.np, .int .i64 t.nn, .int .i64 t.fix, .int .i64 t.min, .int .i64 t.tax]] w fun e w' => e = .returned (.bool true) ∧ Below w.heap.size w w' := by
  have bn := fun w1 (hb : Below w.heap.size w w1) => Bill_no t step start v l w1 (h.below hb) s0 s1 s2 s3 hne
  obtain ⟨a, cap, rfl⟩ := h.form
  obtain ⟨E, hE⟩ : ∃ E, E = spE t step start l := ⟨_, rfl⟩
  obtain ⟨A, hA⟩ : ∃ A, A = spA t step start l := ⟨_, rfl⟩
  rw [← hE, ← hA] at bn
  rw [← hE] at hne
  have hEB : (E != 0) = true := by simpa using hne
  have B0 : Below w.heap.size w ((w.alloc (.cells #[.int .i64 step, .int .i64 start, .slice a l.length cap] 24)).alloc (.cells #[.int .i64 t.z.off, .int .i64 t.z.f.m, .int .i64 t.z.f.w, .int .i64 t.z.f.d, .int .i64 t.z.f.h, .int .i64 t.z.t.m, .int .i64 t.z.t.w, .int .i64 t.z.t.d, .int .i64 t.z.t.h, .int .i64 t.days, .int .i64 t.gap, .int .i64 t.first, .int .i64 t.last, .string t.h0, .string t.h1, .string t.h2, .string t.h3, .int .i64 t.b0.x, .int .i64 t.b0.y, .int .i64 t.b0.z, .int .i64 t.b1.x, .int .i64 t.b1.y, .int .i64 t.b1.z, .int .i64 t.b2.x, .int .i64 t.b2.y, .int .i64 t.b2.z, .int .i64 t.d.x, .int .i64 t.d.y, .int .i64 t.d.z, .int .i64 t.np, .int .i64 t.nn, .int .i64 t.fix, .int .i64 t.min, .int .i64 t.tax] 38)) := below_more (below_more (Below.refl _ _) _) _
  have MT : ((w.alloc (.cells #[.int .i64 step, .int .i64 start, .slice a l.length cap] 24)).alloc (.cells #[.int .i64 t.z.off, .int .i64 t.z.f.m, .int .i64 t.z.f.w, .int .i64 t.z.f.d, .int .i64 t.z.f.h, .int .i64 t.z.t.m, .int .i64 t.z.t.w, .int .i64 t.z.t.d, .int .i64 t.z.t.h, .int .i64 t.days, .int .i64 t.gap, .int .i64 t.first, .int .i64 t.last, .string t.h0, .string t.h1, .string t.h2, .string t.h3, .int .i64 t.b0.x, .int .i64 t.b0.y, .int .i64 t.b0.z, .int .i64 t.b1.x, .int .i64 t.b1.y, .int .i64 t.b1.z, .int .i64 t.b2.x, .int .i64 t.b2.y, .int .i64 t.b2.z, .int .i64 t.d.x, .int .i64 t.d.y, .int .i64 t.d.z, .int .i64 t.np, .int .i64 t.nn, .int .i64 t.fix, .int .i64 t.min, .int .i64 t.tax] 38)).heap[w.heap.size + 1]? = some (.cells #[.int .i64 t.z.off, .int .i64 t.z.f.m, .int .i64 t.z.f.w, .int .i64 t.z.f.d, .int .i64 t.z.f.h, .int .i64 t.z.t.m, .int .i64 t.z.t.w, .int .i64 t.z.t.d, .int .i64 t.z.t.h, .int .i64 t.days, .int .i64 t.gap, .int .i64 t.first, .int .i64 t.last, .string t.h0, .string t.h1, .string t.h2, .string t.h3, .int .i64 t.b0.x, .int .i64 t.b0.y, .int .i64 t.b0.z, .int .i64 t.b1.x, .int .i64 t.b1.y, .int .i64 t.b1.z, .int .i64 t.b2.x, .int .i64 t.b2.y, .int .i64 t.b2.z, .int .i64 t.d.x, .int .i64 t.d.y, .int .i64 t.d.z, .int .i64 t.np, .int .i64 t.nn, .int .i64 t.fix, .int .i64 t.min, .int .i64 t.tax] 38) := heap_alloc2_new _ _ _
  clear hE hA hne h
  go_enter Try.func8, Try.ntmps8
  go_wp2_with (first
    | (refine wpList_load_row rfl 38 _ rfl (w.heap.size + 1) rfl 38 _ (0, 0) _ MT Try.underlying38 rfl (by kernel_rfl) ?_)
    | (go_at_call 19; refine (bn _ B0).mono ?_; rintro e w1 ⟨rfl, hb1⟩)
    | (go_at_call 16; refine (num_any _ _).mono ?_; rintro e w7 ⟨rfl, h7⟩; have h8 := h7.symm; subst h8))
  go_ret
  exact ⟨rfl, below_then B0 hb1⟩

set_option maxRecDepth 1000000 in
set_option maxHeartbeats 2500000 in
theorem walk_yes (t : Trf) (step start : Int) (v : Value) (l : List Txt.Val) (w : World) (h : VRow w v l) (s0 : t.h0.size ≤ maxLen) (s1 : t.h1.size ≤ maxLen) (s2 : t.h2.size ≤ maxLen) (s3 : t.h3.size ≤ maxLen) (hz : spE t step start l = 0) :
    Calls Try.prog 8 #[.agg #[.int .i64 step, .int .i64 start, v], .agg #[.int .i64 t.z.off, .int .i64 t.z.f.m, .int .i64 t.z.f.w, .int .i64 t.z.f.d, .int .i64 t.z.f.h, .int .i64 t.z.t.m, .int .i64 t.z.t.w, .int .i64 t.z.t.d, .int .i64 t.z.t.h, .int .i64 t.days, .int .i64 t.gap, .int .i64 t.first, .int .i64 t.last, .string t.h0, .string t.h1, .string t.h2, .string t.h3, .int .i64 t.b0.x, .int .i64 t.b0.y, .int .i64 t.b0.z, .int .i64 t.b1.x, .int .i64 t.b1.y, .int .i64 t.b1.z, .int .i64 t.b2.x, .int .i64 t.b2.y, .int .i64 t.b2.z, .int .i64 t.d.x, .int .i64 t.d.y, .int .i64 t.d.z, .int .i64 t.np, .int .i64 t.nn, .int .i64 t.fix, .int .i64 t.min, .int .i64 t.tax]] w fun e w' => e = .returned (.bool true) ∧ Below w.heap.size w w' := by
  have bn := fun w1 (hb : Below w.heap.size w w1) => Bill_yes t step start v l w1 (h.below hb) s0 s1 s2 s3 hz
  have ok := bok hz
  obtain ⟨a, cap, rfl⟩ := h.form
  obtain ⟨ps, hps⟩ : ∃ ps, ps = spL t step start l := ⟨_, rfl⟩
  rw [← hps] at bn ok
  obtain ⟨pn1, pn2⟩ := ok.n
  have AD := hideF (fun k => adB ok.t ok.p k)
  have HOK := hideF ok
  have tb1 := ok.t.d
  have tb3 := ok.t.f
  have B0 : Below w.heap.size w ((w.alloc (.cells #[.int .i64 step, .int .i64 start, .slice a l.length cap] 24)).alloc (.cells #[.int .i64 t.z.off, .int .i64 t.z.f.m, .int .i64 t.z.f.w, .int .i64 t.z.f.d, .int .i64 t.z.f.h, .int .i64 t.z.t.m, .int .i64 t.z.t.w, .int .i64 t.z.t.d, .int .i64 t.z.t.h, .int .i64 t.days, .int .i64 t.gap, .int .i64 t.first, .int .i64 t.last, .string t.h0, .string t.h1, .string t.h2, .string t.h3, .int .i64 t.b0.x, .int .i64 t.b0.y, .int .i64 t.b0.z, .int .i64 t.b1.x, .int .i64 t.b1.y, .int .i64 t.b1.z, .int .i64 t.b2.x, .int .i64 t.b2.y, .int .i64 t.b2.z, .int .i64 t.d.x, .int .i64 t.d.y, .int .i64 t.d.z, .int .i64 t.np, .int .i64 t.nn, .int .i64 t.fix, .int .i64 t.min, .int .i64 t.tax] 38)) := below_more (below_more (Below.refl _ _) _) _
  have MT : ((w.alloc (.cells #[.int .i64 step, .int .i64 start, .slice a l.length cap] 24)).alloc (.cells #[.int .i64 t.z.off, .int .i64 t.z.f.m, .int .i64 t.z.f.w, .int .i64 t.z.f.d, .int .i64 t.z.f.h, .int .i64 t.z.t.m, .int .i64 t.z.t.w, .int .i64 t.z.t.d, .int .i64 t.z.t.h, .int .i64 t.days, .int .i64 t.gap, .int .i64 t.first, .int .i64 t.last, .string t.h0, .string t.h1, .string t.h2, .string t.h3, .int .i64 t.b0.x, .int .i64 t.b0.y, .int .i64 t.b0.z, .int .i64 t.b1.x, .int .i64 t.b1.y, .int .i64 t.b1.z, .int .i64 t.b2.x, .int .i64 t.b2.y, .int .i64 t.b2.z, .int .i64 t.d.x, .int .i64 t.d.y, .int .i64 t.d.z, .int .i64 t.np, .int .i64 t.nn, .int .i64 t.fix, .int .i64 t.min, .int .i64 t.tax] 38)).heap[w.heap.size + 1]? = some (.cells #[.int .i64 t.z.off, .int .i64 t.z.f.m, .int .i64 t.z.f.w, .int .i64 t.z.f.d, .int .i64 t.z.f.h, .int .i64 t.z.t.m, .int .i64 t.z.t.w, .int .i64 t.z.t.d, .int .i64 t.z.t.h, .int .i64 t.days, .int .i64 t.gap, .int .i64 t.first, .int .i64 t.last, .string t.h0, .string t.h1, .string t.h2, .string t.h3, .int .i64 t.b0.x, .int .i64 t.b0.y, .int .i64 t.b0.z, .int .i64 t.b1.x, .int .i64 t.b1.y, .int .i64 t.b1.z, .int .i64 t.b2.x, .int .i64 t.b2.y, .int .i64 t.b2.z, .int .i64 t.d.x, .int .i64 t.d.y, .int .i64 t.d.z, .int .i64 t.np, .int .i64 t.nn, .int .i64 t.fix, .int .i64 t.min, .int .i64 t.tax] 38) := heap_alloc2_new _ _ _
  clear hps hz h ok
  go_enter Try.func8, Try.ntmps8
  go_wp2_with (first
    | (refine wpList_load_row rfl 38 _ rfl (w.heap.size + 1) rfl 38 _ (0, 0) _ MT Try.underlying38 rfl (by kernel_rfl) ?_)
    | (go_at_call 19; refine (bn _ B0).mono ?_; rintro e w1 ⟨v1, rfl, own1, hb1⟩; obtain ⟨a1, cap1, rfl⟩ := own_slice own1)
    | (go_at_call 16; refine (num_any _ _).mono ?_; rintro e w7 ⟨rfl, h7⟩; have h8 := h7.symm; subst h8))
  have BW := below_then B0 hb1
  have UL := hideF (LRow.of_own own1 (lnR_len t ps _))
  have hs1 : w.heap.size + 1 < w1.heap.size := by have := hb1.size; simp at this; omega
  have mt1 : TR w1 (w.heap.size + 1) t := (hb1.block (w.heap.size + 1) (by simp)).trans MT
  clear own1 hb1 bn MT B0
  go_loopw [8] (fun p wr => ∃ k : Nat, p = .int .i64 k ∧ k ≤ ps.length ∧ Below w1.heap.size w1 wr) (fun p _ => ps.length - (intOf p).toNat)
  case atStart => exact ⟨0, rfl, by omega, Below.refl _ _⟩
  case round =>
    obtain ⟨k, rfl, hk, hbw⟩ := hrel
    by_cases hlt : k < ps.length
    · have hlt' : (k : Int) < (ps.length : Int) := by omega
      have hk0 : (0 : Int) ≤ (k : Int) := by omega
      obtain ⟨b, rfl, hcap, hblt, cc⟩ := (UL.out.below hbw).at (lnR_get t ps ps.length k hlt)
      have hcap' : (ps.length : Int) ≤ (cap1 : Int) := by omega
      have tr : TR wr (w.heap.size + 1) t := (hbw.block (w.heap.size + 1) (by omega)).trans mt1
      have t31 := tr.c31
      have t32 := tr.c32
      have t33 := tr.c33
      have hwr : w.heap.size + 1 < wr.heap.size := by have := hbw.size; omega
      have hwn : ¬ w.heap.size + 1 = wr.heap.size := by omega
      have hbn : ¬ b = wr.heap.size := by omega
      obtain ⟨su, en, ap, pw, sb, sm, tx, to, bb, bm, pr, pk, pown⟩ := AD.out k
      have HBG : Hid (∀ J : Nat, (k : Int) - J ≤ t.d.z → J < k → (pAt ps J).pk * t.d.y / 100 ≤ (lnAt t ps k).bl) := fun J h1 h2 => bl_ge HOK.out.t h1 h2
      have HBL : Hid ((lnAt t ps k).bl ≤ tpR ps k (k - from0 k t.d.z)) := bl_le HOK.out.t HOK.out.p (Nat.le_refl _)
      obtain ⟨x, hx⟩ : ∃ x, x = lnAt t ps k := ⟨_, rfl⟩
      rw [← hx] at cc su en ap pw sb sm tx to bb bm pr pk pown HBG HBL
      have c0 : wr.cell? ⟨b, k * 15, none⟩ = some (.int .i64 x.i0) := cc 0 _ rfl
      have c1 : wr.cell? ⟨b, k * 15 + 1, none⟩ = some (.int .i64 x.i1) := cc 1 _ rfl
      have c2 : wr.cell? ⟨b, k * 15 + 2, none⟩ = some (.int .i64 x.i2) := cc 2 _ rfl
      have c3 : wr.cell? ⟨b, k * 15 + 3, none⟩ = some (.int .i64 x.o) := cc 3 _ rfl
      have c4 : wr.cell? ⟨b, k * 15 + 4, none⟩ = some (.int .i64 x.pk) := cc 4 _ rfl
      have c5 : wr.cell? ⟨b, k * 15 + 5, none⟩ = some (.int .i64 x.bl) := cc 5 _ rfl
      have c6 : wr.cell? ⟨b, k * 15 + 6, none⟩ = some (.int .i64 x.en) := cc 6 _ rfl
      have c7 : wr.cell? ⟨b, k * 15 + 7, none⟩ = some (.int .i64 x.pw) := cc 7 _ rfl
      have c8 : wr.cell? ⟨b, k * 15 + 8, none⟩ = some (.int .i64 x.ap) := cc 8 _ rfl
      have c9 : wr.cell? ⟨b, k * 15 + 9, none⟩ = some (.int .i64 x.ex) := cc 9 _ rfl
      have c10 : wr.cell? ⟨b, k * 15 + 10, none⟩ = some (.int .i64 x.pd) := cc 10 _ rfl
      have c11 : wr.cell? ⟨b, k * 15 + 11, none⟩ = some (.int .i64 x.bk) := cc 11 _ rfl
      have c12 : wr.cell? ⟨b, k * 15 + 12, none⟩ = some (.int .i64 x.su) := cc 12 _ rfl
      have c13 : wr.cell? ⟨b, k * 15 + 13, none⟩ = some (.int .i64 x.tx) := cc 13 _ rfl
      have c14 : wr.cell? ⟨b, k * 15 + 14, none⟩ = some (.int .i64 x.to) := cc 14 _ rfl
      have mo : ∀ W, Calls Try.prog 18 #[.int .i64 (t.fix + x.en - x.ap + x.pw), .int .i64 t.min] W fun e w' => e = .returned (.int .i64 x.su) ∧ w' = W := fun W => by rw [su]; exact most_any _ _ W
      have ht2 : (x.su * t.tax + 500).tdiv 1000 = x.tx := by rw [tx]; exact Int.tdiv_eq_ediv_of_nonneg (by omega)
      have htb : 0 ≤ x.tx ∧ x.tx ≤ 64000302000008 := by rw [tx]; omega
      have kw1 : IntKind.i64.wrap (x.su * t.tax) = x.su * t.tax := Go.IntWalk.i64_in _ (by omega)
      have kw2 : IntKind.i64.wrap (x.su * t.tax + 500) = x.su * t.tax + 500 := Go.IntWalk.i64_in _ (by omega)
      have kw3 : IntKind.i64.wrap x.tx = x.tx := Go.IntWalk.i64_in _ (by omega)
      have kw4 : IntKind.i64.wrap (x.su + x.tx) = x.su + x.tx := Go.IntWalk.i64_in _ (by omega)
      have eT : (x.to != x.su + x.tx) = false := by rw [to]; simp
      have HTX := hideF tx
      have HTO := hideF to
      have HSU := hideF su
      have HPR := hideF pr
      have HPO := hideF pown
      clear hx cc tr su tx to pr pown
      go_wp2_with fail
      go_quiet ((go_at_call 18; exact Calls.quiet_of_same (mo _)))
      go_wp2_with fail
      obtain ⟨WX, hWX⟩ : ∃ WX, WX = wr.alloc (.cells #[.int .i64 x.i0, .int .i64 x.i1, .int .i64 x.i2, .int .i64 x.o, .int .i64 x.pk, .int .i64 x.bl, .int .i64 x.en, .int .i64 x.pw, .int .i64 x.ap, .int .i64 x.ex, .int .i64 x.pd, .int .i64 x.bk, .int .i64 x.su, .int .i64 x.tx, .int .i64 x.to] 75) := ⟨_, rfl⟩
      have HWX := hideF hWX
      have LX : LR WX wr.heap.size x := by rw [hWX]; exact LR_new wr x
      have zX : WX.heap.size = wr.heap.size + 1 := by rw [hWX]; simp
      have BX : Below w1.heap.size w1 WX := by
        rw [hWX]
        exact below_more hbw _
      clear hWX c0 c1 c2 c3 c4 c5 c6 c7 c8 c9 c10 c11 c12 c13 c14 t31 t32 t33 kw1 kw2 kw3 kw4 ht2 eT mo
      go_loopw [11, 12] (fun tp j wi => ∃ J : Nat, j = .int .i64 ((J : Int) - 1) ∧ from0 k t.d.z ≤ J ∧ J ≤ k ∧ tp = .int .i64 (tpR ps k (k - J)) ∧ Below WX.heap.size WX wi) (fun _ j _ => (intOf j + 1).toNat)
      case atStart => exact ⟨k, rfl, by unfold from0; omega, Nat.le_refl _, by rw [HPO.out, Nat.sub_self], by rw [HWX.out]; first | exact below_drewN (Below.refl _ _) _ | exact Below.drew (Below.refl _ _) | exact Below.refl _ _⟩
      case round =>
        clear hbw
        obtain ⟨J, rfl, hJ0, hJ1, rfl, hbi⟩ := hrel
        have Bi := below_then BX hbi
        have hszi := hbi.size
        have Li := LX.of_block (hbi.block _ LX.lt)
        have d4 := Li.c4
        have d5 := Li.c5
        have d7 := Li.c7
        have ti : TR wr (w.heap.size + 1) t := (Bi.block (w.heap.size + 1) (by omega)).trans mt1
        have t26 := ti.c26
        have t27 := ti.c27
        have t28 := ti.c28
        have hnlt := Li.lt
        have hwi : w.heap.size + 1 < wr.heap.size := by have := Bi.size; omega
        clear Li ti
        by_cases hJ : from0 k t.d.z < J
        · obtain ⟨J', rfl⟩ : ∃ J', J = J' + 1 := ⟨J - 1, by omega⟩
          have eJ : ((J' + 1 : Nat) : Int) - 1 = (J' : Int) := by omega
          rw [eJ]
          have hf : (k : Int) - J' ≤ t.d.z := by unfold from0 at hJ; omega
          have hJ2 : from0 k t.d.z ≤ J' := by omega
          obtain ⟨b2, e2, hcap2, hblt2, cc⟩ := (UL.out.below Bi).at (lnR_get t ps ps.length J' (by omega))
          cases e2
          have e4 : wr.cell? ⟨b, J' * 15 + 4, none⟩ = some (.int .i64 (pAt ps J').pk) := cc 4 _ rfl
          have hpj := HOK.out.p J'
          simp only [okP] at hpj
          have hge := HBG.out J' hf (by omega)
          have HST := hideF (tp_step ps (show J' < k by omega))
          have TB := tpR_bd HOK.out.p k (k - (J' + 1))
          obtain ⟨PJ, hPJ⟩ : ∃ PJ, PJ = (pAt ps J').pk := ⟨_, rfl⟩
          rw [← hPJ] at e4 hge HST hpj
          obtain ⟨TP, hTP⟩ : ∃ TP, TP = tpR ps k (k - (J' + 1)) := ⟨_, rfl⟩
          rw [← hTP] at HST TB
          rw [← hTP]
          have mb := mul_bd hpj.2.2.2.2.1 hpj.2.2.2.2.2 tb1.2.2.1 tb1.2.2.2.1
          have ht : (PJ * t.d.y).tdiv 100 = PJ * t.d.y / 100 := Int.tdiv_eq_ediv_of_nonneg mb.1
          have hnb : ¬ x.bl < PJ * t.d.y / 100 := by omega
          have kw1 : IntKind.i64.wrap (PJ * t.d.y) = PJ * t.d.y := Go.IntWalk.i64_in _ (by omega)
          have kw2 : IntKind.i64.wrap (PJ * t.d.y / 100) = PJ * t.d.y / 100 := Go.IntWalk.i64_in _ (by omega)
          have mo2 := fun W => most_any TP PJ W
          have hj0 : (0 : Int) ≤ (J' : Int) := by omega
          have hj1 : (J' : Int) < (ps.length : Int) := by omega
          clear hPJ hTP cc eJ hge hJ hpj
          go_wp2_with (go_at_call 18; refine (mo2 _).mono ?_; rintro e w7 ⟨rfl, h7⟩; have h8 := h7.symm; subst h8)
          go_quiet (fail)
          go_wp2_with fail
          go_roundw
          case rel => exact ⟨J', rfl, hJ2, by omega, by rw [HST.out], by first | exact below_drewN hbi _ | exact Below.drew hbi⟩
          case measure => simp [intOf] <;> omega
        · have hJe : J = from0 k t.d.z := by omega
          have hbl : ¬ tpR ps k (k - J) < x.bl := by have := HBL.out; rw [hJe]; omega
          have hpk : ¬ x.bl < x.pk := by omega
          have ht3 : (x.bl * t.d.x + 500).tdiv 1000 = x.pw := by rw [HPR.out]; exact Int.tdiv_eq_ediv_of_nonneg (by omega)
          have hcase : (J = 0 ∧ ¬ (0 : Int) ≤ (J : Int) - 1) ∨ ((0 : Int) ≤ (J : Int) - 1 ∧ ¬ (k : Int) - ((J : Int) - 1) ≤ t.d.z) := by
            unfold from0 at hJe; omega
          obtain ⟨TP, hTP⟩ : ∃ TP, TP = tpR ps k (k - J) := ⟨_, rfl⟩
          rw [← hTP] at hbl
          rw [← hTP]
          have hJk : (J : Int) ≤ (k : Int) := by omega
          clear hJe hTP hJ
          rcases hcase with ⟨hz0, hz1⟩ | ⟨hz1, hz2⟩
          case' inl => clear hz0
          all_goals
            go_wp2_with fail
            go_roundw
            case rel => exact ⟨k + 1, by go_num, by omega, Bi⟩
            case measure => simp [intOf]; omega
    · have hlt' : ¬ (k : Int) < (ps.length : Int) := by omega
      have hpos : (0 : Int) < (ps.length : Int) := by omega
      go_wp2_with fail
      go_ret
      exact ⟨ret_bool (by simp; omega), below_then BW hbw⟩

theorem walk (t : Trf) (step start : Int) (v : Value) (l : List Txt.Val) (w : World) (h : VRow w v l) (s0 : t.h0.size ≤ maxLen) (s1 : t.h1.size ≤ maxLen) (s2 : t.h2.size ≤ maxLen) (s3 : t.h3.size ≤ maxLen) :
    Calls Try.prog 8 #[.agg #[.int .i64 step, .int .i64 start, v], .agg #[.int .i64 t.z.off, .int .i64 t.z.f.m, .int .i64 t.z.f.w, .int .i64 t.z.f.d, .int .i64 t.z.f.h, .int .i64 t.z.t.m, .int .i64 t.z.t.w, .int .i64 t.z.t.d, .int .i64 t.z.t.h, .int .i64 t.days, .int .i64 t.gap, .int .i64 t.first, .int .i64 t.last, .string t.h0, .string t.h1, .string t.h2, .string t.h3, .int .i64 t.b0.x, .int .i64 t.b0.y, .int .i64 t.b0.z, .int .i64 t.b1.x, .int .i64 t.b1.y, .int .i64 t.b1.z, .int .i64 t.b2.x, .int .i64 t.b2.y, .int .i64 t.b2.z, .int .i64 t.d.x, .int .i64 t.d.y, .int .i64 t.d.z, .int .i64 t.np, .int .i64 t.nn, .int .i64 t.fix, .int .i64 t.min, .int .i64 t.tax]] w fun e w' => e = .returned (.bool true) ∧ Below w.heap.size w w' := by
  by_cases hz : spE t step start l = 0
  · exact walk_yes t step start v l w h s0 s1 s2 s3 hz
  · exact walk_no t step start v l w h s0 s1 s2 s3 hz

end Go.Proofs.Ytjaffmmocbplaab.adds
