/-
  PerY, SplM in one text.
-/
import Derived.Test.YtjaffmmocbplaabGreatDoorJPerX
import Derived.Deep.RegionWith
namespace Go.Proofs.YtjaffmmocbplaabGreatDoor
open Go.RowKit
set_option linter.unusedVariables false
attribute [local go_sem ↓] Go.wp_at_zero Go.wp_at_succ

def ppN (t : Trf) (step start : Int) (l : List Txt.Val) : Nat := firstBad (okC t step start) l.length 0
def ppE (t : Trf) (step start : Int) (l : List Txt.Val) : Int := if ppN t step start l < l.length then 3 else 0
def ppA (t : Trf) (step start : Int) (l : List Txt.Val) : Int := if ppN t step start l < l.length then ppN t step start l else 0
def ppL (t : Trf) (step start : Int) (l : List Txt.Val) : List Per := if ppN t step start l < l.length then [] else perL t step start l
theorem pp_no {t : Trf} {step start : Int} {l : List Txt.Val} {k : Nat} (hk : k < l.length) (h : ∀ j, j < k → okC t step start j = true) (h' : okC t step start k = false) : 3 = ppE t step start l ∧ (k : Int) = ppA t step start l ∧ ppL t step start l = [] := by
  have e : ppN t step start l = k := firstBad_at l.length 0 k (by omega) (by omega) (fun j _ g => h j g) h'
  unfold ppE ppA ppL; rw [e, if_pos hk, if_pos hk, if_pos hk]; exact ⟨rfl, rfl, rfl⟩
theorem pp_yes {t : Trf} {step start : Int} {l : List Txt.Val} (h : ∀ j, j < l.length → okC t step start j = true) : 0 = ppE t step start l ∧ 0 = ppA t step start l ∧ ppL t step start l = perL t step start l := by
  have e : ppN t step start l = l.length := by have := firstBad_all (p := okC t step start) l.length 0 (fun j _ g => h j (by omega)); unfold ppN; omega
  unfold ppE ppA ppL; rw [e, if_neg (by omega), if_neg (by omega), if_neg (by omega)]; exact ⟨rfl, rfl, rfl⟩

theorem app_block {wr w4 : World} {o : Obj} {v : Value} {B : Nat} (g4 : (wr.alloc o).grownBy w4 v.ownBlock) (hlt : B < wr.heap.size) (hne : ∀ j, v.ownBlock = some j → B < j) : w4.heap[B]? = wr.heap[B]? :=
  (g4.block B (by simp; omega) (fun h => by have := hne _ h.symm; omega)).trans (heap_alloc_old _ _ hlt)
theorem app_PAt {wr w4 : World} {o : Obj} {v : Value} {B : Nat} {p : Per} (g4 : (wr.alloc o).grownBy w4 v.ownBlock) (hP : PAt wr B p) (hne : ∀ j, v.ownBlock = some j → B < j) : PAt w4 B p :=
  hP.of_block (app_block g4 hP.lt hne)
theorem app_cell {wr w4 : World} {o : Obj} {v u : Value} {B c : Nat} (g4 : (wr.alloc o).grownBy w4 v.ownBlock) (hlt : B < wr.heap.size) (hne : ∀ j, v.ownBlock = some j → B < j) (h : wr.cell? ⟨B, c, none⟩ = some u) : w4.cell? ⟨B, c, none⟩ = some u :=
  (World.cell?_of_block (a := ⟨B, c, none⟩) (app_block g4 hlt hne)).trans h

set_option maxRecDepth 1000000 in
set_option maxHeartbeats 1500000 in
theorem periods_any (t : Trf) (step start : Int) (v : Value) (l : List Txt.Val) (w : World) (h : VRow w v l) (ht : badN t = 13) (hs : step = 15 ∨ step = 30 ∨ step = 60) (hst : 0 ≤ start ∧ start ≤ 52596000) (hall : l.all valB = true) (hl : l.length ≤ 200) :
    Calls Tryz.prog 66 #[.agg #[.int .i64 step, .int .i64 start, v], .agg #[.int .i64 t.z.off, .int .i64 t.z.f.m, .int .i64 t.z.f.w, .int .i64 t.z.f.d, .int .i64 t.z.f.h, .int .i64 t.z.t.m, .int .i64 t.z.t.w, .int .i64 t.z.t.d, .int .i64 t.z.t.h, .int .i64 t.days, .int .i64 t.gap, .int .i64 t.first, .int .i64 t.last, .string t.h0, .string t.h1, .string t.h2, .string t.h3, .int .i64 t.b0.x, .int .i64 t.b0.y, .int .i64 t.b0.z, .int .i64 t.b1.x, .int .i64 t.b1.y, .int .i64 t.b1.z, .int .i64 t.b2.x, .int .i64 t.b2.y, .int .i64 t.b2.z, .int .i64 t.d.x, .int .i64 t.d.y, .int .i64 t.d.z, .int .i64 t.np, .int .i64 t.nn, .int .i64 t.fix, .int .i64 t.min, .int .i64 t.tax]] w fun e w' => ∃ v', e = .returned (.tuple #[v', .int .i64 (ppE t step start l), .int .i64 (ppA t step start l)]) ∧
      w'.ownsRow w.heap.size 92 5 v' (ppL t step start l).length (pcs (ppL t step start l)) ∧ Below w.heap.size w w' := by
  obtain ⟨i0, hi, hz0, hz1, hz2⟩ := info_parts infoP
  obtain ⟨dd1, dd2⟩ := days_ok ht
  have RUN : Hid (∀ k, k ≤ l.length → (∀ j, j < k → okC t step start j = true) → okS (runP t step start l k) k) := fun k => run_ok ht hs hall k
  obtain ⟨a, cap, rfl⟩ := h.form
  have HV : Hid (VRow w (.slice a l.length cap) l) := h
  clear h
  go_enter Tryz.func66, Tryz.ntmps66
  go_wp2_with fail
  obtain ⟨W0, hW0⟩ : ∃ W0, W0 = (w.alloc (.cells #[.int .i64 step, .int .i64 start, .slice a l.length cap] 31)).alloc (.cells #[.int .i64 t.z.off, .int .i64 t.z.f.m, .int .i64 t.z.f.w, .int .i64 t.z.f.d, .int .i64 t.z.f.h, .int .i64 t.z.t.m, .int .i64 t.z.t.w, .int .i64 t.z.t.d, .int .i64 t.z.t.h, .int .i64 t.days, .int .i64 t.gap, .int .i64 t.first, .int .i64 t.last, .string t.h0, .string t.h1, .string t.h2, .string t.h3, .int .i64 t.b0.x, .int .i64 t.b0.y, .int .i64 t.b0.z, .int .i64 t.b1.x, .int .i64 t.b1.y, .int .i64 t.b1.z, .int .i64 t.b2.x, .int .i64 t.b2.y, .int .i64 t.b2.z, .int .i64 t.d.x, .int .i64 t.d.y, .int .i64 t.d.z, .int .i64 t.np, .int .i64 t.nn, .int .i64 t.fix, .int .i64 t.min, .int .i64 t.tax] 47) := ⟨_, rfl⟩
  have HW0 : Hid (W0 = (w.alloc (.cells #[.int .i64 step, .int .i64 start, .slice a l.length cap] 31)).alloc (.cells #[.int .i64 t.z.off, .int .i64 t.z.f.m, .int .i64 t.z.f.w, .int .i64 t.z.f.d, .int .i64 t.z.f.h, .int .i64 t.z.t.m, .int .i64 t.z.t.w, .int .i64 t.z.t.d, .int .i64 t.z.t.h, .int .i64 t.days, .int .i64 t.gap, .int .i64 t.first, .int .i64 t.last, .string t.h0, .string t.h1, .string t.h2, .string t.h3, .int .i64 t.b0.x, .int .i64 t.b0.y, .int .i64 t.b0.z, .int .i64 t.b1.x, .int .i64 t.b1.y, .int .i64 t.b1.z, .int .i64 t.b2.x, .int .i64 t.b2.y, .int .i64 t.b2.z, .int .i64 t.d.x, .int .i64 t.d.y, .int .i64 t.d.z, .int .i64 t.np, .int .i64 t.nn, .int .i64 t.fix, .int .i64 t.min, .int .i64 t.tax] 47)) := hW0
  have B0 : Below w.heap.size w W0 := by rw [hW0]; exact below_more (below_more (Below.refl _ _) _) _
  have z0 : W0.heap.size = w.heap.size + 2 := by rw [hW0]; simp
  have M0 : W0.cell? ⟨w.heap.size, 0, none⟩ = some (.int .i64 step) := by rw [hW0]; simp [go_sem]
  have M1 : W0.cell? ⟨w.heap.size, 1, none⟩ = some (.int .i64 start) := by rw [hW0]; simp [go_sem]
  have M2 : W0.cell? ⟨w.heap.size, 2, none⟩ = some (.slice a l.length cap) := by rw [hW0]; simp [go_sem]
  have MT : W0.heap[w.heap.size + 1]? = some (.cells #[.int .i64 t.z.off, .int .i64 t.z.f.m, .int .i64 t.z.f.w, .int .i64 t.z.f.d, .int .i64 t.z.f.h, .int .i64 t.z.t.m, .int .i64 t.z.t.w, .int .i64 t.z.t.d, .int .i64 t.z.t.h, .int .i64 t.days, .int .i64 t.gap, .int .i64 t.first, .int .i64 t.last, .string t.h0, .string t.h1, .string t.h2, .string t.h3, .int .i64 t.b0.x, .int .i64 t.b0.y, .int .i64 t.b0.z, .int .i64 t.b1.x, .int .i64 t.b1.y, .int .i64 t.b1.z, .int .i64 t.b2.x, .int .i64 t.b2.y, .int .i64 t.b2.z, .int .i64 t.d.x, .int .i64 t.d.y, .int .i64 t.d.z, .int .i64 t.np, .int .i64 t.nn, .int .i64 t.fix, .int .i64 t.min, .int .i64 t.tax] 47) := by rw [hW0]; exact heap_alloc2_new _ _ _
  clear hW0
  go_loopw [7, 9, 10] (fun f en p wr => ∃ k : Nat, p = .int .i64 k ∧ k ≤ l.length ∧ (∀ j, j < k → okC t step start j = true) ∧ en = .int .i64 (runP t step start l k).en ∧
      wr.ownsRow (w.heap.size + 3) 92 5 f (runP t step start l k).dn.length (pcs (runP t step start l k).dn) ∧ PAt wr (w.heap.size + 2) (runP t step start l k).p ∧ Below W0.heap.size W0 wr) (fun _ _ p _ => l.length - (intOf p).toNat)
  case atStart =>
    refine ⟨0, rfl, by omega, fun j hj => by omega, rfl, World.ownsRow_nil _ _ _ _, ?_, ?_⟩
    · constructor <;> simp [go_sem, runP, per0]
    · have := below_more (Below.refl W0.heap.size W0) (.cells #[.int .i64 0, .int .i64 0, .int .i64 0, .int .i64 0, .int .i64 0] 92)
      rw [HW0.out] at this ⊢
      exact this
  case round =>
    obtain ⟨k, rfl, hk, hpre, rfl, hown, hP, hb⟩ := hrel
    have HPRE : Hid (∀ j, j < k → okC t step start j = true) := hpre
    have hsz := hb.size
    have m0 := vcell_below hb (show w.heap.size < W0.heap.size by omega) M0
    have m1 := vcell_below hb (show w.heap.size < W0.heap.size by omega) M1
    have m2 := vcell_below hb (show w.heap.size < W0.heap.size by omega) M2
    have BR := below_then B0 hb
    obtain ⟨a0, cap0, rfl⟩ := own_slice hown
    have hokS := RUN.out k hk hpre
    obtain ⟨S, hS⟩ : ∃ S, S = runP t step start l k := ⟨_, rfl⟩
    have HS : Hid (S = runP t step start l k) := hS
    rw [← hS] at hown hP hokS
    rw [← hS]
    clear hpre hS
    by_cases hlt : k < l.length
    · have hlt' : (k : Int) < (l.length : Int) := by omega
      have hk0 : (0 : Int) ≤ (k : Int) := by omega
      have hks : 0 ≤ (k : Int) * step ∧ (k : Int) * step ≤ 12000 := by rcases hs with rfl | rfl | rfl <;> omega
      have mt := (hb.block (w.heap.size + 1) (by omega)).trans MT
      have t0 : wr.cell? ⟨w.heap.size + 1, 0, none⟩ = some (.int .i64 t.z.off) := (cell_of_row _ _ _ _ _ _ mt).trans rfl
      have t1 : wr.cell? ⟨w.heap.size + 1, 1, none⟩ = some (.int .i64 t.z.f.m) := (cell_of_row _ _ _ _ _ _ mt).trans rfl
      have t2 : wr.cell? ⟨w.heap.size + 1, 2, none⟩ = some (.int .i64 t.z.f.w) := (cell_of_row _ _ _ _ _ _ mt).trans rfl
      have t3 : wr.cell? ⟨w.heap.size + 1, 3, none⟩ = some (.int .i64 t.z.f.d) := (cell_of_row _ _ _ _ _ _ mt).trans rfl
      have t4 : wr.cell? ⟨w.heap.size + 1, 4, none⟩ = some (.int .i64 t.z.f.h) := (cell_of_row _ _ _ _ _ _ mt).trans rfl
      have t5 : wr.cell? ⟨w.heap.size + 1, 5, none⟩ = some (.int .i64 t.z.t.m) := (cell_of_row _ _ _ _ _ _ mt).trans rfl
      have t6 : wr.cell? ⟨w.heap.size + 1, 6, none⟩ = some (.int .i64 t.z.t.w) := (cell_of_row _ _ _ _ _ _ mt).trans rfl
      have t7 : wr.cell? ⟨w.heap.size + 1, 7, none⟩ = some (.int .i64 t.z.t.d) := (cell_of_row _ _ _ _ _ _ mt).trans rfl
      have t8 : wr.cell? ⟨w.heap.size + 1, 8, none⟩ = some (.int .i64 t.z.t.h) := (cell_of_row _ _ _ _ _ _ mt).trans rfl
      have t9 : wr.cell? ⟨w.heap.size + 1, 9, none⟩ = some (.int .i64 t.days) := (cell_of_row _ _ _ _ _ _ mt).trans rfl
      cases hok : okC t step start k
      case false =>
        have HG := hideF (pp_no hlt HPRE.out hok)
        have ck := fun w1 => Clock_no t.z (start + k * step) w1 hok
        clear hok
        go_wp2_with (go_at_call 88; refine (ck _).mono ?_; rintro e w1 ⟨rfl, hb1⟩)
        exact bodyPost_ret (v := .tuple #[.slice none 0 0, .int .i64 3, .int .i64 k]) (by simp [results, Tryz.results66, go_sem]) rfl ⟨_, ret_fill rfl HG.out.1 HG.out.2.1, by rw [HG.out.2.2]; exact World.ownsRow_nil _ _ _ _, below_then BR hb1⟩
      case true =>
        have ck : ∀ w1, Calls Tryz.prog 88 #[.agg #[.int .i64 t.z.off, .int .i64 t.z.f.m, .int .i64 t.z.f.w, .int .i64 t.z.f.d, .int .i64 t.z.f.h, .int .i64 t.z.t.m, .int .i64 t.z.t.w, .int .i64 t.z.t.d, .int .i64 t.z.t.h], .int .i64 (start + k * step)] w1 fun e w' => e = .returned (.tuple #[.int .i64 (dayAt t step start k), .int .i64 (minAt t step start k), .int .i64 0]) ∧ Below w1.heap.size w1 w' := fun w1 => Clock_yes t.z (start + k * step) w1 hok
        obtain ⟨e0, e1, e2, e3⟩ := okC_day hok
        obtain ⟨x, hx⟩ : ∃ x, l[k]? = some x := ⟨l[k], List.getElem?_eq_getElem hlt⟩
        have vx := valB_bd (List.all_eq_true.mp hall x (List.mem_of_getElem? hx))
        have co : ∀ w1, Calls Tryz.prog 89 #[.agg #[.int .i64 t.z.off, .int .i64 t.z.f.m, .int .i64 t.z.f.w, .int .i64 t.z.f.d, .int .i64 t.z.f.h, .int .i64 t.z.t.m, .int .i64 t.z.t.w, .int .i64 t.z.t.d, .int .i64 t.z.t.h, .int .i64 t.days, .int .i64 t.gap, .int .i64 t.first, .int .i64 t.last, .string t.h0, .string t.h1, .string t.h2, .string t.h3, .int .i64 t.b0.x, .int .i64 t.b0.y, .int .i64 t.b0.z, .int .i64 t.b1.x, .int .i64 t.b1.y, .int .i64 t.b1.z, .int .i64 t.b2.x, .int .i64 t.b2.y, .int .i64 t.b2.z, .int .i64 t.d.x, .int .i64 t.d.y, .int .i64 t.d.z, .int .i64 t.np, .int .i64 t.nn, .int .i64 t.fix, .int .i64 t.min, .int .i64 t.tax], .int .i64 (dayAt t step start k), .int .i64 (minAt t step start k / 60)] w1 fun e w' => e = .returned (.int .i64 (clsOf t (dayAt t step start k) (minAt t step start k / 60))) ∧ Below w1.heap.size w1 w' := by
          intro w1
          have := classOf_any t (dayAt t step start k) ((minAt t step start k / 60).toNat) w1 ht e0 e1 (by omega)
          rw [Int.toNat_of_nonneg (by omega)] at this
          exact this
        have cb := clsOf_bd ht (day := dayAt t step start k) (hour := minAt t step start k / 60) (by omega) (by omega)
        have HSTEP : Hid (runP t step start l (k + 1) = ⟨(pushP t.days (dayAt t step start k) (begP t step start S k)).dn, addV (pushP t.days (dayAt t step start k) (begP t step start S k)).p x (clsOf t (dayAt t step start k) (minAt t step start k / 60)) step, (pushP t.days (dayAt t step start k) (begP t step start S k)).en⟩) := by
          show stepP t step start l (runP t step start l k) k = _
          unfold stepP
          rw [← HS.out, Fil.vAt_some hx]
        have HNEXT : Hid (∀ j, j < k + 1 → okC t step start j = true) := fun j hj => by
          rcases Nat.lt_or_ge j k with g | g
          · exact HPRE.out j g
          · have : j = k := by omega
            subst this; exact hok
        have HX : Hid (l[k]? = some x) := hx
        have hdn : (begP t step start S k).dn = S.dn := by unfold begP; split <;> rfl
        have hpp : (begP t step start S k).p = S.p := by unfold begP; split <;> rfl
        have hen : (k = 0 → (begP t step start S k).en = dayAt t step start k + t.days) ∧ (¬ k = 0 → (begP t step start S k).en = S.en) := by
          unfold begP; constructor
          · intro g; rw [if_pos g]
          · intro g; rw [if_neg g]
        obtain ⟨D, hD⟩ : ∃ D, D = dayAt t step start k := ⟨_, rfl⟩
        obtain ⟨Mi, hMi⟩ : ∃ Mi, Mi = minAt t step start k := ⟨_, rfl⟩
        obtain ⟨S0, hS0⟩ : ∃ S0, S0 = begP t step start S k := ⟨_, rfl⟩
        rw [← hD, ← hMi] at ck co cb HSTEP
        rw [← hS0] at HSTEP hdn hpp hen
        rw [← hD] at e0 e1 hen
        rw [← hMi] at e2 e3
        obtain ⟨C, hC⟩ : ∃ C, C = clsOf t D (Mi / 60) := ⟨_, rfl⟩
        rw [← hC] at co cb HSTEP
        have hc012 : C = 0 ∨ C = 1 ∨ C = 2 := by omega
        have hokS0 : okS S0 k := by
          refine ⟨by rw [hpp]; exact hokS.1, ?_, ?_⟩
          · rw [hdn]
            by_cases g : k = 0
            · have e : S.dn = [] := by rw [HS.out, g]; rfl
              rw [e, hen.1 g]; show ((0 : Nat) : Int) ≤ _; omega
            · rw [hen.2 g]; exact hokS.2.1
          · by_cases g : k = 0
            · rw [hen.1 g]; omega
            · rw [hen.2 g]; exact hokS.2.2
        have HDN := hideF hdn
        have HPP := hideF hpp
        have HEN := hideF hen
        have hbn : w.heap.size + 1 < wr.heap.size := by omega
        have hbn0 : w.heap.size < wr.heap.size := by omega
        clear hD hMi hS0 hC hok hx hdn hpp hen HPRE hokS cb
        by_cases hkz : k = 0
        case' pos => have q2B : ((k : Int) == 0) = true := by simp; omega
        case' pos => have HE : Hid (S0.en = D + t.days) := HEN.out.1 hkz
        case' neg => have q2B : ((k : Int) == 0) = false := by simp; omega
        case' neg => have HE : Hid (S0.en = S.en) := HEN.out.2 hkz
        all_goals
          clear hkz HEN
          go_wp2_with (go_at_call 88; refine (ck _).mono ?_; rintro e w1 ⟨rfl, hb1⟩; obtain ⟨hc1, hf1⟩ := bcell hb1)
          go_loopw [7, 9] (fun f en wi => ∃ s : PSt, en = .int .i64 s.en ∧ pushP t.days D s = pushP t.days D S0 ∧ okS s k ∧ wi.ownsRow (w.heap.size + 3) 92 5 f s.dn.length (pcs s.dn) ∧ PAt wi (w.heap.size + 2) s.p ∧ Below W0.heap.size W0 wi) (fun _ en _ => (D + 1 - intOf en).toNat)
          case atStart => exact ⟨S0, by rw [HE.out], rfl, hokS0, by rw [HDN.out]; exact own_below hown hb1, by rw [HPP.out]; exact hP.below hb1, below_then hb hb1⟩
          case round =>
            clear m0 m1 m2 mt t0 t1 t2 t3 t4 t5 t6 t7 t8 t9 hc1 hf1 hb1 hown hP hb ck hsz hbn hbn0 BR
            obtain ⟨s, rfl, hpush, hoks, hown2, hP2, hb2⟩ := hrel
            obtain ⟨a02, cap02, rfl⟩ := own_slice hown2
            have hsz2 := hb2.size
            have hPlt := hP2.lt
            have mt2 := (hb2.block (w.heap.size + 1) (by omega)).trans MT
            have t9 : wr.cell? ⟨w.heap.size + 1, 9, none⟩ = some (.int .i64 t.days) := (cell_of_row _ _ _ _ _ _ mt2).trans rfl
            have hoN : ∀ j, (Value.ownBlock (.slice a02 s.dn.length cap02)) = some j → w.heap.size + 3 ≤ j := fun j hj => (hown2.lt j hj).1
            have hP2' := hP2
            obtain ⟨c0, c1, c2, c3, c4, f0, f1, f2, f3, f4⟩ := hP2'
            have hoks' := hoks
            obtain ⟨op, ol, oe⟩ := hoks'
            by_cases hle : s.en ≤ D
            · go_wp2_with (at_builtin; refine wpList_append_own _ rfl _ _ 84 rfl (w.heap.size + 3) 92 i0 (.agg #[.int .i64 0, .int .i64 0, .int .i64 0, .int .i64 0, .int .i64 0]) 5 40 Tryz.underlying84 hi hz0 hz1 hz2 rfl (by decide) _ _ _ rfl (hown2.alloc _) ⟨wr.heap.size, 0, none⟩ 1 1 (pcell s.p) rfl rfl (by have := cell_five_new wr (.int .i64 s.p.i0) (.int .i64 s.p.i1) (.int .i64 s.p.i2) (.int .i64 s.p.o) (.int .i64 s.p.pk) 92; simpa [pcell] using this) (fun x hx => by simp [pcell] at hx; rcases hx with rfl | rfl | rfl | rfl | rfl <;> rfl) (by unfold maxLen; omega) (by omega) (by simp; omega) ?_; intro v' w4 own4 g4 nil4; obtain ⟨a4, cap4, rfl⟩ := own_slice own4; have P4 := app_PAt g4 hP2 (fun j hj => by have := hoN j hj; omega); have t9w := app_cell g4 (show w.heap.size + 1 < wr.heap.size by omega) (fun j hj => by have := hoN j hj; omega) t9; have P4' := P4; obtain ⟨d0, d1, d2, d3, d4, k0, k1, k2, k3, k4⟩ := P4')
              go_roundw
              case rel =>
                refine ⟨⟨s.dn ++ [s.p], per0, s.en + t.days⟩, by go_num, (push_go dd1 hle).symm.trans hpush, ⟨okP_zero k, by simp only [List.length_append, List.length_singleton]; omega, by simp only; omega⟩, ?_, ?_, ?_⟩
                · rw [pcs_snoc, List.length_append, List.length_singleton]
                  refine ownsRow_setCell_below (ownsRow_setCell_below (ownsRow_setCell_below (ownsRow_setCell_below (ownsRow_setCell_below own4 ?_ _) ?_ _) ?_ _) ?_ _) ?_ _ <;> (first | omega | simp)
                · constructor <;> simp [go_sem, per0, d0, d1, d2, d3, d4, k0, k1, k2, k3, k4]
                · refine Below.setCell (Below.setCell (Below.setCell (Below.setCell (Below.setCell (Below.grown (below_more hb2 _) g4 (by simp; omega) (fun j' hj' => by have := hoN j' hj'; omega)) ?_ _) ?_ _) ?_ _) ?_ _) ?_ _ <;> (first | omega | (simp; omega))
              case measure => simp [intOf]; omega
            · have hpe : pushP t.days D S0 = s := by rw [← hpush, push_stop hle]
              have HST : Hid (runP t step start l (k + 1) = ⟨s.dn, addV s.p x C step, s.en⟩) := by have := HSTEP.out; rw [hpe] at this; exact this
              have m0 := vcell_below hb2 (show w.heap.size < W0.heap.size by omega) M0
              have m2 := vcell_below hb2 (show w.heap.size < W0.heap.size by omega) M2
              obtain ⟨b, off, rfl, hcap, hblt0, x0', x1', x2'⟩ := HV.out.at HX.out
              have x0 := vcell_below (below_then B0 hb2) hblt0 x0'
              have x1 := vcell_below (below_then B0 hb2) hblt0 x1'
              have x2 := vcell_below (below_then B0 hb2) hblt0 x2'
              clear x0' x1' x2'
              have hblt : b < wr.heap.size := by omega
              have hbne : ¬ b = w.heap.size + 2 := by omega
              have hbne' : ¬ w.heap.size + 2 = b := by omega
              have hcap' : (l.length : Int) ≤ (cap : Int) := by omega
              have wa := fun w1 => with_any s.p x C step w1 k (by omega) op vx.1 vx.2 hc012 hs
              obtain ⟨Q, hQ⟩ : ∃ Q, Q = addV s.p x C step := ⟨_, rfl⟩
              rw [← hQ] at wa HST
              have hw0 : w.heap.size < wr.heap.size := by omega
              clear hpe hQ hpush HSTEP hoks
              go_wp2_with (first
                | (refine wpList_load_row rfl 47 _ rfl (w.heap.size + 1) rfl 47 _ (0, 0) _ mt2 Tryz.underlying47 rfl (by kernel_rfl) ?_)
                | (go_at_call 89; refine (co _).mono ?_; rintro e w5 ⟨rfl, hb5⟩; obtain ⟨hc5, hf5⟩ := bcell hb5))
              have P5 := hP2.below hb5
              have P5' := P5
              obtain ⟨d0, d1, d2, d3, d4, k0, k1, k2, k3, k4⟩ := P5'
              have y0 := vcell_below hb5 hw0 m0
              have y2 := vcell_below hb5 hw0 m2
              have y3 := vcell_below hb5 hblt x0
              have y4 := vcell_below hb5 hblt x1
              have y5 := vcell_below hb5 hblt x2
              have hs5 := hb5.size
              have hw5 : w.heap.size < w5.heap.size := by omega
              have hb55 : b < w5.heap.size := by omega
              have hP5lt := P5.lt
              clear hc5 hf5 mt2 t9 m0 m2 x0 x1 x2 c0 c1 c2 c3 c4 f0 f1 f2 f3 f4
              go_region_with (go_at_call 90; refine (wa _).mono ?_; rintro e w6 ⟨rfl, hb6'⟩; have hb6 : Below w5.heap.size w5 w6 := below_then (Below.drew (Below.refl _ _)) hb6'; clear hb6'; have P6 := P5.below hb6; have P6' := P6; obtain ⟨v0, v1, v2, v3, v4, g0, g1, g2, g3, g4⟩ := P6')
              all_goals
                go_wp2_with fail
                go_roundw
                case rel =>
                  refine ⟨k + 1, by go_num, by omega, HNEXT.out, by rw [HST.out], ?_, ?_, ?_⟩
                  · rw [HST.out]
                    refine ownsRow_setCell_below (ownsRow_setCell_below (ownsRow_setCell_below (ownsRow_setCell_below (ownsRow_setCell_below (own_below hown2 (below_then hb5 hb6)) ?_ _) ?_ _) ?_ _) ?_ _) ?_ _ <;> (first | omega | simp)
                  · rw [HST.out]
                    constructor <;> simp [go_sem, v0, v1, v2, v3, v4, g0, g1, g2, g3, g4]
                  · refine Below.setCell (Below.setCell (Below.setCell (Below.setCell (Below.setCell (below_then hb2 (below_then hb5 hb6)) ?_ _) ?_ _) ?_ _) ?_ _) ?_ _ <;> (first | omega | (simp; omega))
                case measure => simp [intOf]; omega
    · have hlt' : ¬ (k : Int) < (l.length : Int) := by omega
      have hkn : k = l.length := by omega
      have HG := hideF (pp_yes (l := l) (by rw [← hkn]; exact HPRE.out))
      have HPL : Hid (perL t step start l = S.dn ++ [S.p]) := by show _ = _; unfold perL; rw [← hkn, ← HS.out]
      obtain ⟨_, ol, oe⟩ := hokS
      have hbn : w.heap.size + 2 ≤ wr.heap.size := by omega
      have hoN : ∀ j, (Value.ownBlock (.slice a0 S.dn.length cap0)) = some j → w.heap.size + 3 ≤ j := fun j hj => (hown.lt j hj).1
      obtain ⟨c0, c1, c2, c3, c4, f0, f1, f2, f3, f4⟩ := hP
      clear hkn
      go_wp2_with (at_builtin; refine wpList_append_own _ rfl _ _ 84 rfl (w.heap.size + 3) 92 i0 (.agg #[.int .i64 0, .int .i64 0, .int .i64 0, .int .i64 0, .int .i64 0]) 5 40 Tryz.underlying84 hi hz0 hz1 hz2 rfl (by decide) _ _ _ rfl (hown.alloc _) ⟨wr.heap.size, 0, none⟩ 1 1 (pcell S.p) rfl rfl (by have := cell_five_new wr (.int .i64 S.p.i0) (.int .i64 S.p.i1) (.int .i64 S.p.i2) (.int .i64 S.p.o) (.int .i64 S.p.pk) 92; simpa [pcell] using this) (fun x hx => by simp [pcell] at hx; rcases hx with rfl | rfl | rfl | rfl | rfl <;> rfl) (by unfold maxLen; omega) (by omega) (by simp; omega) ?_; intro v' w4 own4 g4 nil4; obtain ⟨a4, cap4, rfl⟩ := own_slice own4)
      refine bodyPost_ret (v := .tuple #[.slice a4 (S.dn.length + 1) cap4, .int .i64 0, .int .i64 0]) (by simp [results, Tryz.results66, go_sem]) rfl ⟨_, ret_fill rfl HG.out.1 HG.out.2.1, ?_, ?_⟩
      · rw [HG.out.2.2, HPL.out, pcs_snoc, List.length_append]; exact own_base own4 (by omega)
      · exact Below.grown (below_more BR _) g4 (by simp; omega) (fun j' hj' => by have := hoN j' hj'; omega)

end Go.Proofs.YtjaffmmocbplaabGreatDoor

namespace Go.Proofs.YtjaffmmocbplaabGreatDoor
open Txt (Val)
set_option linter.unusedVariables false

def mx (a b : Int) : Int := if b < a then a else b
def pI (p : Per) : Int := p.i0 + p.i1 + p.i2
def tI (l : List Per) : Int := l.foldl (fun s p => s + pI p) 0
def tO (l : List Per) : Int := l.foldl (fun s p => s + p.o) 0
def tP (l : List Per) : Int := l.foldl (fun s p => mx s p.pk) 0
def vI (l : List Val) : Int := l.foldl (fun s v => s + v.i) 0
def vO (l : List Val) : Int := l.foldl (fun s v => s + v.o) 0
def vP (step : Int) (l : List Val) : Int := l.foldl (fun s v => mx s (pw v step)) 0
theorem tI_snoc (l : List Per) (p : Per) : tI (l ++ [p]) = tI l + pI p := by simp [tI]
theorem tO_snoc (l : List Per) (p : Per) : tO (l ++ [p]) = tO l + p.o := by simp [tO]
theorem tP_snoc (l : List Per) (p : Per) : tP (l ++ [p]) = mx (tP l) p.pk := by simp [tP]
theorem vI_snoc (l : List Val) (p : Val) : vI (l ++ [p]) = vI l + p.i := by simp [vI]
theorem vO_snoc (l : List Val) (p : Val) : vO (l ++ [p]) = vO l + p.o := by simp [vO]
theorem vP_snoc (step : Int) (l : List Val) (p : Val) : vP step (l ++ [p]) = mx (vP step l) (pw p step) := by simp [vP]
theorem tP_nonneg (l : List Per) : 0 ≤ tP l := by
  suffices h : ∀ (l : List Per) (s : Int), 0 ≤ s → 0 ≤ l.foldl (fun s p => mx s p.pk) s from h l 0 (Int.le_refl _)
  intro l
  induction l with
  | nil => intro s h; exact h
  | cons p l ih => intro s h; exact ih _ (by show 0 ≤ mx s p.pk; unfold mx; split <;> omega)
theorem push_tot {days day : Int} (hd : 1 ≤ days) : ∀ (n : Nat) (s : PSt), (day + 1 - s.en).toNat ≤ n →
    tI (pushP days day s).dn + pI (pushP days day s).p = tI s.dn + pI s.p ∧ tO (pushP days day s).dn + (pushP days day s).p.o = tO s.dn + s.p.o ∧ mx (tP (pushP days day s).dn) (pushP days day s).p.pk = mx (tP s.dn) s.p.pk
  | n, s, hn => by
    by_cases g : s.en ≤ day
    · cases n with
      | zero => omega
      | succ n =>
        rw [push_go hd g]
        obtain ⟨a, b, c⟩ := push_tot (day := day) hd n ⟨s.dn ++ [s.p], per0, s.en + days⟩ (by simp only; omega)
        refine ⟨?_, ?_, ?_⟩
        · rw [a]; simp only [tI_snoc]; simp only [pI, per0]; omega
        · rw [b]; simp only [tO_snoc]; simp only [per0]; omega
        · rw [c]; simp only [tP_snoc]
          have := tP_nonneg s.dn
          simp only [mx, per0]; split <;> split <;> omega
    · rw [push_stop g]; exact ⟨rfl, rfl, rfl⟩
theorem run_tot {t : Trf} {step start : Int} {l : List Val} (ht : badN t = 13) : ∀ k, k ≤ l.length → (∀ j, j < k → okC t step start j = true) →
    tI (runP t step start l k).dn + pI (runP t step start l k).p = vI (l.take k) ∧ tO (runP t step start l k).dn + (runP t step start l k).p.o = vO (l.take k) ∧ mx (tP (runP t step start l k).dn) (runP t step start l k).p.pk = vP step (l.take k)
  | 0, _, _ => ⟨rfl, rfl, rfl⟩
  | k + 1, hk, hc => by
    obtain ⟨a, b, c⟩ := run_tot (step := step) (start := start) (l := l) ht k (by omega) (fun j hj => hc j (by omega))
    obtain ⟨d0, _⟩ := days_ok ht
    obtain ⟨e0, e1, e2, e3⟩ := okC_day (hc k (by omega))
    obtain ⟨p1, p2, p3⟩ := push_tot (day := dayAt t step start k) d0 _ (begP t step start (runP t step start l k) k) (Nat.le_refl _)
    have hb : (begP t step start (runP t step start l k) k).dn = (runP t step start l k).dn ∧ (begP t step start (runP t step start l k) k).p = (runP t step start l k).p := by unfold begP; split <;> exact ⟨rfl, rfl⟩
    rw [hb.1, hb.2] at p1 p2 p3
    have cb := clsOf_bd ht (day := dayAt t step start k) (hour := minAt t step start k / 60) (by omega) (by omega)
    have ht' : l.take (k + 1) = l.take k ++ [Fil.vAt l k] := by rw [List.take_add_one, Fil.get_ex (show k < l.length by omega)]; rfl
    rw [ht', vI_snoc, vO_snoc, vP_snoc, ← a, ← b, ← c, ← p1, ← p2, ← p3]
    show tI (stepP t step start l (runP t step start l k) k).dn + pI (stepP t step start l (runP t step start l k) k).p = _ ∧ tO (stepP t step start l (runP t step start l k) k).dn + (stepP t step start l (runP t step start l k) k).p.o = _ ∧ mx (tP (stepP t step start l (runP t step start l k) k).dn) (stepP t step start l (runP t step start l k) k).p.pk = _
    unfold stepP
    simp only [addV, pI]
    obtain ⟨C, hC⟩ : ∃ C, C = clsOf t (dayAt t step start k) (minAt t step start k / 60) := ⟨_, rfl⟩
    rw [← hC] at cb ⊢
    refine ⟨?_, by omega, ?_⟩
    · rcases (by omega : C = 0 ∨ C = 1 ∨ C = 2) with h | h | h <;> rw [h] <;> simp <;> omega
    · simp only [mx]; (repeat' split) <;> omega
theorem perL_tot {t : Trf} {step start : Int} {l : List Val} (ht : badN t = 13) (hc : ∀ j, j < l.length → okC t step start j = true) : tI (perL t step start l) = vI l ∧ tO (perL t step start l) = vO l ∧ tP (perL t step start l) = vP step l := by
  obtain ⟨a, b, c⟩ := run_tot ht l.length (Nat.le_refl _) hc
  rw [List.take_of_length_le (Nat.le_refl _)] at a b c
  unfold perL
  rw [tI_snoc, tO_snoc, tP_snoc]
  exact ⟨a, b, c⟩

/-- what is filled is valid -/
theorem fl_valB {l : List Val} {gap : Int} (hall : l.all valB = true) (hr : Fil.rows l gap 0 = -1) : (Fil.fl l l.length).all valB = true := by
  rw [List.all_eq_true]
  intro y hy
  obtain ⟨i, hi, rfl⟩ : ∃ i, i < l.length ∧ Fil.fv l i = y := by
    unfold Fil.fl at hy
    rw [List.mem_map] at hy
    obtain ⟨i, h1, h2⟩ := hy
    exact ⟨i, List.mem_range.1 h1, h2⟩
  have val : ∀ k, k < l.length → valB (Fil.vAt l k) = true := fun k hk => List.all_eq_true.mp hall _ (List.mem_of_getElem? (Fil.get_ex hk))
  cases g : Fil.mAt l i
  · rw [Fil.fv_not g]; exact val i hi
  · have h0 := Fil.rows_first hr
    have hlf := Fil.lf_lt h0 g
    have hgt := Fil.re_gt g
    have hre := Fil.rows_ok l gap _ 0 (Nat.le_refl _) hr i (by omega) hi
    obtain ⟨a1, a2⟩ := valB_bd (val (Fil.lf l i) (by omega))
    obtain ⟨b1, b2⟩ := valB_bd (val (Fil.re l i) hre)
    have c1 := Fil.btw_in (a := (Fil.vAt l (Fil.lf l i)).i) (b := (Fil.vAt l (Fil.re l i)).i) (i := (i : Int) - Fil.lf l i) (n := (Fil.re l i : Int) - Fil.lf l i) (by omega) (by omega) (by omega)
    have c2 := Fil.btw_in (a := (Fil.vAt l (Fil.lf l i)).o) (b := (Fil.vAt l (Fil.re l i)).o) (i := (i : Int) - Fil.lf l i) (n := (Fil.re l i : Int) - Fil.lf l i) (by omega) (by omega) (by omega)
    have hv : Fil.fv l i = ⟨Fil.btw (Fil.vAt l (Fil.lf l i)).i (Fil.vAt l (Fil.re l i)).i ((i : Int) - Fil.lf l i) ((Fil.re l i : Int) - Fil.lf l i), Fil.btw (Fil.vAt l (Fil.lf l i)).o (Fil.vAt l (Fil.re l i)).o ((i : Int) - Fil.lf l i) ((Fil.re l i : Int) - Fil.lf l i), false⟩ := by unfold Fil.fv; rw [if_pos g]
    rw [hv]
    simp only [valB, Bool.false_eq_true, if_false, Bool.and_eq_true, inB_iff]
    omega

def spE (t : Trf) (step start : Int) (l : List Val) : Int :=
  if meterB step start l then (if badN t < 13 then 5 else if fE step start t.gap l = 0 then ppE t step start (fL step start t.gap l) else fE step start t.gap l) else 3
def spA (t : Trf) (step start : Int) (l : List Val) : Int :=
  if meterB step start l then (if badN t < 13 then 0 else if fE step start t.gap l = 0 then ppA t step start (fL step start t.gap l) else fA step start t.gap l) else 0
def spL (t : Trf) (step start : Int) (l : List Val) : List Per :=
  if meterB step start l then (if badN t < 13 then [] else if fE step start t.gap l = 0 then ppL t step start (fL step start t.gap l) else []) else []
theorem meterB_step {step start : Int} {l : List Val} (h : meterB step start l = true) : (step = 15 ∨ step = 30 ∨ step = 60) ∧ 0 ≤ start ∧ start ≤ 52596000 := by
  have hf := meterB_fit h
  unfold meterB at h
  simp only [Bool.and_eq_true, Bool.or_eq_true, decide_eq_true_eq, inB_iff] at h
  obtain ⟨⟨⟨⟨h1, _⟩, h2⟩, _⟩, _⟩ := h
  refine ⟨by omega, h2.1, ?_⟩
  have := h2.2
  rcases (by omega : step = 15 ∨ step = 30 ∨ step = 60) with rfl | rfl | rfl <;> omega
end Go.Proofs.YtjaffmmocbplaabGreatDoor
