/-
  Tariffs: whether two tariffs are the same; the law (made by tools/gentds.py).
-/
import Derived.Test.YtjaffmmocbplaaaTdQ
import Derived.Test.YtjaffmmocbplaaaTarD
namespace Go.Proofs.Ytjaffmmocbplaaa.tariffs
open Go.RowKit
set_option linter.unusedVariables false
attribute [local go_sem ↓] Go.wp_at_zero Go.wp_at_succ

theorem sameRule_any (r : Zon.Rul) (w : World) :
    Calls Try.prog 65 #[.agg #[.int .i64 r.m, .int .i64 r.w, .int .i64 r.d, .int .i64 r.h], .agg #[.int .i64 r.m, .int .i64 r.w, .int .i64 r.d, .int .i64 r.h]] w fun e w' => e = .returned (.bool true) ∧ Below w.heap.size w w' := by
  go_enter Try.func65, Try.ntmps65
  go_wp2_with fail
  go_ret
  exact ⟨ret_bool (by simp), below_more (below_more (Below.refl _ _) _) _⟩

set_option maxRecDepth 1000000 in
set_option maxHeartbeats 2000000 in
theorem sameTariff_any (x : Trf) (w : World) (s0 : x.h0.size ≤ maxLen) (s1 : x.h1.size ≤ maxLen) (s2 : x.h2.size ≤ maxLen) (s3 : x.h3.size ≤ maxLen) :
    Calls Try.prog 26 #[.agg #[.int .i64 x.z.off, .int .i64 x.z.f.m, .int .i64 x.z.f.w, .int .i64 x.z.f.d, .int .i64 x.z.f.h, .int .i64 x.z.t.m, .int .i64 x.z.t.w, .int .i64 x.z.t.d, .int .i64 x.z.t.h, .int .i64 x.days, .int .i64 x.gap, .int .i64 x.first, .int .i64 x.last, .string x.h0, .string x.h1, .string x.h2, .string x.h3, .int .i64 x.b0.x, .int .i64 x.b0.y, .int .i64 x.b0.z, .int .i64 x.b1.x, .int .i64 x.b1.y, .int .i64 x.b1.z, .int .i64 x.b2.x, .int .i64 x.b2.y, .int .i64 x.b2.z, .int .i64 x.d.x, .int .i64 x.d.y, .int .i64 x.d.z, .int .i64 x.np, .int .i64 x.nn, .int .i64 x.fix, .int .i64 x.min, .int .i64 x.tax], .agg #[.int .i64 x.z.off, .int .i64 x.z.f.m, .int .i64 x.z.f.w, .int .i64 x.z.f.d, .int .i64 x.z.f.h, .int .i64 x.z.t.m, .int .i64 x.z.t.w, .int .i64 x.z.t.d, .int .i64 x.z.t.h, .int .i64 x.days, .int .i64 x.gap, .int .i64 x.first, .int .i64 x.last, .string x.h0, .string x.h1, .string x.h2, .string x.h3, .int .i64 x.b0.x, .int .i64 x.b0.y, .int .i64 x.b0.z, .int .i64 x.b1.x, .int .i64 x.b1.y, .int .i64 x.b1.z, .int .i64 x.b2.x, .int .i64 x.b2.y, .int .i64 x.b2.z, .int .i64 x.d.x, .int .i64 x.d.y, .int .i64 x.d.z, .int .i64 x.np, .int .i64 x.nn, .int .i64 x.fix, .int .i64 x.min, .int .i64 x.tax]] w fun e w' => e = .returned (.bool true) ∧ Below w.heap.size w w' := by
  go_enter Try.func26, Try.ntmps26
  go_upto_region 1 with fail
  refine wp_world (fun W0 hW0 => ?_)
  have R0 := hideD (show W0.heap[w.heap.size]? = some (.cells #[.int .i64 x.z.off, .int .i64 x.z.f.m, .int .i64 x.z.f.w, .int .i64 x.z.f.d, .int .i64 x.z.f.h, .int .i64 x.z.t.m, .int .i64 x.z.t.w, .int .i64 x.z.t.d, .int .i64 x.z.t.h, .int .i64 x.days, .int .i64 x.gap, .int .i64 x.first, .int .i64 x.last, .string x.h0, .string x.h1, .string x.h2, .string x.h3, .int .i64 x.b0.x, .int .i64 x.b0.y, .int .i64 x.b0.z, .int .i64 x.b1.x, .int .i64 x.b1.y, .int .i64 x.b1.z, .int .i64 x.b2.x, .int .i64 x.b2.y, .int .i64 x.b2.z, .int .i64 x.d.x, .int .i64 x.d.y, .int .i64 x.d.z, .int .i64 x.np, .int .i64 x.nn, .int .i64 x.fix, .int .i64 x.min, .int .i64 x.tax] 78) by rw [hW0]; exact (heap_alloc_old _ _ (by simp)).trans (heap_alloc_new _ _))
  have R1 := hideD (show W0.heap[w.heap.size + 1]? = some (.cells #[.int .i64 x.z.off, .int .i64 x.z.f.m, .int .i64 x.z.f.w, .int .i64 x.z.f.d, .int .i64 x.z.f.h, .int .i64 x.z.t.m, .int .i64 x.z.t.w, .int .i64 x.z.t.d, .int .i64 x.z.t.h, .int .i64 x.days, .int .i64 x.gap, .int .i64 x.first, .int .i64 x.last, .string x.h0, .string x.h1, .string x.h2, .string x.h3, .int .i64 x.b0.x, .int .i64 x.b0.y, .int .i64 x.b0.z, .int .i64 x.b1.x, .int .i64 x.b1.y, .int .i64 x.b1.z, .int .i64 x.b2.x, .int .i64 x.b2.y, .int .i64 x.b2.z, .int .i64 x.d.x, .int .i64 x.d.y, .int .i64 x.d.z, .int .i64 x.np, .int .i64 x.nn, .int .i64 x.fix, .int .i64 x.min, .int .i64 x.tax] 78) by rw [hW0]; exact heap_alloc2_new _ _ _)
  have B0 : Below w.heap.size w W0 := by rw [hW0]; exact below_more (below_more (Below.refl _ _) _) _
  have zz : W0.heap.size = w.heap.size + 2 := by rw [hW0]; simp
  have hz0 : w.heap.size < W0.heap.size := by omega
  have hz1 : w.heap.size + 1 < W0.heap.size := by omega
  clear hW0 zz
  have p0 : W0.cell? ⟨w.heap.size, 0, none⟩ = some (.int .i64 x.z.off) := cell_of_row _ _ _ _ _ _ R0.out
  have r0 : W0.cell? ⟨w.heap.size + 1, 0, none⟩ = some (.int .i64 x.z.off) := cell_of_row _ _ _ _ _ _ R1.out
  have p1 : W0.cell? ⟨w.heap.size, 1, none⟩ = some (.int .i64 x.z.f.m) := cell_of_row _ _ _ _ _ _ R0.out
  have r1 : W0.cell? ⟨w.heap.size + 1, 1, none⟩ = some (.int .i64 x.z.f.m) := cell_of_row _ _ _ _ _ _ R1.out
  have p2 : W0.cell? ⟨w.heap.size, 2, none⟩ = some (.int .i64 x.z.f.w) := cell_of_row _ _ _ _ _ _ R0.out
  have r2 : W0.cell? ⟨w.heap.size + 1, 2, none⟩ = some (.int .i64 x.z.f.w) := cell_of_row _ _ _ _ _ _ R1.out
  have p3 : W0.cell? ⟨w.heap.size, 3, none⟩ = some (.int .i64 x.z.f.d) := cell_of_row _ _ _ _ _ _ R0.out
  have r3 : W0.cell? ⟨w.heap.size + 1, 3, none⟩ = some (.int .i64 x.z.f.d) := cell_of_row _ _ _ _ _ _ R1.out
  have p4 : W0.cell? ⟨w.heap.size, 4, none⟩ = some (.int .i64 x.z.f.h) := cell_of_row _ _ _ _ _ _ R0.out
  have r4 : W0.cell? ⟨w.heap.size + 1, 4, none⟩ = some (.int .i64 x.z.f.h) := cell_of_row _ _ _ _ _ _ R1.out
  have e0 : (x.z.off != x.z.off) = false := by simp
  go_upto_region 3 with (first
    | (go_at_call 65; have _ := hb1; refine (sameRule_any x.z.t _).mono ?_; rintro e w2 ⟨rfl, hb2⟩)
    | (go_at_call 65; refine (sameRule_any x.z.f _).mono ?_; rintro e w1 ⟨rfl, hb1⟩; have p5 : w1.cell? ⟨w.heap.size, 5, none⟩ = some (.int .i64 x.z.t.m) := vcell_below hb1 hz0 (cell_of_row _ _ _ _ _ _ R0.out); have r5 : w1.cell? ⟨w.heap.size + 1, 5, none⟩ = some (.int .i64 x.z.t.m) := vcell_below hb1 hz1 (cell_of_row _ _ _ _ _ _ R1.out); have p6 : w1.cell? ⟨w.heap.size, 6, none⟩ = some (.int .i64 x.z.t.w) := vcell_below hb1 hz0 (cell_of_row _ _ _ _ _ _ R0.out); have r6 : w1.cell? ⟨w.heap.size + 1, 6, none⟩ = some (.int .i64 x.z.t.w) := vcell_below hb1 hz1 (cell_of_row _ _ _ _ _ _ R1.out); have p7 : w1.cell? ⟨w.heap.size, 7, none⟩ = some (.int .i64 x.z.t.d) := vcell_below hb1 hz0 (cell_of_row _ _ _ _ _ _ R0.out); have r7 : w1.cell? ⟨w.heap.size + 1, 7, none⟩ = some (.int .i64 x.z.t.d) := vcell_below hb1 hz1 (cell_of_row _ _ _ _ _ _ R1.out); have p8 : w1.cell? ⟨w.heap.size, 8, none⟩ = some (.int .i64 x.z.t.h) := vcell_below hb1 hz0 (cell_of_row _ _ _ _ _ _ R0.out); have r8 : w1.cell? ⟨w.heap.size + 1, 8, none⟩ = some (.int .i64 x.z.t.h) := vcell_below hb1 hz1 (cell_of_row _ _ _ _ _ _ R1.out)))
  have B2 := below_then hb1 hb2
  clear e0 hb1 hb2 p0 r0 p1 r1 p2 r2 p3 r3 p4 r4 p5 r5 p6 r6 p7 r7 p8 r8
  go_wp2_with fail
  go_loopw [5] (fun p wi => ∃ k : Nat, p = .int .i64 k ∧ k ≤ 4 ∧ Below W0.heap.size W0 wi) (fun p _ => 4 - (intOf p).toNat)
  case atStart => exact ⟨0, rfl, by omega, B2⟩
  case round =>
    clear B2
    obtain ⟨k, rfl, hk, hb⟩ := hrel
    by_cases hlt : k < 4
    · have hlt' : (k : Int) < 4 := by omega
      have hk0 : (0 : Int) ≤ (k : Int) := by omega
      rcases (by omega : k = 0 ∨ k = 1 ∨ k = 2 ∨ k = 3) with rfl | rfl | rfl | rfl
      · have p13 : wr.cell? ⟨w.heap.size, 13, none⟩ = some (.string x.h0) := vcell_below hb hz0 (cell_of_row _ _ _ _ _ _ R0.out)
        have r13 : wr.cell? ⟨w.heap.size + 1, 13, none⟩ = some (.string x.h0) := vcell_below hb hz1 (cell_of_row _ _ _ _ _ _ R1.out)
        go_wp2_with fail
        go_quiet (fail)
        go_wp2_with fail
        go_roundw
        case rel => exact ⟨1, by first | rfl | go_num, by omega, by first | exact below_drewN hb _ | exact Below.drew hb⟩
        case measure => simp [intOf]
      · have p14 : wr.cell? ⟨w.heap.size, 14, none⟩ = some (.string x.h1) := vcell_below hb hz0 (cell_of_row _ _ _ _ _ _ R0.out)
        have r14 : wr.cell? ⟨w.heap.size + 1, 14, none⟩ = some (.string x.h1) := vcell_below hb hz1 (cell_of_row _ _ _ _ _ _ R1.out)
        go_wp2_with fail
        go_quiet (fail)
        go_wp2_with fail
        go_roundw
        case rel => exact ⟨2, by first | rfl | go_num, by omega, by first | exact below_drewN hb _ | exact Below.drew hb⟩
        case measure => simp [intOf]
      · have p15 : wr.cell? ⟨w.heap.size, 15, none⟩ = some (.string x.h2) := vcell_below hb hz0 (cell_of_row _ _ _ _ _ _ R0.out)
        have r15 : wr.cell? ⟨w.heap.size + 1, 15, none⟩ = some (.string x.h2) := vcell_below hb hz1 (cell_of_row _ _ _ _ _ _ R1.out)
        go_wp2_with fail
        go_quiet (fail)
        go_wp2_with fail
        go_roundw
        case rel => exact ⟨3, by first | rfl | go_num, by omega, by first | exact below_drewN hb _ | exact Below.drew hb⟩
        case measure => simp [intOf]
      · have p16 : wr.cell? ⟨w.heap.size, 16, none⟩ = some (.string x.h3) := vcell_below hb hz0 (cell_of_row _ _ _ _ _ _ R0.out)
        have r16 : wr.cell? ⟨w.heap.size + 1, 16, none⟩ = some (.string x.h3) := vcell_below hb hz1 (cell_of_row _ _ _ _ _ _ R1.out)
        go_wp2_with fail
        go_quiet (fail)
        go_wp2_with fail
        go_roundw
        case rel => exact ⟨4, by first | rfl | go_num, by omega, by first | exact below_drewN hb _ | exact Below.drew hb⟩
        case measure => simp [intOf]
    · have hk4 : k = 4 := by omega
      subst hk4
      go_wp2_with fail
      go_loopw [6] (fun p wi => ∃ k : Nat, p = .int .i64 k ∧ k ≤ 3 ∧ Below W0.heap.size W0 wi) (fun p _ => 3 - (intOf p).toNat)
      case atStart => exact ⟨0, rfl, by omega, hb⟩
      case round =>
        clear hb hlt hk
        obtain ⟨k, rfl, hk, hb⟩ := hrel
        by_cases hlt : k < 3
        · have hlt' : (k : Int) < 3 := by omega
          have hk0 : (0 : Int) ≤ (k : Int) := by omega
          rcases (by omega : k = 0 ∨ k = 1 ∨ k = 2) with rfl | rfl | rfl
          · have p17 : wr.cell? ⟨w.heap.size, 17, none⟩ = some (.int .i64 x.b0.x) := vcell_below hb hz0 (cell_of_row _ _ _ _ _ _ R0.out)
            have r17 : wr.cell? ⟨w.heap.size + 1, 17, none⟩ = some (.int .i64 x.b0.x) := vcell_below hb hz1 (cell_of_row _ _ _ _ _ _ R1.out)
            have p18 : wr.cell? ⟨w.heap.size, 18, none⟩ = some (.int .i64 x.b0.y) := vcell_below hb hz0 (cell_of_row _ _ _ _ _ _ R0.out)
            have r18 : wr.cell? ⟨w.heap.size + 1, 18, none⟩ = some (.int .i64 x.b0.y) := vcell_below hb hz1 (cell_of_row _ _ _ _ _ _ R1.out)
            have p19 : wr.cell? ⟨w.heap.size, 19, none⟩ = some (.int .i64 x.b0.z) := vcell_below hb hz0 (cell_of_row _ _ _ _ _ _ R0.out)
            have r19 : wr.cell? ⟨w.heap.size + 1, 19, none⟩ = some (.int .i64 x.b0.z) := vcell_below hb hz1 (cell_of_row _ _ _ _ _ _ R1.out)
            have ea : (x.b0.x != x.b0.x) = false := by simp
            have eb : (x.b0.y != x.b0.y) = false := by simp
            have ec : (x.b0.z != x.b0.z) = false := by simp
            go_wp2_with fail
            go_quiet (fail)
            go_wp2_with fail
            go_roundw
            case rel => exact ⟨1, by first | rfl | go_num, by omega, by first | exact below_drewN hb _ | exact Below.drew hb⟩
            case measure => simp [intOf]
          · have p20 : wr.cell? ⟨w.heap.size, 20, none⟩ = some (.int .i64 x.b1.x) := vcell_below hb hz0 (cell_of_row _ _ _ _ _ _ R0.out)
            have r20 : wr.cell? ⟨w.heap.size + 1, 20, none⟩ = some (.int .i64 x.b1.x) := vcell_below hb hz1 (cell_of_row _ _ _ _ _ _ R1.out)
            have p21 : wr.cell? ⟨w.heap.size, 21, none⟩ = some (.int .i64 x.b1.y) := vcell_below hb hz0 (cell_of_row _ _ _ _ _ _ R0.out)
            have r21 : wr.cell? ⟨w.heap.size + 1, 21, none⟩ = some (.int .i64 x.b1.y) := vcell_below hb hz1 (cell_of_row _ _ _ _ _ _ R1.out)
            have p22 : wr.cell? ⟨w.heap.size, 22, none⟩ = some (.int .i64 x.b1.z) := vcell_below hb hz0 (cell_of_row _ _ _ _ _ _ R0.out)
            have r22 : wr.cell? ⟨w.heap.size + 1, 22, none⟩ = some (.int .i64 x.b1.z) := vcell_below hb hz1 (cell_of_row _ _ _ _ _ _ R1.out)
            have ea : (x.b1.x != x.b1.x) = false := by simp
            have eb : (x.b1.y != x.b1.y) = false := by simp
            have ec : (x.b1.z != x.b1.z) = false := by simp
            go_wp2_with fail
            go_quiet (fail)
            go_wp2_with fail
            go_roundw
            case rel => exact ⟨2, by first | rfl | go_num, by omega, by first | exact below_drewN hb _ | exact Below.drew hb⟩
            case measure => simp [intOf]
          · have p23 : wr.cell? ⟨w.heap.size, 23, none⟩ = some (.int .i64 x.b2.x) := vcell_below hb hz0 (cell_of_row _ _ _ _ _ _ R0.out)
            have r23 : wr.cell? ⟨w.heap.size + 1, 23, none⟩ = some (.int .i64 x.b2.x) := vcell_below hb hz1 (cell_of_row _ _ _ _ _ _ R1.out)
            have p24 : wr.cell? ⟨w.heap.size, 24, none⟩ = some (.int .i64 x.b2.y) := vcell_below hb hz0 (cell_of_row _ _ _ _ _ _ R0.out)
            have r24 : wr.cell? ⟨w.heap.size + 1, 24, none⟩ = some (.int .i64 x.b2.y) := vcell_below hb hz1 (cell_of_row _ _ _ _ _ _ R1.out)
            have p25 : wr.cell? ⟨w.heap.size, 25, none⟩ = some (.int .i64 x.b2.z) := vcell_below hb hz0 (cell_of_row _ _ _ _ _ _ R0.out)
            have r25 : wr.cell? ⟨w.heap.size + 1, 25, none⟩ = some (.int .i64 x.b2.z) := vcell_below hb hz1 (cell_of_row _ _ _ _ _ _ R1.out)
            have ea : (x.b2.x != x.b2.x) = false := by simp
            have eb : (x.b2.y != x.b2.y) = false := by simp
            have ec : (x.b2.z != x.b2.z) = false := by simp
            go_wp2_with fail
            go_quiet (fail)
            go_wp2_with fail
            go_roundw
            case rel => exact ⟨3, by first | rfl | go_num, by omega, by first | exact below_drewN hb _ | exact Below.drew hb⟩
            case measure => simp [intOf]
        · have hk3 : k = 3 := by omega
          subst hk3
          have p26 : wr.cell? ⟨w.heap.size, 26, none⟩ = some (.int .i64 x.d.x) := vcell_below hb hz0 (cell_of_row _ _ _ _ _ _ R0.out)
          have r26 : wr.cell? ⟨w.heap.size + 1, 26, none⟩ = some (.int .i64 x.d.x) := vcell_below hb hz1 (cell_of_row _ _ _ _ _ _ R1.out)
          have p27 : wr.cell? ⟨w.heap.size, 27, none⟩ = some (.int .i64 x.d.y) := vcell_below hb hz0 (cell_of_row _ _ _ _ _ _ R0.out)
          have r27 : wr.cell? ⟨w.heap.size + 1, 27, none⟩ = some (.int .i64 x.d.y) := vcell_below hb hz1 (cell_of_row _ _ _ _ _ _ R1.out)
          have p28 : wr.cell? ⟨w.heap.size, 28, none⟩ = some (.int .i64 x.d.z) := vcell_below hb hz0 (cell_of_row _ _ _ _ _ _ R0.out)
          have r28 : wr.cell? ⟨w.heap.size + 1, 28, none⟩ = some (.int .i64 x.d.z) := vcell_below hb hz1 (cell_of_row _ _ _ _ _ _ R1.out)
          have p29 : wr.cell? ⟨w.heap.size, 29, none⟩ = some (.int .i64 x.np) := vcell_below hb hz0 (cell_of_row _ _ _ _ _ _ R0.out)
          have r29 : wr.cell? ⟨w.heap.size + 1, 29, none⟩ = some (.int .i64 x.np) := vcell_below hb hz1 (cell_of_row _ _ _ _ _ _ R1.out)
          have p30 : wr.cell? ⟨w.heap.size, 30, none⟩ = some (.int .i64 x.nn) := vcell_below hb hz0 (cell_of_row _ _ _ _ _ _ R0.out)
          have r30 : wr.cell? ⟨w.heap.size + 1, 30, none⟩ = some (.int .i64 x.nn) := vcell_below hb hz1 (cell_of_row _ _ _ _ _ _ R1.out)
          have p9 : wr.cell? ⟨w.heap.size, 9, none⟩ = some (.int .i64 x.days) := vcell_below hb hz0 (cell_of_row _ _ _ _ _ _ R0.out)
          have r9 : wr.cell? ⟨w.heap.size + 1, 9, none⟩ = some (.int .i64 x.days) := vcell_below hb hz1 (cell_of_row _ _ _ _ _ _ R1.out)
          have p10 : wr.cell? ⟨w.heap.size, 10, none⟩ = some (.int .i64 x.gap) := vcell_below hb hz0 (cell_of_row _ _ _ _ _ _ R0.out)
          have r10 : wr.cell? ⟨w.heap.size + 1, 10, none⟩ = some (.int .i64 x.gap) := vcell_below hb hz1 (cell_of_row _ _ _ _ _ _ R1.out)
          have p11 : wr.cell? ⟨w.heap.size, 11, none⟩ = some (.int .i64 x.first) := vcell_below hb hz0 (cell_of_row _ _ _ _ _ _ R0.out)
          have r11 : wr.cell? ⟨w.heap.size + 1, 11, none⟩ = some (.int .i64 x.first) := vcell_below hb hz1 (cell_of_row _ _ _ _ _ _ R1.out)
          have p12 : wr.cell? ⟨w.heap.size, 12, none⟩ = some (.int .i64 x.last) := vcell_below hb hz0 (cell_of_row _ _ _ _ _ _ R0.out)
          have r12 : wr.cell? ⟨w.heap.size + 1, 12, none⟩ = some (.int .i64 x.last) := vcell_below hb hz1 (cell_of_row _ _ _ _ _ _ R1.out)
          have p31 : wr.cell? ⟨w.heap.size, 31, none⟩ = some (.int .i64 x.fix) := vcell_below hb hz0 (cell_of_row _ _ _ _ _ _ R0.out)
          have r31 : wr.cell? ⟨w.heap.size + 1, 31, none⟩ = some (.int .i64 x.fix) := vcell_below hb hz1 (cell_of_row _ _ _ _ _ _ R1.out)
          have p32 : wr.cell? ⟨w.heap.size, 32, none⟩ = some (.int .i64 x.min) := vcell_below hb hz0 (cell_of_row _ _ _ _ _ _ R0.out)
          have r32 : wr.cell? ⟨w.heap.size + 1, 32, none⟩ = some (.int .i64 x.min) := vcell_below hb hz1 (cell_of_row _ _ _ _ _ _ R1.out)
          have p33 : wr.cell? ⟨w.heap.size, 33, none⟩ = some (.int .i64 x.tax) := vcell_below hb hz0 (cell_of_row _ _ _ _ _ _ R0.out)
          have r33 : wr.cell? ⟨w.heap.size + 1, 33, none⟩ = some (.int .i64 x.tax) := vcell_below hb hz1 (cell_of_row _ _ _ _ _ _ R1.out)
          go_wp2_with fail
          go_ret
          exact ⟨ret_bool (by simp), below_then B0 hb⟩

theorem yields_row {P : Program} {ops : Array Oper} {S : World → Prop} {op : Oper} {a : Act} (hw : Region.wanted op (yielded ops a.tmps) = true) (ty : TypeId) (x : Operand) (ho : op.op = .load ty x)
    (g : Nat) (hx : a.eval x = .pointer (some ⟨g, 0, none⟩)) (cs : Array Value) (t : TypeId) (fr : Nat × Nat) (d : TypeDesc) (hS : ∀ w, S w → w.heap[g]? = some (.cells cs t fr))
    (hu : P.underlying ty = some d) (hd : (match d with | .struct _ | .array _ _ => true | _ => false) = true) (hi : (P.info? ty).map (·.size) = some cs.size) : YieldsIf P ops S op (.agg cs) a :=
  .inl ⟨hw, fun w hw' => by
    unfold execOp
    simp only [ho, hx, Instr.loadAt, Instr.sureAddr, Sem.run_bind, Sem.run_pure, Result.andThen_ok, run_loadVar_row w g t ty cs fr d (hS w hw') hu hd hi]⟩
theorem fine (t : ByteArray) (xp xd : Trf) (hp : xp = rdT t (hrP t)) (hd : xd = rdT t (hrD t)) (h : (Txt.fin t (sT t 13)).bad = false) : xd = xp := by
  obtain ⟨_, h2⟩ := fin_good h
  rw [hp, hd, rd_good h2]
theorem ref_any (t : ByteArray) (xp xd y : Trf) (hp : xp = rdT t (hrP t)) (hd : xd = rdT t (hrD t)) (hy : y = rtV t xp) (w : World) (hm : t.size ≤ maxLen) :
    Calls Try.prog 25 #[.string t] w fun e w' => e = .returned (.tuple #[.agg #[.int .i64 y.z.off, .int .i64 y.z.f.m, .int .i64 y.z.f.w, .int .i64 y.z.f.d, .int .i64 y.z.f.h, .int .i64 y.z.t.m, .int .i64 y.z.t.w, .int .i64 y.z.t.d, .int .i64 y.z.t.h, .int .i64 y.days, .int .i64 y.gap, .int .i64 y.first, .int .i64 y.last, .string y.h0, .string y.h1, .string y.h2, .string y.h3, .int .i64 y.b0.x, .int .i64 y.b0.y, .int .i64 y.b0.z, .int .i64 y.b1.x, .int .i64 y.b1.y, .int .i64 y.b1.z, .int .i64 y.b2.x, .int .i64 y.b2.y, .int .i64 y.b2.z, .int .i64 y.d.x, .int .i64 y.d.y, .int .i64 y.d.z, .int .i64 y.np, .int .i64 y.nn, .int .i64 y.fix, .int .i64 y.min, .int .i64 y.tax], .int .i64 (rtE t xp), .int .i64 (rtA t xp)]) ∧ Below w.heap.size w w' := by
  by_cases h8 : 8000 < t.size
  · have e1 : rtE t xp = 1 := by unfold rtE; rw [if_pos h8]
    have e2 : rtA t xp = 0 := by unfold rtA; rw [if_pos h8]
    have e3 : y = trf0 := by rw [hy]; unfold rtV; rw [e1, if_neg (by omega)]
    rw [e1, e2, e3]
    exact refReadTariff_long t w h8 hm
  · refine refReadTariff_run t xd hd w (by omega) _ _ y (fun hb => ?_) (fun hb hn => ?_) (fun hb hn => ?_)
    · have e1 : rtE t xp = 2 := by unfold rtE; rw [if_neg h8, hb, if_pos rfl]
      exact ⟨e1, by unfold rtA; rw [if_neg h8, hb, if_pos rfl], by rw [hy]; unfold rtV; rw [e1, if_neg (by omega)]⟩
    · have ex := fine t xp xd hp hd hb
      rw [ex] at hn ⊢
      have e1 : rtE t xp = 5 := by unfold rtE; rw [if_neg h8, hb, if_neg (by simp), if_pos hn]
      refine ⟨e1, ?_, by rw [hy]; unfold rtV; rw [e1, if_neg (by omega)]⟩
      unfold rtA; rw [if_neg h8, hb, if_neg (by simp), if_pos hn, lineAt_ok (fin_good hb).2 (by omega)]
    · have ex := fine t xp xd hp hd hb
      rw [ex] at hn ⊢
      have e1 : rtE t xp = 0 := by unfold rtE; rw [if_neg h8, hb, if_neg (by simp), if_neg hn]
      exact ⟨e1, by unfold rtA; rw [if_neg h8, hb, if_neg (by simp), if_neg hn], by rw [hy]; unfold rtV; rw [if_pos e1]⟩
theorem y_sizes (t : ByteArray) (xp y : Trf) (hp : xp = rdT t (hrP t)) (hy : y = rtV t xp) : y.h0.size ≤ maxLen ∧ y.h1.size ≤ maxLen ∧ y.h2.size ≤ maxLen ∧ y.h3.size ≤ maxLen := by
  rw [hy]; unfold rtV
  split
  · rw [hp]
    refine ⟨?_, ?_, ?_, ?_⟩
    · show (hrP t 3).size ≤ _; rw [hrP_size]; unfold maxLen; omega
    · show (hrP t 4).size ≤ _; rw [hrP_size]; unfold maxLen; omega
    · show (hrP t 5).size ≤ _; rw [hrP_size]; unfold maxLen; omega
    · show (hrP t 6).size ≤ _; rw [hrP_size]; unfold maxLen; omega
  · refine ⟨?_, ?_, ?_, ?_⟩ <;> (show ByteArray.empty.size ≤ _; unfold maxLen; decide)

set_option maxRecDepth 1000000 in
set_option maxHeartbeats 2000000 in
theorem walk (t : ByteArray) (ht : t.size ≤ maxLen) (w : World) :
    Calls Try.prog 8 #[.string t] w fun e w' => e = .returned (.bool true) ∧ Below w.heap.size w w' := by
  obtain ⟨xp, hp⟩ : ∃ x, x = rdT t (hrP t) := ⟨_, rfl⟩
  obtain ⟨xd, hd⟩ : ∃ x, x = rdT t (hrD t) := ⟨_, rfl⟩
  obtain ⟨y, hy⟩ : ∃ y, y = rtV t xp := ⟨_, rfl⟩
  have rp := fun W => ReadTariff_any t xp hp y hy W ht
  have rr := fun W => ref_any t xp xd y hp hd hy W ht
  obtain ⟨z0, z1, z2, z3⟩ := y_sizes t xp y hp hy
  have tf := fun W => tariff_any y W
  have sm := fun W => sameTariff_any y W z0 z1 z2 z3
  obtain ⟨E, hE⟩ : ∃ E, E = rtE t xp := ⟨_, rfl⟩
  obtain ⟨A, hA⟩ : ∃ A, A = rtA t xp := ⟨_, rfl⟩
  rw [← hE, ← hA] at rp rr
  clear hE hA hy hd hp z0 z1 z2 z3
  go_enter Try.func8, Try.ntmps8
  go_upto_region 2 with (first
    | (go_at_call 24; refine (rp _).mono ?_; rintro e w1 ⟨rfl, hb1⟩)
    | (with_reducible show wpList _ _ _ _ _ (World.alloc _ _); refine wpList_store_row rfl 70 _ _ rfl w1.heap.size #[.int .i64 y.z.off, .int .i64 y.z.f.m, .int .i64 y.z.f.w, .int .i64 y.z.f.d, .int .i64 y.z.f.h, .int .i64 y.z.t.m, .int .i64 y.z.t.w, .int .i64 y.z.t.d, .int .i64 y.z.t.h, .int .i64 y.days, .int .i64 y.gap, .int .i64 y.first, .int .i64 y.last, .string y.h0, .string y.h1, .string y.h2, .string y.h3, .int .i64 y.b0.x, .int .i64 y.b0.y, .int .i64 y.b0.z, .int .i64 y.b1.x, .int .i64 y.b1.y, .int .i64 y.b1.z, .int .i64 y.b2.x, .int .i64 y.b2.y, .int .i64 y.b2.z, .int .i64 y.d.x, .int .i64 y.d.y, .int .i64 y.d.z, .int .i64 y.np, .int .i64 y.nn, .int .i64 y.fix, .int .i64 y.min, .int .i64 y.tax] rfl rfl 70 _ (heap_alloc_new w1 _) (td_info y) (td_size y) (td_one y) ?_))
  refine wp_world (fun w2 hw2 => ?_)
  have R2 : w2.heap[w1.heap.size]? = some (.cells #[.int .i64 y.z.off, .int .i64 y.z.f.m, .int .i64 y.z.f.w, .int .i64 y.z.f.d, .int .i64 y.z.f.h, .int .i64 y.z.t.m, .int .i64 y.z.t.w, .int .i64 y.z.t.d, .int .i64 y.z.t.h, .int .i64 y.days, .int .i64 y.gap, .int .i64 y.first, .int .i64 y.last, .string y.h0, .string y.h1, .string y.h2, .string y.h3, .int .i64 y.b0.x, .int .i64 y.b0.y, .int .i64 y.b0.z, .int .i64 y.b1.x, .int .i64 y.b1.y, .int .i64 y.b1.z, .int .i64 y.b2.x, .int .i64 y.b2.y, .int .i64 y.b2.z, .int .i64 y.d.x, .int .i64 y.d.y, .int .i64 y.d.z, .int .i64 y.np, .int .i64 y.nn, .int .i64 y.fix, .int .i64 y.min, .int .i64 y.tax] 70) := by rw [hw2]; exact setRow_heap _ _ _ _ _ _ (heap_alloc_new w1 _)
  have B2 : Below w.heap.size w w2 := by rw [hw2]; exact below_setRow (below_more hb1 _) hb1.size _
  have N2 : w1.heap.size < w2.heap.size := (Array.getElem?_eq_some_iff.1 R2).1
  have M1 := hb1.size
  clear hw2 hb1 rp
  go_upto_region 3 with (first
    | (go_at_call 25; refine (rr _).mono ?_; rintro e w3 ⟨rfl, hb3⟩)
    | (with_reducible show wpList _ _ _ _ _ (World.alloc _ _); refine wpList_store_row rfl 78 _ _ rfl w3.heap.size #[.int .i64 y.z.off, .int .i64 y.z.f.m, .int .i64 y.z.f.w, .int .i64 y.z.f.d, .int .i64 y.z.f.h, .int .i64 y.z.t.m, .int .i64 y.z.t.w, .int .i64 y.z.t.d, .int .i64 y.z.t.h, .int .i64 y.days, .int .i64 y.gap, .int .i64 y.first, .int .i64 y.last, .string y.h0, .string y.h1, .string y.h2, .string y.h3, .int .i64 y.b0.x, .int .i64 y.b0.y, .int .i64 y.b0.z, .int .i64 y.b1.x, .int .i64 y.b1.y, .int .i64 y.b1.z, .int .i64 y.b2.x, .int .i64 y.b2.y, .int .i64 y.b2.z, .int .i64 y.d.x, .int .i64 y.d.y, .int .i64 y.d.z, .int .i64 y.np, .int .i64 y.nn, .int .i64 y.fix, .int .i64 y.min, .int .i64 y.tax] rfl rfl 78 _ (heap_alloc_new w3 _) (tu_info y) (td_size y) (tu_one y) ?_))
  refine wp_world (fun w4 hw4 => ?_)
  have M3 := hb3.size
  have R4 : w4.heap[w3.heap.size]? = some (.cells #[.int .i64 y.z.off, .int .i64 y.z.f.m, .int .i64 y.z.f.w, .int .i64 y.z.f.d, .int .i64 y.z.f.h, .int .i64 y.z.t.m, .int .i64 y.z.t.w, .int .i64 y.z.t.d, .int .i64 y.z.t.h, .int .i64 y.days, .int .i64 y.gap, .int .i64 y.first, .int .i64 y.last, .string y.h0, .string y.h1, .string y.h2, .string y.h3, .int .i64 y.b0.x, .int .i64 y.b0.y, .int .i64 y.b0.z, .int .i64 y.b1.x, .int .i64 y.b1.y, .int .i64 y.b1.z, .int .i64 y.b2.x, .int .i64 y.b2.y, .int .i64 y.b2.z, .int .i64 y.d.x, .int .i64 y.d.y, .int .i64 y.d.z, .int .i64 y.np, .int .i64 y.nn, .int .i64 y.fix, .int .i64 y.min, .int .i64 y.tax] 78) := by rw [hw4]; exact setRow_heap _ _ _ _ _ _ (heap_alloc_new w3 _)
  have Q4 : w4.heap[w1.heap.size]? = some (.cells #[.int .i64 y.z.off, .int .i64 y.z.f.m, .int .i64 y.z.f.w, .int .i64 y.z.f.d, .int .i64 y.z.f.h, .int .i64 y.z.t.m, .int .i64 y.z.t.w, .int .i64 y.z.t.d, .int .i64 y.z.t.h, .int .i64 y.days, .int .i64 y.gap, .int .i64 y.first, .int .i64 y.last, .string y.h0, .string y.h1, .string y.h2, .string y.h3, .int .i64 y.b0.x, .int .i64 y.b0.y, .int .i64 y.b0.z, .int .i64 y.b1.x, .int .i64 y.b1.y, .int .i64 y.b1.z, .int .i64 y.b2.x, .int .i64 y.b2.y, .int .i64 y.b2.z, .int .i64 y.d.x, .int .i64 y.d.y, .int .i64 y.d.z, .int .i64 y.np, .int .i64 y.nn, .int .i64 y.fix, .int .i64 y.min, .int .i64 y.tax] 70) := by rw [hw4]; exact (setRow_other _ _ _ _ (by omega)).trans ((heap_alloc_old _ _ (by omega)).trans ((hb3.block _ N2).trans R2))
  have B4 : Below w.heap.size w w4 := by rw [hw4]; exact below_setRow (below_more (below_then B2 hb3) _) (by omega) _
  have N4 : w3.heap.size < w4.heap.size := (Array.getElem?_eq_some_iff.1 R4).1
  clear hw4 hb3 rr R2 B2
  refine wp_region_held_drew (S := fun w' => w'.heap[w1.heap.size]? = some (.cells #[.int .i64 y.z.off, .int .i64 y.z.f.m, .int .i64 y.z.f.w, .int .i64 y.z.f.d, .int .i64 y.z.f.h, .int .i64 y.z.t.m, .int .i64 y.z.t.w, .int .i64 y.z.t.d, .int .i64 y.z.t.h, .int .i64 y.days, .int .i64 y.gap, .int .i64 y.first, .int .i64 y.last, .string y.h0, .string y.h1, .string y.h2, .string y.h3, .int .i64 y.b0.x, .int .i64 y.b0.y, .int .i64 y.b0.z, .int .i64 y.b1.x, .int .i64 y.b1.y, .int .i64 y.b1.z, .int .i64 y.b2.x, .int .i64 y.b2.y, .int .i64 y.b2.z, .int .i64 y.d.x, .int .i64 y.d.y, .int .i64 y.d.z, .int .i64 y.np, .int .i64 y.nn, .int .i64 y.fix, .int .i64 y.min, .int .i64 y.tax] 70 (0, 0)) ∧ w'.heap[w3.heap.size]? = some (.cells #[.int .i64 y.z.off, .int .i64 y.z.f.m, .int .i64 y.z.f.w, .int .i64 y.z.f.d, .int .i64 y.z.f.h, .int .i64 y.z.t.m, .int .i64 y.z.t.w, .int .i64 y.z.t.d, .int .i64 y.z.t.h, .int .i64 y.days, .int .i64 y.gap, .int .i64 y.first, .int .i64 y.last, .string y.h0, .string y.h1, .string y.h2, .string y.h3, .int .i64 y.b0.x, .int .i64 y.b0.y, .int .i64 y.b0.z, .int .i64 y.b1.x, .int .i64 y.b1.y, .int .i64 y.b1.z, .int .i64 y.b2.x, .int .i64 y.b2.y, .int .i64 y.b2.z, .int .i64 y.d.x, .int .i64 y.d.y, .int .i64 y.d.z, .int .i64 y.np, .int .i64 y.nn, .int .i64 y.fix, .int .i64 y.min, .int .i64 y.tax] 78 (0, 0))) (by kernel_rfl) ⟨Q4, R4⟩ (fun hH0 => ?_)
  refine wpAnyH_take (i := 0) (oi := { dst := some 21, op := Go.Op.load 70 (Go.Operand.tmp 3), type := 70, pos := "law.go:46", after := #[], guard := none }) (v := .agg #[.int .i64 y.z.off, .int .i64 y.z.f.m, .int .i64 y.z.f.w, .int .i64 y.z.f.d, .int .i64 y.z.f.h, .int .i64 y.z.t.m, .int .i64 y.z.t.w, .int .i64 y.z.t.d, .int .i64 y.z.t.h, .int .i64 y.days, .int .i64 y.gap, .int .i64 y.first, .int .i64 y.last, .string y.h0, .string y.h1, .string y.h2, .string y.h3, .int .i64 y.b0.x, .int .i64 y.b0.y, .int .i64 y.b0.z, .int .i64 y.b1.x, .int .i64 y.b1.y, .int .i64 y.b1.z, .int .i64 y.b2.x, .int .i64 y.b2.y, .int .i64 y.b2.z, .int .i64 y.d.x, .int .i64 y.d.y, .int .i64 y.d.z, .int .i64 y.np, .int .i64 y.nn, .int .i64 y.fix, .int .i64 y.min, .int .i64 y.tax]) rfl (by kernel_rfl) (by kernel_rfl) (by kernel_rfl) (fun _ _ _ h => h) (yields_row (by rfl) 70 _ rfl w1.heap.size rfl _ 70 (0, 0) _ (fun w9 hSw => hSw.1) Try.underlying70 rfl (by kernel_rfl)) (by assumption) ?_
  try simp only [Act.put, List.setIfInBounds_toArray, List.set_cons_zero, List.set_cons_succ]
  refine wpAnyH_take (i := 2) (oi := { dst := some 23, op := Go.Op.load 78 (Go.Operand.tmp 6), type := 78, pos := "law.go:46", after := #[], guard := none }) (v := .agg #[.int .i64 y.z.off, .int .i64 y.z.f.m, .int .i64 y.z.f.w, .int .i64 y.z.f.d, .int .i64 y.z.f.h, .int .i64 y.z.t.m, .int .i64 y.z.t.w, .int .i64 y.z.t.d, .int .i64 y.z.t.h, .int .i64 y.days, .int .i64 y.gap, .int .i64 y.first, .int .i64 y.last, .string y.h0, .string y.h1, .string y.h2, .string y.h3, .int .i64 y.b0.x, .int .i64 y.b0.y, .int .i64 y.b0.z, .int .i64 y.b1.x, .int .i64 y.b1.y, .int .i64 y.b1.z, .int .i64 y.b2.x, .int .i64 y.b2.y, .int .i64 y.b2.z, .int .i64 y.d.x, .int .i64 y.d.y, .int .i64 y.d.z, .int .i64 y.np, .int .i64 y.nn, .int .i64 y.fix, .int .i64 y.min, .int .i64 y.tax]) rfl (by kernel_rfl) (by kernel_rfl) (by kernel_rfl) (fun _ _ _ h => h) (yields_row (by rfl) 78 _ rfl w3.heap.size rfl _ 78 (0, 0) _ (fun w9 hSw => hSw.2) Try.underlying78 rfl (by kernel_rfl)) (by assumption) ?_
  try simp only [Act.put, List.setIfInBounds_toArray, List.set_cons_zero, List.set_cons_succ]
  refine wpAnyH_ready (rs := [1]) (by kernel_rfl) (by simp) ?_
  refine AllReadyH.cons (o := { dst := some 22, op := Go.Op.call { callee := Go.Callee.value (Go.Operand.func 27), args := #[Go.Operand.tmp 21], argTypes := #[70] }, type := 78, pos := "law.go:46", after := #[{ on := 0, ground := Go.Ground.data }], guard := none }) rfl (fun K hK => ?_) AllReadyH.nil
  go_simp
  refine (tf _).mono ?_
  rintro e w5 ⟨rfl, hb5'⟩
  have hb5 : Below w4.heap.size w4 w5 := below_then (Below.drew (Below.refl _ _)) hb5'
  clear hb5'
  go_wp2_with fail
  refine hK.out _ _ ⟨(hb5.block _ (by omega)).trans Q4, (hb5.block _ (by omega)).trans R4⟩ (fun hH1 => ?_)
  clear hK K
  try simp only [Act.put, List.setIfInBounds_toArray, List.set_cons_zero, List.set_cons_succ]
  refine wpAnyH_ready (rs := [3]) (by kernel_rfl) (by simp) ?_
  refine AllReadyH.cons (o := { dst := some 24, op := Go.Op.call { callee := Go.Callee.value (Go.Operand.func 26), args := #[Go.Operand.tmp 22, Go.Operand.tmp 23], argTypes := #[78, 78] }, type := 4, pos := "law.go:46", after := #[{ on := 1, ground := Go.Ground.data }, { on := 2, ground := Go.Ground.data }, { on := 1, ground := Go.Ground.chain }], guard := none }) rfl (fun K hK => ?_) AllReadyH.nil
  go_simp
  refine (sm _).mono ?_
  rintro e w6 ⟨rfl, hb6⟩
  have M5 := hb5.size
  go_wp2_with fail
  refine hK.out _ _ ⟨(hb6.block _ (by omega)).trans hH1.1, (hb6.block _ (by omega)).trans hH1.2⟩ (fun hH2 => ?_)
  clear hK K
  try simp only [Act.put, List.setIfInBounds_toArray, List.set_cons_zero, List.set_cons_succ]
  refine wpAnyH_take (i := 4) (oi := { dst := some 25, op := Go.Op.move (Go.Operand.tmp 24), type := 4, pos := "law.go:46", after := #[{ on := 3, ground := Go.Ground.data }, { on := 3, ground := Go.Ground.chain }], guard := none }) (v := .bool true) rfl (by kernel_rfl) (by kernel_rfl) (by kernel_rfl) (fun _ _ _ h => h) (Or.inl ⟨by rfl, ?_⟩) (by assumption) ?_
  · intro w9 hSw
    go_simp
  try simp only [Act.put, List.setIfInBounds_toArray, List.set_cons_zero, List.set_cons_succ]
  refine wpAnyH_take (i := 5) (oi := { dst := some 26, op := Go.Op.move (Go.Operand.tmp 4), type := 22, pos := "law.go:46", after := #[{ on := 4, ground := Go.Ground.guard }], guard := some (4, true) }) (v := .int .i64 E) rfl (by kernel_rfl) (by kernel_rfl) (by kernel_rfl) (fun _ _ _ h => h) (Or.inl ⟨by rfl, ?_⟩) (by assumption) ?_
  · intro w9 hSw
    go_simp
  try simp only [Act.put, List.setIfInBounds_toArray, List.set_cons_zero, List.set_cons_succ]
  refine wpAnyH_take (i := 7) (oi := { dst := some 28, op := Go.Op.move (Go.Operand.tmp 7), type := 3, pos := "law.go:46", after := #[{ on := 4, ground := Go.Ground.guard }], guard := some (4, true) }) (v := .int .i64 E) rfl (by kernel_rfl) (by kernel_rfl) (by kernel_rfl) (fun _ _ _ h => h) (Or.inl ⟨by rfl, ?_⟩) (by assumption) ?_
  · intro w9 hSw
    go_simp
  try simp only [Act.put, List.setIfInBounds_toArray, List.set_cons_zero, List.set_cons_succ]
  refine wpAnyH_ready (rs := [6]) (by kernel_rfl) (by simp) ?_
  refine AllReadyH.cons (o := { dst := some 27, op := Go.Op.call { callee := Go.Callee.value (Go.Operand.func 15), args := #[Go.Operand.tmp 26], argTypes := #[22] }, type := 3, pos := "law.go:46", after := #[{ on := 5, ground := Go.Ground.data }, { on := 4, ground := Go.Ground.chain }, { on := 4, ground := Go.Ground.guard }], guard := some (4, true) }) rfl (fun K hK => ?_) AllReadyH.nil
  go_simp
  refine (num_any _ _).mono ?_
  rintro e w7 ⟨rfl, h7⟩
  have h8 := h7.symm
  subst h8
  go_wp2_with fail
  refine hK.out _ _ hH2 (fun hH3 => ?_)
  clear hK K
  try simp only [Act.put, List.setIfInBounds_toArray, List.set_cons_zero, List.set_cons_succ]
  refine wpAnyH_take (i := 8) (oi := { dst := some 29, op := Go.Op.binOp Go.BinOp.eql 3 (Go.Operand.tmp 27) (Go.Operand.tmp 28) 3, type := 4, pos := "law.go:46", after := #[{ on := 6, ground := Go.Ground.data }, { on := 7, ground := Go.Ground.data }, { on := 4, ground := Go.Ground.guard }], guard := some (4, true) }) (v := .bool true) rfl (by kernel_rfl) (by kernel_rfl) (by kernel_rfl) (fun _ _ _ h => h) (Or.inl ⟨by rfl, ?_⟩) (by assumption) ?_
  · intro w9 hSw
    go_simp
  try simp only [Act.put, List.setIfInBounds_toArray, List.set_cons_zero, List.set_cons_succ]
  refine wpAnyH_take (i := 9) (oi := { dst := some 30, op := Go.Op.pick (Go.Operand.tmp 25) (Go.Operand.tmp 29) (Go.Operand.const (Go.Value.bool false)), type := 4, pos := "law.go:46", after := #[{ on := 4, ground := Go.Ground.data }, { on := 8, ground := Go.Ground.data }], guard := none }) (v := .bool true) rfl (by kernel_rfl) (by kernel_rfl) (by kernel_rfl) (fun _ _ _ h => h) (Or.inl ⟨by rfl, ?_⟩) (by assumption) ?_
  · intro w9 hSw
    go_simp
  try simp only [Act.put, List.setIfInBounds_toArray, List.set_cons_zero, List.set_cons_succ]
  refine wpAnyH_take (i := 10) (oi := { dst := some 31, op := Go.Op.move (Go.Operand.tmp 30), type := 4, pos := "law.go:46", after := #[{ on := 9, ground := Go.Ground.data }, { on := 6, ground := Go.Ground.chain }], guard := none }) (v := .bool true) rfl (by kernel_rfl) (by kernel_rfl) (by kernel_rfl) (fun _ _ _ h => h) (Or.inl ⟨by rfl, ?_⟩) (by assumption) ?_
  · intro w9 hSw
    go_simp
  try simp only [Act.put, List.setIfInBounds_toArray, List.set_cons_zero, List.set_cons_succ]
  refine wpAnyH_take (i := 11) (oi := { dst := some 32, op := Go.Op.move (Go.Operand.tmp 5), type := 3, pos := "law.go:46", after := #[{ on := 10, ground := Go.Ground.guard }], guard := some (10, true) }) (v := .int .i64 A) rfl (by kernel_rfl) (by kernel_rfl) (by kernel_rfl) (fun _ _ _ h => h) (Or.inl ⟨by rfl, ?_⟩) (by assumption) ?_
  · intro w9 hSw
    go_simp
  try simp only [Act.put, List.setIfInBounds_toArray, List.set_cons_zero, List.set_cons_succ]
  refine wpAnyH_take (i := 12) (oi := { dst := some 33, op := Go.Op.move (Go.Operand.tmp 8), type := 3, pos := "law.go:46", after := #[{ on := 10, ground := Go.Ground.guard }], guard := some (10, true) }) (v := .int .i64 A) rfl (by kernel_rfl) (by kernel_rfl) (by kernel_rfl) (fun _ _ _ h => h) (Or.inl ⟨by rfl, ?_⟩) (by assumption) ?_
  · intro w9 hSw
    go_simp
  try simp only [Act.put, List.setIfInBounds_toArray, List.set_cons_zero, List.set_cons_succ]
  refine wpAnyH_take (i := 13) (oi := { dst := some 34, op := Go.Op.binOp Go.BinOp.eql 3 (Go.Operand.tmp 32) (Go.Operand.tmp 33) 3, type := 4, pos := "law.go:46", after := #[{ on := 11, ground := Go.Ground.data }, { on := 12, ground := Go.Ground.data }, { on := 10, ground := Go.Ground.guard }], guard := some (10, true) }) (v := .bool true) rfl (by kernel_rfl) (by kernel_rfl) (by kernel_rfl) (fun _ _ _ h => h) (Or.inl ⟨by rfl, ?_⟩) (by assumption) ?_
  · intro w9 hSw
    go_simp
  try simp only [Act.put, List.setIfInBounds_toArray, List.set_cons_zero, List.set_cons_succ]
  refine wpAnyH_take (i := 14) (oi := { dst := some 35, op := Go.Op.pick (Go.Operand.tmp 31) (Go.Operand.tmp 34) (Go.Operand.const (Go.Value.bool false)), type := 4, pos := "law.go:46", after := #[{ on := 10, ground := Go.Ground.data }, { on := 13, ground := Go.Ground.data }], guard := none }) (v := .bool true) rfl (by kernel_rfl) (by kernel_rfl) (by kernel_rfl) (fun _ _ _ h => h) (Or.inl ⟨by rfl, ?_⟩) (by assumption) ?_
  · intro w9 hSw
    go_simp
  try simp only [Act.put, List.setIfInBounds_toArray, List.set_cons_zero, List.set_cons_succ]
  refine wpAnyH_take (i := 15) (oi := { dst := some 2, op := Go.Op.assign (Go.Operand.tmp 35), type := 4, pos := "law.go:46", after := #[{ on := 14, ground := Go.Ground.data }, { on := 10, ground := Go.Ground.chain }, { on := 0, ground := Go.Ground.phase }, { on := 1, ground := Go.Ground.phase }, { on := 2, ground := Go.Ground.phase }, { on := 3, ground := Go.Ground.phase }, { on := 4, ground := Go.Ground.phase }, { on := 5, ground := Go.Ground.phase }, { on := 6, ground := Go.Ground.phase }, { on := 7, ground := Go.Ground.phase }, { on := 8, ground := Go.Ground.phase }, { on := 9, ground := Go.Ground.phase }, { on := 10, ground := Go.Ground.phase }, { on := 11, ground := Go.Ground.phase }, { on := 12, ground := Go.Ground.phase }, { on := 13, ground := Go.Ground.phase }, { on := 14, ground := Go.Ground.phase }], guard := none }) (v := .bool true) rfl (by kernel_rfl) (by kernel_rfl) (by kernel_rfl) (fun _ _ _ h => h) (Or.inl ⟨by rfl, ?_⟩) (by assumption) ?_
  · intro w9 hSw
    go_simp
  try simp only [Act.put, List.setIfInBounds_toArray, List.set_cons_zero, List.set_cons_succ]
  refine wpAnyH_done (by kernel_rfl) ?_ _
  go_wp2_with fail
  go_ret
  exact ⟨rfl, below_then (below_then B4 hb5) hb6⟩
end Go.Proofs.Ytjaffmmocbplaaa.tariffs
