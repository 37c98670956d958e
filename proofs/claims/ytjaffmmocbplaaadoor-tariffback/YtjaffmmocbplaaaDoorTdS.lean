/-
  Tariffs: whether two tariffs are the same; the law (made by tools/gentds.py).
-/
import Derived.Test.YtjaffmmocbplaaaDoorTdQ
import Derived.Test.YtjaffmmocbplaaaDoorTarD
namespace Go.Proofs.YtjaffmmocbplaaaDoor.tariffs
open Go.RowKit
set_option linter.unusedVariables false
attribute [local go_sem ↓] Go.wp_at_zero Go.wp_at_succ

theorem sameRule_any (r : Zon.Rul) (w : World) :
    Calls Tryd.prog 50 #[.agg #[.int .i64 r.m, .int .i64 r.w, .int .i64 r.d, .int .i64 r.h], .agg #[.int .i64 r.m, .int .i64 r.w, .int .i64 r.d, .int .i64 r.h]] w fun e w' => e = .returned (.bool true) ∧ Below w.heap.size w w' := by
  go_enter Tryd.func50, Tryd.ntmps50
  go_wp2_with fail
  go_ret
  exact ⟨ret_bool (by simp), below_more (below_more (Below.refl _ _) _) _⟩

set_option maxRecDepth 1000000 in
set_option maxHeartbeats 2000000 in
theorem sameTariff_any (x : Trf) (w : World) (s0 : x.h0.size ≤ maxLen) (s1 : x.h1.size ≤ maxLen) (s2 : x.h2.size ≤ maxLen) (s3 : x.h3.size ≤ maxLen) :
    Calls Tryd.prog 19 #[.agg #[.int .i64 x.z.off, .int .i64 x.z.f.m, .int .i64 x.z.f.w, .int .i64 x.z.f.d, .int .i64 x.z.f.h, .int .i64 x.z.t.m, .int .i64 x.z.t.w, .int .i64 x.z.t.d, .int .i64 x.z.t.h, .int .i64 x.days, .int .i64 x.gap, .int .i64 x.first, .int .i64 x.last, .string x.h0, .string x.h1, .string x.h2, .string x.h3, .int .i64 x.b0.x, .int .i64 x.b0.y, .int .i64 x.b0.z, .int .i64 x.b1.x, .int .i64 x.b1.y, .int .i64 x.b1.z, .int .i64 x.b2.x, .int .i64 x.b2.y, .int .i64 x.b2.z, .int .i64 x.d.x, .int .i64 x.d.y, .int .i64 x.d.z, .int .i64 x.np, .int .i64 x.nn, .int .i64 x.fix, .int .i64 x.min, .int .i64 x.tax], .agg #[.int .i64 x.z.off, .int .i64 x.z.f.m, .int .i64 x.z.f.w, .int .i64 x.z.f.d, .int .i64 x.z.f.h, .int .i64 x.z.t.m, .int .i64 x.z.t.w, .int .i64 x.z.t.d, .int .i64 x.z.t.h, .int .i64 x.days, .int .i64 x.gap, .int .i64 x.first, .int .i64 x.last, .string x.h0, .string x.h1, .string x.h2, .string x.h3, .int .i64 x.b0.x, .int .i64 x.b0.y, .int .i64 x.b0.z, .int .i64 x.b1.x, .int .i64 x.b1.y, .int .i64 x.b1.z, .int .i64 x.b2.x, .int .i64 x.b2.y, .int .i64 x.b2.z, .int .i64 x.d.x, .int .i64 x.d.y, .int .i64 x.d.z, .int .i64 x.np, .int .i64 x.nn, .int .i64 x.fix, .int .i64 x.min, .int .i64 x.tax]] w fun e w' => e = .returned (.bool true) ∧ Below w.heap.size w w' := by
  go_enter Tryd.func19, Tryd.ntmps19
  go_upto_region 1 with fail
  refine wp_world (fun W0 hW0 => ?_)
  have R0 := hideD (show W0.heap[w.heap.size]? = some (.cells #[.int .i64 x.z.off, .int .i64 x.z.f.m, .int .i64 x.z.f.w, .int .i64 x.z.f.d, .int .i64 x.z.f.h, .int .i64 x.z.t.m, .int .i64 x.z.t.w, .int .i64 x.z.t.d, .int .i64 x.z.t.h, .int .i64 x.days, .int .i64 x.gap, .int .i64 x.first, .int .i64 x.last, .string x.h0, .string x.h1, .string x.h2, .string x.h3, .int .i64 x.b0.x, .int .i64 x.b0.y, .int .i64 x.b0.z, .int .i64 x.b1.x, .int .i64 x.b1.y, .int .i64 x.b1.z, .int .i64 x.b2.x, .int .i64 x.b2.y, .int .i64 x.b2.z, .int .i64 x.d.x, .int .i64 x.d.y, .int .i64 x.d.z, .int .i64 x.np, .int .i64 x.nn, .int .i64 x.fix, .int .i64 x.min, .int .i64 x.tax] 55) by rw [hW0]; exact (heap_alloc_old _ _ (by simp)).trans (heap_alloc_new _ _))
  have R1 := hideD (show W0.heap[w.heap.size + 1]? = some (.cells #[.int .i64 x.z.off, .int .i64 x.z.f.m, .int .i64 x.z.f.w, .int .i64 x.z.f.d, .int .i64 x.z.f.h, .int .i64 x.z.t.m, .int .i64 x.z.t.w, .int .i64 x.z.t.d, .int .i64 x.z.t.h, .int .i64 x.days, .int .i64 x.gap, .int .i64 x.first, .int .i64 x.last, .string x.h0, .string x.h1, .string x.h2, .string x.h3, .int .i64 x.b0.x, .int .i64 x.b0.y, .int .i64 x.b0.z, .int .i64 x.b1.x, .int .i64 x.b1.y, .int .i64 x.b1.z, .int .i64 x.b2.x, .int .i64 x.b2.y, .int .i64 x.b2.z, .int .i64 x.d.x, .int .i64 x.d.y, .int .i64 x.d.z, .int .i64 x.np, .int .i64 x.nn, .int .i64 x.fix, .int .i64 x.min, .int .i64 x.tax] 55) by rw [hW0]; exact heap_alloc2_new _ _ _)
  have B0 : Below w.heap.size w W0 := by rw [hW0]; exact below_more (below_more (Below.refl _ _) _) _
  have zz : W0.heap.size = w.heap.size + 2 := by rw [hW0]; simp
  have hz0 : w.heap.size < W0.heap.size := by omega
  have hz1 : w.heap.size + 1 < W0.heap.size := by omega
  clear hW0 zz
  have p0 : W0.cell? ⟨w.heap.size, 0, none⟩ = some (.int .i64 x.z.off) := cell_of_row _ _ _ _ _ _ R0.out
  have r0 : W0.cell? ⟨w.heap.size + 1, 0, none⟩ = some (.int .i64 x.z.off) := cell_of_row _ _ _ _ _ _ R1.out
  have p1 : W0.cell? ⟨w.heap.size, 1, none⟩ = some (.int .i64 x.z.f.m) := cell_of_row _ _ _ _ _ _ R0.out
  have r1 : W0.cell? ⟨w.heap.size + 1, 1, none⟩ = some (.int .i64 x.z.f.m) := cell_of_row _ _ _ _ _ _ R1.out
  have p2 : W0.cell? ⟨w.heap.size, 2, none⟩ = some (.int .i64 x.z.f.w) := cell_of_row _ _ _ _ _ _ R0.out
  have r2 : W0.cell? ⟨w.heap.size + 1, 2, none⟩ = some (.int .i64 x.z.f.w) := cell_of_row _ _ _ _ _ _ R1.out
  have p3 : W0.cell? ⟨w.heap.size, 3, none⟩ = some (.int .i64 x.z.f.d) := cell_of_row _ _ _ _ _ _ R0.out
  have r3 : W0.cell? ⟨w.heap.size + 1, 3, none⟩ = some (.int .i64 x.z.f.d) := cell_of_row _ _ _ _ _ _ R1.out
  have p4 : W0.cell? ⟨w.heap.size, 4, none⟩ = some (.int .i64 x.z.f.h) := cell_of_row _ _ _ _ _ _ R0.out
  have r4 : W0.cell? ⟨w.heap.size + 1, 4, none⟩ = some (.int .i64 x.z.f.h) := cell_of_row _ _ _ _ _ _ R1.out
  have e0 : (x.z.off != x.z.off) = false := by simp
  go_upto_region 3 with (first
    | (go_at_call 50; have _ := hb1; refine (sameRule_any x.z.t _).mono ?_; rintro e w2 ⟨rfl, hb2⟩)
    | (go_at_call 50; refine (sameRule_any x.z.f _).mono ?_; rintro e w1 ⟨rfl, hb1⟩; have p5 : w1.cell? ⟨w.heap.size, 5, none⟩ = some (.int .i64 x.z.t.m) := vcell_below hb1 hz0 (cell_of_row _ _ _ _ _ _ R0.out); have r5 : w1.cell? ⟨w.heap.size + 1, 5, none⟩ = some (.int .i64 x.z.t.m) := vcell_below hb1 hz1 (cell_of_row _ _ _ _ _ _ R1.out); have p6 : w1.cell? ⟨w.heap.size, 6, none⟩ = some (.int .i64 x.z.t.w) := vcell_below hb1 hz0 (cell_of_row _ _ _ _ _ _ R0.out); have r6 : w1.cell? ⟨w.heap.size + 1, 6, none⟩ = some (.int .i64 x.z.t.w) := vcell_below hb1 hz1 (cell_of_row _ _ _ _ _ _ R1.out); have p7 : w1.cell? ⟨w.heap.size, 7, none⟩ = some (.int .i64 x.z.t.d) := vcell_below hb1 hz0 (cell_of_row _ _ _ _ _ _ R0.out); have r7 : w1.cell? ⟨w.heap.size + 1, 7, none⟩ = some (.int .i64 x.z.t.d) := vcell_below hb1 hz1 (cell_of_row _ _ _ _ _ _ R1.out); have p8 : w1.cell? ⟨w.heap.size, 8, none⟩ = some (.int .i64 x.z.t.h) := vcell_below hb1 hz0 (cell_of_row _ _ _ _ _ _ R0.out); have r8 : w1.cell? ⟨w.heap.size + 1, 8, none⟩ = some (.int .i64 x.z.t.h) := vcell_below hb1 hz1 (cell_of_row _ _ _ _ _ _ R1.out)))
  have B2 := below_then hb1 hb2
  clear e0 hb1 hb2 p0 r0 p1 r1 p2 r2 p3 r3 p4 r4 p5 r5 p6 r6 p7 r7 p8 r8
  go_wp2_with fail
  go_loopw [5] (fun p wi => ∃ k : Nat, p = .int .i64 k ∧ k ≤ 4 ∧ Below W0.heap.size W0 wi) (fun p _ => 4 - (intOf p).toNat)
  case atStart => exact ⟨0, rfl, by omega, B2⟩
  case round =>
    clear B2
    obtain ⟨k, rfl, hk, hb⟩ := hrel
    by_cases hlt : k < 4
    · have hlt' : (k : Int) < 4 := by omega
      have hk0 : (0 : Int) ≤ (k : Int) := by omega
      rcases (by omega : k = 0 ∨ k = 1 ∨ k = 2 ∨ k = 3) with rfl | rfl | rfl | rfl
      · have p13 : wr.cell? ⟨w.heap.size, 13, none⟩ = some (.string x.h0) := vcell_below hb hz0 (cell_of_row _ _ _ _ _ _ R0.out)
        have r13 : wr.cell? ⟨w.heap.size + 1, 13, none⟩ = some (.string x.h0) := vcell_below hb hz1 (cell_of_row _ _ _ _ _ _ R1.out)
        go_wp2_with fail
        go_quiet (fail)
        go_wp2_with fail
        go_roundw
        case rel => exact ⟨1, by first | rfl | go_num, by omega, by first | exact below_drewN hb _ | exact Below.drew hb⟩
        case measure => simp [intOf]
      · have p14 : wr.cell? ⟨w.heap.size, 14, none⟩ = some (.string x.h1) := vcell_below hb hz0 (cell_of_row _ _ _ _ _ _ R0.out)
        have r14 : wr.cell? ⟨w.heap.size + 1, 14, none⟩ = some (.string x.h1) := vcell_below hb hz1 (cell_of_row _ _ _ _ _ _ R1.out)
        go_wp2_with fail
        go_quiet (fail)
        go_wp2_with fail
        go_roundw
        case rel => exact ⟨2, by first | rfl | go_num, by omega, by first | exact below_drewN hb _ | exact Below.drew hb⟩
        case measure => simp [intOf]
      · have p15 : wr.cell? ⟨w.heap.size, 15, none⟩ = some (.string x.h2) := vcell_below hb hz0 (cell_of_row _ _ _ _ _ _ R0.out)
        have r15 : wr.cell? ⟨w.heap.size + 1, 15, none⟩ = some (.string x.h2) := vcell_below hb hz1 (cell_of_row _ _ _ _ _ _ R1.out)
        go_wp2_with fail
        go_quiet (fail)
        go_wp2_with fail
        go_roundw
        case rel => exact ⟨3, by first | rfl | go_num, by omega, by first | exact below_drewN hb _ | exact Below.drew hb⟩
        case measure => simp [intOf]
      · have p16 : wr.cell? ⟨w.heap.size, 16, none⟩ = some (.string x.h3) := vcell_below hb hz0 (cell_of_row _ _ _ _ _ _ R0.out)
        have r16 : wr.cell? ⟨w.heap.size + 1, 16, none⟩ = some (.string x.h3) := vcell_below hb hz1 (cell_of_row _ _ _ _ _ _ R1.out)
        go_wp2_with fail
        go_quiet (fail)
        go_wp2_with fail
        go_roundw
        case rel => exact ⟨4, by first | rfl | go_num, by omega, by first | exact below_drewN hb _ | exact Below.drew hb⟩
        case measure => simp [intOf]
    · have hk4 : k = 4 := by omega
      subst hk4
      go_wp2_with fail
      go_loopw [6] (fun p wi => ∃ k : Nat, p = .int .i64 k ∧ k ≤ 3 ∧ Below W0.heap.size W0 wi) (fun p _ => 3 - (intOf p).toNat)
      case atStart => exact ⟨0, rfl, by omega, hb⟩
      case round =>
        clear hb hlt hk
        obtain ⟨k, rfl, hk, hb⟩ := hrel
        by_cases hlt : k < 3
        · have hlt' : (k : Int) < 3 := by omega
          have hk0 : (0 : Int) ≤ (k : Int) := by omega
          rcases (by omega : k = 0 ∨ k = 1 ∨ k = 2) with rfl | rfl | rfl
          · have p17 : wr.cell? ⟨w.heap.size, 17, none⟩ = some (.int .i64 x.b0.x) := vcell_below hb hz0 (cell_of_row _ _ _ _ _ _ R0.out)
            have r17 : wr.cell? ⟨w.heap.size + 1, 17, none⟩ = some (.int .i64 x.b0.x) := vcell_below hb hz1 (cell_of_row _ _ _ _ _ _ R1.out)
            have p18 : wr.cell? ⟨w.heap.size, 18, none⟩ = some (.int .i64 x.b0.y) := vcell_below hb hz0 (cell_of_row _ _ _ _ _ _ R0.out)
            have r18 : wr.cell? ⟨w.heap.size + 1, 18, none⟩ = some (.int .i64 x.b0.y) := vcell_below hb hz1 (cell_of_row _ _ _ _ _ _ R1.out)
            have p19 : wr.cell? ⟨w.heap.size, 19, none⟩ = some (.int .i64 x.b0.z) := vcell_below hb hz0 (cell_of_row _ _ _ _ _ _ R0.out)
            have r19 : wr.cell? ⟨w.heap.size + 1, 19, none⟩ = some (.int .i64 x.b0.z) := vcell_below hb hz1 (cell_of_row _ _ _ _ _ _ R1.out)
            have ea : (x.b0.x != x.b0.x) = false := by simp
            have eb : (x.b0.y != x.b0.y) = false := by simp
            have ec : (x.b0.z != x.b0.z) = false := by simp
            go_wp2_with fail
            go_quiet (fail)
            go_wp2_with fail
            go_roundw
            case rel => exact ⟨1, by first | rfl | go_num, by omega, by first | exact below_drewN hb _ | exact Below.drew hb⟩
            case measure => simp [intOf]
          · have p20 : wr.cell? ⟨w.heap.size, 20, none⟩ = some (.int .i64 x.b1.x) := vcell_below hb hz0 (cell_of_row _ _ _ _ _ _ R0.out)
            have r20 : wr.cell? ⟨w.heap.size + 1, 20, none⟩ = some (.int .i64 x.b1.x) := vcell_below hb hz1 (cell_of_row _ _ _ _ _ _ R1.out)
            have p21 : wr.cell? ⟨w.heap.size, 21, none⟩ = some (.int .i64 x.b1.y) := vcell_below hb hz0 (cell_of_row _ _ _ _ _ _ R0.out)
            have r21 : wr.cell? ⟨w.heap.size + 1, 21, none⟩ = some (.int .i64 x.b1.y) := vcell_below hb hz1 (cell_of_row _ _ _ _ _ _ R1.out)
            have p22 : wr.cell? ⟨w.heap.size, 22, none⟩ = some (.int .i64 x.b1.z) := vcell_below hb hz0 (cell_of_row _ _ _ _ _ _ R0.out)
            have r22 : wr.cell? ⟨w.heap.size + 1, 22, none⟩ = some (.int .i64 x.b1.z) := vcell_below hb hz1 (cell_of_row _ _ _ _ _ _ R1.out)
            have ea : (x.b1.x != x.b1.x) = false := by simp
            have eb : (x.b1.y != x.b1.y) = false := by simp
            have ec : (x.b1.z != x.b1.z) = false := by simp
            go_wp2_with fail
            go_quiet (fail)
            go_wp2_with fail
            go_roundw
            case rel => exact ⟨2, by first | rfl | go_num, by omega, by first | exact below_drewN hb _ | exact Below.drew hb⟩
            case measure => simp [intOf]
          · have p23 : wr.cell? ⟨w.heap.size, 23, none⟩ = some (.int .i64 x.b2.x) := vcell_below hb hz0 (cell_of_row _ _ _ _ _ _ R0.out)
            have r23 : wr.cell? ⟨w.heap.size + 1, 23, none⟩ = some (.int .i64 x.b2.x) := vcell_below hb hz1 (cell_of_row _ _ _ _ _ _ R1.out)
            have p24 : wr.cell? ⟨w.heap.size, 24, none⟩ = some (.int .i64 x.b2.y) := vcell_below hb hz0 (cell_of_row _ _ _ _ _ _ R0.out)
            have r24 : wr.cell? ⟨w.heap.size + 1, 24, none⟩ = some (.int .i64 x.b2.y) := vcell_below hb hz1 (cell_of_row _ _ _ _ _ _ R1.out)
            have p25 : wr.cell? ⟨w.heap.size, 25, none⟩ = some (.int .i64 x.b2.z) := vcell_below hb hz0 (cell_of_row _ _ _ _ _ _ R0.out)
            have r25 : wr.cell? ⟨w.heap.size + 1, 25, none⟩ = some (.int .i64 x.b2.z) := vcell_below hb hz1 (cell_of_row _ _ _ _ _ _ R1.out)
            have ea : (x.b2.x != x.b2.x) = false := by simp
            have eb : (x.b2.y != x.b2.y) = false := by simp
            have ec : (x.b2.z != x.b2.z) = false := by simp
            go_wp2_with fail
            go_quiet (fail)
            go_wp2_with fail
            go_roundw
            case rel => exact ⟨3, by first | rfl | go_num, by omega, by first | exact below_drewN hb _ | exact Below.drew hb⟩
            case measure => simp [intOf]
        · have hk3 : k = 3 := by omega
          subst hk3
          have p26 : wr.cell? ⟨w.heap.size, 26, none⟩ = some (.int .i64 x.d.x) := vcell_below hb hz0 (cell_of_row _ _ _ _ _ _ R0.out)
          have r26 : wr.cell? ⟨w.heap.size + 1, 26, none⟩ = some (.int .i64 x.d.x) := vcell_below hb hz1 (cell_of_row _ _ _ _ _ _ R1.out)
          have p27 : wr.cell? ⟨w.heap.size, 27, none⟩ = some (.int .i64 x.d.y) := vcell_below hb hz0 (cell_of_row _ _ _ _ _ _ R0.out)
          have r27 : wr.cell? ⟨w.heap.size + 1, 27, none⟩ = some (.int .i64 x.d.y) := vcell_below hb hz1 (cell_of_row _ _ _ _ _ _ R1.out)
          have p28 : wr.cell? ⟨w.heap.size, 28, none⟩ = some (.int .i64 x.d.z) := vcell_below hb hz0 (cell_of_row _ _ _ _ _ _ R0.out)
          have r28 : wr.cell? ⟨w.heap.size + 1, 28, none⟩ = some (.int .i64 x.d.z) := vcell_below hb hz1 (cell_of_row _ _ _ _ _ _ R1.out)
          have p29 : wr.cell? ⟨w.heap.size, 29, none⟩ = some (.int .i64 x.np) := vcell_below hb hz0 (cell_of_row _ _ _ _ _ _ R0.out)
          have r29 : wr.cell? ⟨w.heap.size + 1, 29, none⟩ = some (.int .i64 x.np) := vcell_below hb hz1 (cell_of_row _ _ _ _ _ _ R1.out)
          have p30 : wr.cell? ⟨w.heap.size, 30, none⟩ = some (.int .i64 x.nn) := vcell_below hb hz0 (cell_of_row _ _ _ _ _ _ R0.out)
          have r30 : wr.cell? ⟨w.heap.size + 1, 30, none⟩ = some (.int .i64 x.nn) := vcell_below hb hz1 (cell_of_row _ _ _ _ _ _ R1.out)
          have p9 : wr.cell? ⟨w.heap.size, 9, none⟩ = some (.int .i64 x.days) := vcell_below hb hz0 (cell_of_row _ _ _ _ _ _ R0.out)
          have r9 : wr.cell? ⟨w.heap.size + 1, 9, none⟩ = some (.int .i64 x.days) := vcell_below hb hz1 (cell_of_row _ _ _ _ _ _ R1.out)
          have p10 : wr.cell? ⟨w.heap.size, 10, none⟩ = some (.int .i64 x.gap) := vcell_below hb hz0 (cell_of_row _ _ _ _ _ _ R0.out)
          have r10 : wr.cell? ⟨w.heap.size + 1, 10, none⟩ = some (.int .i64 x.gap) := vcell_below hb hz1 (cell_of_row _ _ _ _ _ _ R1.out)
          have p11 : wr.cell? ⟨w.heap.size, 11, none⟩ = some (.int .i64 x.first) := vcell_below hb hz0 (cell_of_row _ _ _ _ _ _ R0.out)
          have r11 : wr.cell? ⟨w.heap.size + 1, 11, none⟩ = some (.int .i64 x.first) := vcell_below hb hz1 (cell_of_row _ _ _ _ _ _ R1.out)
          have p12 : wr.cell? ⟨w.heap.size, 12, none⟩ = some (.int .i64 x.last) := vcell_below hb hz0 (cell_of_row _ _ _ _ _ _ R0.out)
          have r12 : wr.cell? ⟨w.heap.size + 1, 12, none⟩ = some (.int .i64 x.last) := vcell_below hb hz1 (cell_of_row _ _ _ _ _ _ R1.out)
          have p31 : wr.cell? ⟨w.heap.size, 31, none⟩ = some (.int .i64 x.fix) := vcell_below hb hz0 (cell_of_row _ _ _ _ _ _ R0.out)
          have r31 : wr.cell? ⟨w.heap.size + 1, 31, none⟩ = some (.int .i64 x.fix) := vcell_below hb hz1 (cell_of_row _ _ _ _ _ _ R1.out)
          have p32 : wr.cell? ⟨w.heap.size, 32, none⟩ = some (.int .i64 x.min) := vcell_below hb hz0 (cell_of_row _ _ _ _ _ _ R0.out)
          have r32 : wr.cell? ⟨w.heap.size + 1, 32, none⟩ = some (.int .i64 x.min) := vcell_below hb hz1 (cell_of_row _ _ _ _ _ _ R1.out)
          have p33 : wr.cell? ⟨w.heap.size, 33, none⟩ = some (.int .i64 x.tax) := vcell_below hb hz0 (cell_of_row _ _ _ _ _ _ R0.out)
          have r33 : wr.cell? ⟨w.heap.size + 1, 33, none⟩ = some (.int .i64 x.tax) := vcell_below hb hz1 (cell_of_row _ _ _ _ _ _ R1.out)
          go_wp2_with fail
          go_ret
          exact ⟨ret_bool (by simp), below_then B0 hb⟩

theorem yields_row {P : Program} {ops : Array Oper} {S : World → Prop} {op : Oper} {a : Act} (hw : Region.wanted op (yielded ops a.tmps) = true) (ty : TypeId) (x : Operand) (ho : op.op = .load ty x)
    (g : Nat) (hx : a.eval x = .pointer (some ⟨g, 0, none⟩)) (cs : Array Value) (t : TypeId) (fr : Nat × Nat) (d : TypeDesc) (hS : ∀ w, S w → w.heap[g]? = some (.cells cs t fr))
    (hu : P.underlying ty = some d) (hd : (match d with | .struct _ | .array _ _ => true | _ => false) = true) (hi : (P.info? ty).map (·.size) = some cs.size) : YieldsIf P ops S op (.agg cs) a :=
  .inl ⟨hw, fun w hw' => by
    unfold execOp
    simp only [ho, hx, Instr.loadAt, Instr.sureAddr, Sem.run_bind, Sem.run_pure, Result.andThen_ok, run_loadVar_row w g t ty cs fr d (hS w hw') hu hd hi]⟩
theorem fine (t : ByteArray) (xp xd : Trf) (hp : xp = rdT t (hrP t)) (hd : xd = rdT t (hrD t)) (h : (Txt.fin t (sT t 13)).bad = false) : xd = xp := by
  obtain ⟨_, h2⟩ := fin_good h
  rw [hp, hd, rd_good h2]
theorem y_sizes (t : ByteArray) (xp y : Trf) (hp : xp = rdT t (hrP t)) (hy : y = rtV t xp) : y.h0.size ≤ maxLen ∧ y.h1.size ≤ maxLen ∧ y.h2.size ≤ maxLen ∧ y.h3.size ≤ maxLen := by
  rw [hy]; unfold rtV
  split
  · rw [hp]
    refine ⟨?_, ?_, ?_, ?_⟩
    · show (hrP t 3).size ≤ _; rw [hrP_size]; unfold maxLen; omega
    · show (hrP t 4).size ≤ _; rw [hrP_size]; unfold maxLen; omega
    · show (hrP t 5).size ≤ _; rw [hrP_size]; unfold maxLen; omega
    · show (hrP t 6).size ≤ _; rw [hrP_size]; unfold maxLen; omega
  · refine ⟨?_, ?_, ?_, ?_⟩ <;> (show ByteArray.empty.size ≤ _; unfold maxLen; decide)

end Go.Proofs.YtjaffmmocbplaaaDoor.tariffs
