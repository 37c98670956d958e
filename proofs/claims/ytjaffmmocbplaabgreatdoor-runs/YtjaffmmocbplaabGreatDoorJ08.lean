/-
  ClockX, RowY in one text.
-/
import Derived.Test.YtjaffmmocbplaabGreatDoorJ06
import Derived.Test.YtjaffmmocbplaabGreatDoorJ04
namespace Go.Proofs.YtjaffmmocbplaabGreatDoor
open Go.RowKit
set_option linter.unusedVariables false

theorem day_bd (s : Int) (h1 : 0 ≤ s) (h2 : s ≤ 52595999) : 0 ≤ s / 1440 ∧ s / 1440 ≤ 36524 := by omega

set_option maxHeartbeats 1000000 in
theorem isSummer_any (z : Zon.Zn) (s : Int) (w : World) (hz : Zon.zoneB z = true) (h1 : 0 ≤ s) (h2 : s ≤ 52595999) :
    Calls Tryz.prog 101 #[.agg #[.int .i64 z.off, .int .i64 z.f.m, .int .i64 z.f.w, .int .i64 z.f.d, .int .i64 z.f.h, .int .i64 z.t.m, .int .i64 z.t.w, .int .i64 z.t.d, .int .i64 z.t.h], .int .i64 s] w fun e w' => e = .returned (.bool (Zon.sumB z s)) ∧ Below w.heap.size w w' := by
  obtain ⟨ho, hc⟩ := Zon.zone_cases hz
  rcases hc with ⟨n1, n2⟩ | ⟨nn, nf, r1, r2, hm⟩
  · have nn : (Zon.noneB z.f && Zon.noneB z.t) = true := by simp [n1, n2]
    have hS : Hid (Zon.sumB z s = false) := (by simp [Zon.sumB, n1, n2] : Zon.sumB z s = false)
    clear n1 n2 hz
    go_enter Tryz.func101, Tryz.ntmps101
    go_wp2_with (go_at_call 83; refine (hasSummer_any z _).mono ?_; rintro e w1 ⟨rfl, hb⟩)
    go_ret
    exact ⟨by rw [hS.out]; rfl, ((Below.refl _ _).alloc (Nat.le_refl _) _).trans (hb.mono (by simp))⟩
  · obtain ⟨d1, d2⟩ := day_bd s h1 h2
    obtain ⟨y, hy⟩ : ∃ y, y = Cal.yr (s / 1440) := ⟨_, rfl⟩
    obtain ⟨yb1, yb2⟩ : 2000 ≤ y ∧ y ≤ 2099 := by rw [hy]; exact Cal.yr_bd _ d1 d2
    have yc : ∀ w, Calls Tryz.prog 108 #[.int .i64 (s / 1440)] w fun e w' => e = .returned (.int .i64 y) ∧ w' = w := fun w => by rw [hy]; exact yearOf_any _ w d1 d2
    have hS : Hid (Zon.sumB z s = if z.f.m < z.t.m then decide (Zon.mom z.f y ≤ s) && decide (s < Zon.mom z.t y) else decide (s < Zon.mom z.t y) || decide (Zon.mom z.f y ≤ s)) := by
      show Zon.sumB z s = _
      simp only [Zon.sumB, nn, hy]; rfl
    have m1 := Zon.mom_bd z.f y r1 yb1 yb2
    have m2 := Zon.mom_bd z.t y r2 yb1 yb2
    clear hz hy nf hm
    by_cases hlt : z.f.m < z.t.m
    · by_cases hfs : Zon.mom z.f y ≤ s
      all_goals
        go_enter Tryz.func101, Tryz.ntmps101
        go_wp2_with (first
          | (go_at_call 83; refine (hasSummer_any z _).mono ?_; rintro e w1 ⟨rfl, hb⟩; obtain ⟨hc, hf⟩ := bcell hb; have hz : w.heap.size < w1.heap.size := by have := hb.size; simp at this; omega)
          | (go_at_call 108; refine (yc _).mono ?_; rintro e w' ⟨rfl, rfl⟩)
          | (go_at_call 109; have _ := hb2; refine (moment_any z.t y _ r2 yb1 yb2).mono ?_; rintro e w3 ⟨rfl, hb3⟩; obtain ⟨hc3, hf3⟩ := bcell hb3)
          | (go_at_call 109; refine (moment_any z.f y _ r1 yb1 yb2).mono ?_; rintro e w2 ⟨rfl, hb2⟩; obtain ⟨hc2, hf2⟩ := bcell hb2; have hz2 : w.heap.size < w2.heap.size := by have := hb2.size; omega))
        go_ret
        exact ⟨by rw [hS.out]; simp [hlt, hfs] <;> omega, ((((Below.refl _ _).alloc (Nat.le_refl _) _).trans (hb.mono (by simp))).trans (hb2.mono (by omega))).trans (hb3.mono (by omega))⟩
    · by_cases hst : s < Zon.mom z.t y
      all_goals
        go_enter Tryz.func101, Tryz.ntmps101
        go_wp2_with (first
          | (go_at_call 83; refine (hasSummer_any z _).mono ?_; rintro e w1 ⟨rfl, hb⟩; obtain ⟨hc, hf⟩ := bcell hb; have hz : w.heap.size < w1.heap.size := by have := hb.size; simp at this; omega)
          | (go_at_call 108; refine (yc _).mono ?_; rintro e w' ⟨rfl, rfl⟩)
          | (go_at_call 109; have _ := hb2; refine (moment_any z.t y _ r2 yb1 yb2).mono ?_; rintro e w3 ⟨rfl, hb3⟩; obtain ⟨hc3, hf3⟩ := bcell hb3)
          | (go_at_call 109; refine (moment_any z.f y _ r1 yb1 yb2).mono ?_; rintro e w2 ⟨rfl, hb2⟩; obtain ⟨hc2, hf2⟩ := bcell hb2; have hz2 : w.heap.size < w2.heap.size := by have := hb2.size; omega))
        go_ret
        exact ⟨by rw [hS.out, if_neg (by omega)]; simp [hst] <;> omega, ((((Below.refl _ _).alloc (Nat.le_refl _) _).trans (hb.mono (by simp))).trans (hb2.mono (by omega))).trans (hb3.mono (by omega))⟩

set_option maxHeartbeats 1000000 in
theorem Clock_no (z : Zon.Zn) (n : Int) (w : World) (h : Zon.clockB z n = false) :
    Calls Tryz.prog 88 #[.agg #[.int .i64 z.off, .int .i64 z.f.m, .int .i64 z.f.w, .int .i64 z.f.d, .int .i64 z.f.h, .int .i64 z.t.m, .int .i64 z.t.w, .int .i64 z.t.d, .int .i64 z.t.h], .int .i64 n] w fun e w' => e = .returned (.tuple #[.int .i64 0, .int .i64 0, .int .i64 3]) ∧ Below w.heap.size w w' := by
  cases hz : Zon.zoneB z
  case false =>
    clear h
    go_enter Tryz.func88, Tryz.ntmps88
    go_wp2_with (first | (go_at_call 61; refine (validZone_any z _).mono ?_; rintro e w1 ⟨rfl, hb⟩))
    go_ret3
    exact ⟨rfl, ((Below.refl _ _).alloc (Nat.le_refl _) _).trans (hb.mono (by simp))⟩
  case true =>
    cases h1 : inB n 0 52595999
    case false =>
      clear h
      go_enter Tryz.func88, Tryz.ntmps88
      go_wp2_with (first | (go_at_call 61; refine (validZone_any z _).mono ?_; rintro e w1 ⟨rfl, hb⟩) | (go_at_call 54; refine (within_any _ _ _ _).mono ?_; rintro e w' ⟨rfl, rfl⟩))
      go_ret3
      exact ⟨rfl, ((Below.refl _ _).alloc (Nat.le_refl _) _).trans (hb.mono (by simp))⟩
    case true =>
      obtain ⟨n1, n2⟩ := inB_iff.mp h1
      obtain ⟨⟨o1, o2⟩, _⟩ := Zon.zone_cases hz
      cases h2 : inB (n + z.off) 0 52595999
      case false =>
        clear h
        go_enter Tryz.func88, Tryz.ntmps88
        go_wp2_with (first | (go_at_call 61; refine (validZone_any z _).mono ?_; rintro e w1 ⟨rfl, hb⟩; obtain ⟨hc, hf⟩ := bcell hb; have hz : w.heap.size < w1.heap.size := by have := hb.size; simp at this; omega) | (go_at_call 54; refine (within_any _ _ _ _).mono ?_; rintro e w' ⟨rfl, rfl⟩))
        go_ret3
        exact ⟨rfl, ((Below.refl _ _).alloc (Nat.le_refl _) _).trans (hb.mono (by simp))⟩
      case true =>
        obtain ⟨m1, m2⟩ := inB_iff.mp h2
        have h3 : 52595999 < Zon.there z n := by simp [Zon.clockB, hz, h1, h2] at h; omega
        have hs : Zon.sumB z (n + z.off) = true := by
          cases g : Zon.sumB z (n + z.off)
          · simp [Zon.there, g] at h3; omega
          · rfl
        have h4 : 52595999 < n + z.off + 60 := by simpa [Zon.there, hs] using h3
        have hS : ∀ w, Calls Tryz.prog 101 #[.agg #[.int .i64 z.off, .int .i64 z.f.m, .int .i64 z.f.w, .int .i64 z.f.d, .int .i64 z.f.h, .int .i64 z.t.m, .int .i64 z.t.w, .int .i64 z.t.d, .int .i64 z.t.h], .int .i64 (n + z.off)] w fun e w' => e = .returned (.bool true) ∧ Below w.heap.size w w' := fun w => by
          have := isSummer_any z (n + z.off) w hz m1 m2; rw [hs] at this; exact this
        clear h h3 hs
        go_enter Tryz.func88, Tryz.ntmps88
        go_wp2_with (first | (go_at_call 61; refine (validZone_any z _).mono ?_; rintro e w1 ⟨rfl, hb⟩; obtain ⟨hc, hf⟩ := bcell hb; have hz : w.heap.size < w1.heap.size := by have := hb.size; simp at this; omega) | (go_at_call 54; refine (within_any _ _ _ _).mono ?_; rintro e w' ⟨rfl, rfl⟩) | (go_at_call 101; refine (hS _).mono ?_; rintro e w2 ⟨rfl, hb2⟩))
        go_ret3
        exact ⟨rfl, (((Below.refl _ _).alloc (Nat.le_refl _) _).trans (hb.mono (by simp))).trans (hb2.mono (by omega))⟩

set_option maxHeartbeats 1000000 in
theorem Clock_yes (z : Zon.Zn) (n : Int) (w : World) (h : Zon.clockB z n = true) :
    Calls Tryz.prog 88 #[.agg #[.int .i64 z.off, .int .i64 z.f.m, .int .i64 z.f.w, .int .i64 z.f.d, .int .i64 z.f.h, .int .i64 z.t.m, .int .i64 z.t.w, .int .i64 z.t.d, .int .i64 z.t.h], .int .i64 n] w fun e w' => e = .returned (.tuple #[.int .i64 (Zon.there z n / 1440), .int .i64 (Zon.there z n % 1440), .int .i64 0]) ∧ Below w.heap.size w w' := by
  simp only [Zon.clockB, Bool.and_eq_true, decide_eq_true_eq] at h
  obtain ⟨⟨⟨hz, h1⟩, h2⟩, h3⟩ := h
  obtain ⟨n1, n2⟩ := inB_iff.mp h1
  obtain ⟨m1, m2⟩ := inB_iff.mp h2
  obtain ⟨⟨o1, o2⟩, _⟩ := Zon.zone_cases hz
  cases hs : Zon.sumB z (n + z.off)
  all_goals
    have hT : Hid (Zon.there z n = if Zon.sumB z (n + z.off) then n + z.off + 60 else n + z.off) := rfl
    have hT' := hT.out
    rw [hs] at hT'
    simp only [Bool.false_eq_true, if_false, if_true] at hT'
    have HT : Hid (Zon.there z n = _) := hT'
    rw [hT'] at h3
    have hS : ∀ w, Calls Tryz.prog 101 #[.agg #[.int .i64 z.off, .int .i64 z.f.m, .int .i64 z.f.w, .int .i64 z.f.d, .int .i64 z.f.h, .int .i64 z.t.m, .int .i64 z.t.w, .int .i64 z.t.d, .int .i64 z.t.h], .int .i64 (n + z.off)] w fun e w' => e = .returned (.bool (Zon.sumB z (n + z.off))) ∧ Below w.heap.size w w' := fun w => isSummer_any z (n + z.off) w hz m1 m2
    clear hT hT'
    go_enter Tryz.func88, Tryz.ntmps88
    go_wp2_with (first | (go_at_call 61; refine (validZone_any z _).mono ?_; rintro e w1 ⟨rfl, hb⟩; obtain ⟨hc, hf⟩ := bcell hb; have hz : w.heap.size < w1.heap.size := by have := hb.size; simp at this; omega) | (go_at_call 54; refine (within_any _ _ _ _).mono ?_; rintro e w' ⟨rfl, rfl⟩) | (go_at_call 101; refine (hS _).mono ?_; rintro e w2 ⟨rfl, hb2⟩))
    go_ret3
    exact ⟨by rw [HT.out]; rfl, (((Below.refl _ _).alloc (Nat.le_refl _) _).trans (hb.mono (by simp))).trans (hb2.mono (by omega))⟩

end Go.Proofs.YtjaffmmocbplaabGreatDoor

namespace Go.Proofs.YtjaffmmocbplaabGreatDoor
open Go.RowKit
set_option linter.unusedVariables false

theorem meterB_len {step start : Int} {l : List Txt.Val} (h : ¬ (1 ≤ (l.length : Int) ∧ (l.length : Int) ≤ 200)) : meterB step start l = false := by
  simp [meterB, inB_false h]
theorem meterB_start {step start : Int} {l : List Txt.Val} (h : ¬ (0 ≤ start ∧ start ≤ 52596000 - step * l.length)) : meterB step start l = false := by
  simp [meterB, inB_false h]
theorem meterB_mod {step start : Int} {l : List Txt.Val} (h : ¬ start % step = 0) : meterB step start l = false := by
  simp [meterB, h]

set_option maxHeartbeats 2000000 in
theorem GoodMeter_any (step start : Int) (v : Value) (l : List Txt.Val) (w : World) (h : VRow w v l) :
    Calls Tryz.prog 39 #[.agg #[.int .i64 step, .int .i64 start, v]] w fun e w' => e = .returned (.bool (meterB step start l)) ∧ Below w.heap.size w w' := by
  obtain ⟨a, cap, rfl⟩ := h.form
  by_cases hst : step = 15 ∨ step = 30 ∨ step = 60
  · have hstB : (decide (step = 15) || decide (step = 30) || decide (step = 60)) = true := by simpa [or_assoc] using hst
    by_cases n1 : (l.length : Int) < 1
    · have HB : Hid (meterB step start l = false) := meterB_len (by omega)
      rcases hst with rfl | rfl | rfl
      all_goals
        go_enter Tryz.func39, Tryz.ntmps39
        go_wp2_with fail
        go_ret
        exact ⟨ret_bool HB.out.symm, below_more (Below.refl _ _) _⟩
    by_cases n2 : 200 < (l.length : Int)
    · have HB : Hid (meterB step start l = false) := meterB_len (by omega)
      rcases hst with rfl | rfl | rfl
      all_goals
        go_enter Tryz.func39, Tryz.ntmps39
        go_wp2_with fail
        go_ret
        exact ⟨ret_bool HB.out.symm, below_more (Below.refl _ _) _⟩
    by_cases s1 : start < 0
    · have HB : Hid (meterB step start l = false) := meterB_start (by omega)
      rcases hst with rfl | rfl | rfl
      all_goals
        go_enter Tryz.func39, Tryz.ntmps39
        go_wp2_with fail
        go_ret
        exact ⟨ret_bool HB.out.symm, below_more (Below.refl _ _) _⟩
    by_cases s2 : 52595999 < start
    · have HB : Hid (meterB step start l = false) := meterB_start (by rcases hst with rfl | rfl | rfl <;> omega)
      rcases hst with rfl | rfl | rfl
      all_goals
        go_enter Tryz.func39, Tryz.ntmps39
        go_wp2_with fail
        go_ret
        exact ⟨ret_bool HB.out.symm, below_more (Below.refl _ _) _⟩
    by_cases hmod : start % step = 0
    case neg =>
      have hmodB : (start % step != 0) = true := by simpa using hmod
      have HB : Hid (meterB step start l = false) := meterB_mod hmod
      clear hmod
      rcases hst with rfl | rfl | rfl
      all_goals
        go_enter Tryz.func39, Tryz.ntmps39
        go_wp2_with fail
        go_ret
        exact ⟨ret_bool HB.out.symm, below_more (Below.refl _ _) _⟩
    case pos =>
      have hmodB : (start % step != 0) = false := by simpa using hmod
      by_cases s3 : 52596000 < start + step * (l.length : Int)
      · have HB : Hid (meterB step start l = false) := meterB_start (by omega)
        clear hmod
        rcases hst with rfl | rfl | rfl
        all_goals
          go_enter Tryz.func39, Tryz.ntmps39
          go_wp2_with fail
          go_ret
          exact ⟨ret_bool HB.out.symm, below_more (Below.refl _ _) _⟩
      · have HB : Hid (meterB step start l = l.all valB) := by
          show _ = _
          simp [meterB, inB_true (show (1 : Int) ≤ (l.length : Int) by omega) (show (l.length : Int) ≤ 200 by omega), inB_true (show (0 : Int) ≤ start by omega) (show start ≤ 52596000 - step * (l.length : Int) by omega), hmod, hstB]
        clear hmod hstB
        rcases hst with rfl | rfl | rfl
        all_goals
          go_enter Tryz.func39, Tryz.ntmps39
          go_wp2_with fail
          go_loopw [4] (fun i wr => ∃ k : Nat, i = .int .i64 k ∧ k ≤ l.length ∧ (l.take k).all valB = true ∧ Below w.heap.size w wr ∧ w.heap.size < wr.heap.size ∧ wr.cell? ⟨w.heap.size, 2, none⟩ = some (.slice a l.length cap)) (fun i _ => l.length - (intOf i).toNat)
          case atStart => exact ⟨0, rfl, by omega, by simp, below_more (Below.refl _ _) _, by simp, by simp [go_sem]⟩
          case round =>
            obtain ⟨k, rfl, hk, hall, hbw, hsz, m2⟩ := hrel
            by_cases hlt : k < l.length
            · have hlt' : (k : Int) < (l.length : Int) := by omega
              have hk0 : (0 : Int) ≤ (k : Int) := by omega
              obtain ⟨x, hx⟩ : ∃ x, l[k]? = some x := ⟨l[k], List.getElem?_eq_getElem hlt⟩
              obtain ⟨b, off, rfl, hcap, hblt, c0, c1, c2⟩ := (h.below hbw).at hx
              have hcap' : (l.length : Int) ≤ (cap : Int) := by omega
              cases hvx : valB x
              case true =>
                have HA : Hid ((l.take (k + 1)).all valB = true) := by show _ = _; rw [all_take_succ hx, hall, hvx]; rfl
                have vb := valB_bd hvx
                have i1 := inB_true vb.1.1 vb.1.2
                have i2 := inB_true vb.2.1 vb.2.2
                cases hm : x.m
                case true =>
                  have hio : x.i = 0 ∧ x.o = 0 := by simpa [valB, hm] using hvx
                  have b1 : (x.i != 0) = false := by simp [hio.1]
                  have b2 : (x.o != 0) = false := by simp [hio.2]
                  rw [hm] at c2
                  clear hx h hall hvx hm hio
                  go_wp2_with (go_at_call 73; refine (in_any _ _ _ _).mono ?_; rintro e w' ⟨rfl, rfl⟩)
                  go_roundw
                  case rel => exact ⟨k + 1, by go_num, by omega, HA.out, below_more hbw _, by simp; omega, by simp [go_sem, hsz, m2]⟩
                  case measure => simp [intOf]; omega
                case false =>
                  rw [hm] at c2
                  clear hx h hall hvx hm
                  go_wp2_with (go_at_call 73; refine (in_any _ _ _ _).mono ?_; rintro e w' ⟨rfl, rfl⟩)
                  go_roundw
                  case rel => exact ⟨k + 1, by go_num, by omega, HA.out, below_more hbw _, by simp; omega, by simp [go_sem, hsz, m2]⟩
                  case measure => simp [intOf]; omega
              case false =>
                have HA : Hid (l.all valB = false) := all_of_false hx hvx
                cases hm : x.m
                case true =>
                  have hio : ¬ x.i = 0 ∨ ¬ x.o = 0 := by simp [valB, hm] at hvx; omega
                  rw [hm] at c2
                  clear hx h hall hvx hm
                  by_cases hi : x.i = 0
                  · have b1 : (x.i != 0) = false := by simp [hi]
                    have b2 : (x.o != 0) = true := by simp; omega
                    clear hio hi
                    go_wp2_with (go_at_call 73; refine (in_any _ _ _ _).mono ?_; rintro e w' ⟨rfl, rfl⟩)
                    go_ret
                    exact ⟨ret_bool (by rw [HB.out, HA.out]), below_more hbw _⟩
                  · have b1 : (x.i != 0) = true := by simp; omega
                    clear hio hi
                    go_wp2_with (go_at_call 73; refine (in_any _ _ _ _).mono ?_; rintro e w' ⟨rfl, rfl⟩)
                    go_ret
                    exact ⟨ret_bool (by rw [HB.out, HA.out]), below_more hbw _⟩
                case false =>
                  have hio : (inB x.i 0 999999999 && inB x.o 0 999999999) = false := by simpa [valB, hm] using hvx
                  rw [hm] at c2
                  clear hx h hall hvx hm
                  cases i1 : inB x.i 0 999999999
                  case false =>
                    clear hio
                    go_wp2_with (go_at_call 73; refine (in_any _ _ _ _).mono ?_; rintro e w' ⟨rfl, rfl⟩)
                    go_ret
                    exact ⟨ret_bool (by rw [HB.out, HA.out]), below_more hbw _⟩
                  case true =>
                    have i2 : inB x.o 0 999999999 = false := by simpa [i1] using hio
                    clear hio
                    go_wp2_with (go_at_call 73; refine (in_any _ _ _ _).mono ?_; rintro e w' ⟨rfl, rfl⟩)
                    go_ret
                    exact ⟨ret_bool (by rw [HB.out, HA.out]), below_more hbw _⟩
            · have hlt' : ¬ (k : Int) < (l.length : Int) := by omega
              have HA : Hid (l.all valB = true) := by show _ = _; rw [List.take_of_length_le (by omega)] at hall; exact hall
              go_wp2_with fail
              go_ret
              exact ⟨ret_bool (by rw [HB.out, HA.out]), hbw⟩
  · have HB : Hid (meterB step start l = false) := by
      show _ = _
      have : (decide (step = 15) || decide (step = 30) || decide (step = 60)) = false := by simp; omega
      simp [meterB, this]
    have b1 : (step != 15) = true := by simp; omega
    have b2 : (step != 30) = true := by simp; omega
    have b3 : (step != 60) = true := by simp; omega
    clear hst
    go_enter Tryz.func39, Tryz.ntmps39
    go_wp2_with fail
    go_ret
    exact ⟨ret_bool HB.out.symm, below_more (Below.refl _ _) _⟩

set_option maxHeartbeats 1000000 in
theorem total_any (step start : Int) (v : Value) (l : List Txt.Val) (w : World) (h : VRow w v l) (hv : l.all valB = true) (hl : l.length ≤ 100000) :
    Calls Tryz.prog 40 #[.agg #[.int .i64 step, .int .i64 start, v]] w fun e w' => e = .returned (.int .i64 (sumL l)) ∧ Below w.heap.size w w' := by
  obtain ⟨a, cap, rfl⟩ := h.form
  have hA := h.below (below_more (Below.refl w.heap.size w) (.cells #[.int .i64 step, .int .i64 start, .slice a l.length cap] 56))
  go_enter Tryz.func40, Tryz.ntmps40
  go_wp2_with fail
  go_loopw [3, 4] (fun s i wr => ∃ k n : Nat, i = .int .i64 k ∧ k ≤ l.length ∧ s = .int .i64 (sumL (l.take k)) ∧ wr = (w.alloc (.cells #[.int .i64 step, .int .i64 start, .slice a l.length cap] 56)).drewN n) (fun _ i _ => l.length - (intOf i).toNat)
  case atStart => exact ⟨0, 0, rfl, by omega, rfl, rfl⟩
  case round =>
    obtain ⟨k, n, rfl, hk, rfl, rfl⟩ := hrel
    have sb := sumL_bd (l.take k)
    by_cases hlt : k < l.length
    · have hlt' : (k : Int) < (l.length : Int) := by omega
      have hk0 : (0 : Int) ≤ (k : Int) := by omega
      obtain ⟨x, hx⟩ : ∃ x, l[k]? = some x := ⟨l[k], List.getElem?_eq_getElem hlt⟩
      obtain ⟨b, off, rfl, hcap, hblt, c0, c1, c2⟩ := h.at hx
      have hcap' : (l.length : Int) ≤ (cap : Int) := by omega
      have vb := valB_bd (List.all_eq_true.mp hv x (List.mem_of_getElem? hx))
      have HS : Hid (sumL (l.take (k + 1)) = (sumL (l.take k) + x.i + x.o) % 10000) := by show _ = _; rw [List.take_add_one, hx]; exact sumL_snoc _ _
      have hne : ¬ b = w.heap.size := by omega
      clear hx h hv hA
      go_wp2_with fail
      go_quiet (fail)
      go_wp2_with fail
      go_roundw
      case rel => exact ⟨k + 1, _, by go_num, by omega, by rw [HS.out], rfl⟩
      case measure => simp [intOf]; omega
    · have hlt' : ¬ (k : Int) < (l.length : Int) := by omega
      go_wp2_with fail
      go_ret
      exact ⟨ret_int (by rw [List.take_of_length_le (by omega)]), below_drewN (below_more (Below.refl _ _) _) _⟩

end Go.Proofs.YtjaffmmocbplaabGreatDoor
