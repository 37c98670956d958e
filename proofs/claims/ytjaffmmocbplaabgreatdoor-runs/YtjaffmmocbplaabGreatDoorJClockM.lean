/-
  The walks of the document's moment, summer time and Clock.
-/
import Derived.Test.YtjaffmmocbplaabGreatDoorJ19
namespace Go.Proofs.YtjaffmmocbplaabGreatDoor
open Go.RowKit
set_option linter.unusedVariables false

theorem below_cell {B : Nat} {w w' : World} (h : Below B w w') {b o : Nat} (hb : b < B) {v : Value} (e : w.cell? ⟨b, o, none⟩ = some v) : w'.cell? ⟨b, o, none⟩ = some v := (h.cell (p := ⟨b, o, none⟩) hb).trans e

set_option maxHeartbeats 1000000 in
theorem refmoment_any (r : Zon.Rul) (y : Int) (w : World) (hr : Zon.ruleB r = true) (h1 : 2000 ≤ y) (h2 : y ≤ 2099) :
    Calls Tryz.prog 106 #[.agg #[.int .i64 r.m, .int .i64 r.w, .int .i64 r.d, .int .i64 r.h], .int .i64 y] w fun e w' => e = .returned (.int .i64 (Zon.mom r y)) ∧ Below w.heap.size w w' := by
  obtain ⟨⟨a1, a2⟩, ⟨b1, b2⟩, ⟨c1, c2⟩, ⟨d1, d2⟩⟩ := Zon.ruleB_iff.mp hr
  have hys := Cal.ys_bd y h1 (by omega)
  have hcu := Cal.cum_bd y r.m a1 (by omega)
  have hmd := Cal.md_bd y r.m
  obtain ⟨first, hF⟩ : ∃ first, first = Cal.ys y + Cal.cum y r.m := ⟨_, rfl⟩
  have hfirst : 0 ≤ first ∧ first ≤ 37000 := by omega
  have hMS : ∀ w, Calls Tryz.prog 114 #[.int .i64 y, .int .i64 r.m, .int .i64 1] w fun e w' => e = .returned (.tuple #[.int .i64 first, .int .i64 0]) ∧ w' = w := fun w => by
    have e : Cal.num y r.m 1 = first := by rw [hF]; unfold Cal.num; omega
    rw [← e]; exact refDay_yes y r.m 1 w ⟨h1, a1, a2, by omega, by omega⟩ h2
  obtain ⟨q, hq⟩ : ∃ q, q = Zon.r0 first r.d := ⟨_, rfl⟩
  obtain ⟨hq0, hq1⟩ : 0 ≤ q ∧ q ≤ 6 := by rw [hq]; exact Zon.r0_bd first r.d
  obtain ⟨len, hlen⟩ : ∃ len, len = Cal.md y r.m := ⟨_, rfl⟩
  have hl : 28 ≤ len ∧ len ≤ 31 := by rw [hlen]; exact hmd
  have hLen : ∀ w, Calls Tryz.prog 115 #[.int .i64 y, .int .i64 r.m] w fun e w' => e = .returned (.int .i64 len) ∧ w' = w := fun w => by rw [hlen]; exact length_any y r.m w (by omega) (by omega)
  have HM : Hid (Zon.mom r y = Zon.pos first q r.w len * 1440 + r.h * 60) := by
    show Zon.mom r y = _
    rw [hq, Zon.pos_end first r.d r.w len b1 b2 hl.1 hl.2, hlen, hF]; rfl
  have HQ : Hid (∀ k, 0 ≤ k → (Zon.wd (first + k) = r.d ↔ (k - q) % 7 = 0)) := fun k hk => by rw [hq]; exact Zon.hit_iff first r.d k hfirst.1 c1 c2 hk
  clear hF hq hlen hys hcu hmd hr
  go_enter Tryz.func106, Tryz.ntmps106
  go_wp2_with (go_at_call 114; refine (hMS _).mono ?_; rintro e w' ⟨rfl, rfl⟩)
  go_loopw [7, 8, 9] (fun n at' d wr => ∃ k : Int, d = .int .i64 k ∧ 0 ≤ k ∧ k ≤ len ∧ n = .int .i64 (Zon.cnt q k) ∧ at' = .int .i64 (Zon.pos first q r.w k) ∧ w.heap.size < wr.heap.size ∧
      wr.cell? ⟨w.heap.size, 0, none⟩ = some (.int .i64 r.m) ∧ wr.cell? ⟨w.heap.size, 1, none⟩ = some (.int .i64 r.w) ∧ wr.cell? ⟨w.heap.size, 2, none⟩ = some (.int .i64 r.d) ∧ wr.cell? ⟨w.heap.size, 3, none⟩ = some (.int .i64 r.h) ∧ Below w.heap.size w wr)
    (fun _ _ d _ => (len - intOf d).toNat)
  case atStart =>
    exact ⟨0, rfl, by omega, by omega, by rw [Zon.cnt_zero q hq0 hq1], by rw [Zon.pos_zero first q r.w hq0 hq1], by simp, by simp [go_sem], by simp [go_sem], by simp [go_sem], by simp [go_sem], (Below.refl _ _).alloc (Nat.le_refl _) _⟩
  case round =>
    obtain ⟨k, rfl, hk0, hk1, rfl, rfl, hsz, e0, e1, e2, e3, hb⟩ := hrel
    have cb := Zon.cnt_bd q k hq0 hq1 hk0 (by omega)
    have pb := Zon.pos_bd first q r.w k hq0 hq1 hk0 (by omega) b1 b2
    by_cases hlt : k < len
    · by_cases hit : Zon.wd (first + k) = r.d
      · have hh := (HQ.out k hk0).mp hit
        have hitB : (Zon.wd (first + k) == r.d) = true := by simpa using hit
        have HC : Hid (Zon.cnt q (k + 1) = Zon.cnt q k + 1) := Zon.cnt_hit q k hq0 hq1 hk0 hh
        by_cases hw : Zon.cnt q k + 1 ≤ r.w
        · have HP : Hid (Zon.pos first q r.w (k + 1) = first + k) := Zon.pos_hit first q r.w k hq0 hq1 hk0 hh hw
          clear hit hh
          go_wp2_with (go_at_call 115; refine (hLen _).mono ?_; rintro e w' ⟨rfl, rfl⟩)
          go_quiet ((go_at_call 98; exact Calls.quiet_of_same (refWeekday_any _ _ (by omega) (by omega))))
          go_wp2_with fail
          go_roundw
          case rel => exact ⟨k + 1, rfl, by omega, by omega, by rw [HC.out], by rw [HP.out], hsz, e0, e1, e2, e3, below_drewN hb _⟩
          case measure => simp [intOf]; omega
        · have HP : Hid (Zon.pos first q r.w (k + 1) = Zon.pos first q r.w k) := Zon.pos_over first q r.w k hq0 hq1 hk0 hh b1 hw
          clear hit hh
          go_wp2_with (go_at_call 115; refine (hLen _).mono ?_; rintro e w' ⟨rfl, rfl⟩)
          go_quiet ((go_at_call 98; exact Calls.quiet_of_same (refWeekday_any _ _ (by omega) (by omega))))
          go_wp2_with fail
          go_roundw
          case rel => exact ⟨k + 1, rfl, by omega, by omega, by rw [HC.out], by rw [HP.out], hsz, e0, e1, e2, e3, below_drewN hb _⟩
          case measure => simp [intOf]; omega
      · have hh := (not_congr (HQ.out k hk0)).mp hit
        have hitB : (Zon.wd (first + k) == r.d) = false := by simpa using hit
        have HC : Hid (Zon.cnt q (k + 1) = Zon.cnt q k) := Zon.cnt_miss q k hq0 hq1 hk0 hh
        have HP : Hid (Zon.pos first q r.w (k + 1) = Zon.pos first q r.w k) := Zon.pos_miss first q r.w k hq0 hq1 hk0 hh
        clear hit hh
        go_wp2_with (go_at_call 115; refine (hLen _).mono ?_; rintro e w' ⟨rfl, rfl⟩)
        go_quiet ((go_at_call 98; exact Calls.quiet_of_same (refWeekday_any _ _ (by omega) (by omega))))
        go_wp2_with fail
        go_roundw
        case rel => exact ⟨k + 1, rfl, by omega, by omega, by rw [HC.out], by rw [HP.out], hsz, e0, e1, e2, e3, below_drewN hb _⟩
        case measure => simp [intOf]; omega
    · have hkl : k = len := by omega
      subst hkl
      go_wp2_with (go_at_call 115; refine (hLen _).mono ?_; rintro e w' ⟨rfl, rfl⟩)
      go_ret
      exact ⟨ret_int (by rw [HM.out]), hb⟩

set_option maxHeartbeats 1000000 in
theorem summer_any (z : Zon.Zn) (s : Int) (w : World) (hz : Zon.zoneB z = true) (h1 : 0 ≤ s) (h2 : s ≤ 52595999) :
    Calls Tryz.prog 96 #[.agg #[.int .i64 z.off, .int .i64 z.f.m, .int .i64 z.f.w, .int .i64 z.f.d, .int .i64 z.f.h, .int .i64 z.t.m, .int .i64 z.t.w, .int .i64 z.t.d, .int .i64 z.t.h], .int .i64 s] w fun e w' => e = .returned (.bool (Zon.sumB z s)) ∧ Below w.heap.size w w' := by
  obtain ⟨ho, hc⟩ := Zon.zone_cases hz
  rcases hc with ⟨n1, n2⟩ | ⟨nn, nf, r1, r2, hm⟩
  · have hS : Hid (Zon.sumB z s = false) := (by simp [Zon.sumB, n1, n2] : Zon.sumB z s = false)
    have hm0 := (Zon.noneB_iff.mp n1).1
    have hm1 : (z.f.m == 0) = true := by rw [hm0]; rfl
    clear n1 n2 hz hm0
    go_enter Tryz.func96, Tryz.ntmps96
    go_wp2_with fail
    go_ret
    exact ⟨by rw [hS.out]; rfl, below_more (Below.refl _ _) _⟩
  · have d1 : 0 ≤ s / 1440 := by omega
    have d2 : s / 1440 ≤ 36524 := by omega
    have hm1 : (z.f.m == 0) = false := by have := (Zon.ruleB_iff.mp r1).1; simp; omega
    obtain ⟨y, hy⟩ : ∃ y, y = Cal.yr (s / 1440) := ⟨_, rfl⟩
    obtain ⟨yb1, yb2⟩ : 2000 ≤ y ∧ y ≤ 2099 := by rw [hy]; exact Cal.yr_bd _ d1 d2
    have yc : ∀ w, Calls Tryz.prog 97 #[.int .i64 (s / 1440)] w fun e w' => ∃ m d, e = .returned (.agg #[.int .i64 y, .int .i64 m, .int .i64 d]) ∧ Below w.heap.size w w' := fun w => by
      refine (dated_any _ w d1 d2).mono ?_
      rintro e w' ⟨y', m, d, rfl, hok, _, hn, hb⟩
      have : y' = y := by rw [hy, ← hn]; exact (Cal.yr_of hok).symm
      subst this
      exact ⟨m, d, rfl, hb⟩
    have hS : Hid (Zon.sumB z s = if z.f.m < z.t.m then decide (Zon.mom z.f y ≤ s) && decide (s < Zon.mom z.t y) else decide (s < Zon.mom z.t y) || decide (Zon.mom z.f y ≤ s)) := by
      show Zon.sumB z s = _
      simp only [Zon.sumB, nn, hy]; rfl
    have m1 := Zon.mom_bd z.f y r1 yb1 yb2
    have m2 := Zon.mom_bd z.t y r2 yb1 yb2
    clear hz hy nf hm nn
    by_cases hlt : z.f.m < z.t.m
    · by_cases hfs : Zon.mom z.f y ≤ s
      all_goals
        go_enter Tryz.func96, Tryz.ntmps96
        go_wp2_with (first
          | (go_at_call 97; refine (yc _).mono ?_; rintro e w1 ⟨m, d, rfl, hb⟩; obtain ⟨hc, hf⟩ := bcell hb; have hz : w.heap.size < w1.heap.size := by have := hb.size; simp at this; omega)
          | (go_at_call 106; have _ := hb2; refine (refmoment_any z.t y _ r2 yb1 yb2).mono ?_; rintro e w3 ⟨rfl, hb3⟩; obtain ⟨hc3, hf3⟩ := bcell hb3)
          | (go_at_call 106; refine (refmoment_any z.f y _ r1 yb1 yb2).mono ?_; rintro e w2 ⟨rfl, hb2⟩; obtain ⟨hc2, hf2⟩ := bcell hb2; have hz2 : w1.heap.size < w2.heap.size := (by have := hb2.size; simp at this; omega); have hz3 : w.heap.size < w2.heap.size := by omega))
        go_ret
        exact ⟨by rw [hS.out]; simp [hlt, hfs] <;> omega, below_then (below_then (below_more (below_then (below_more (Below.refl _ _) _) hb) _) hb2) hb3⟩
    · by_cases hst : s < Zon.mom z.t y
      all_goals
        go_enter Tryz.func96, Tryz.ntmps96
        go_wp2_with (first
          | (go_at_call 97; refine (yc _).mono ?_; rintro e w1 ⟨m, d, rfl, hb⟩; obtain ⟨hc, hf⟩ := bcell hb; have hz : w.heap.size < w1.heap.size := by have := hb.size; simp at this; omega)
          | (go_at_call 106; have _ := hb2; refine (refmoment_any z.t y _ r2 yb1 yb2).mono ?_; rintro e w3 ⟨rfl, hb3⟩; obtain ⟨hc3, hf3⟩ := bcell hb3)
          | (go_at_call 106; refine (refmoment_any z.f y _ r1 yb1 yb2).mono ?_; rintro e w2 ⟨rfl, hb2⟩; obtain ⟨hc2, hf2⟩ := bcell hb2; have hz2 : w1.heap.size < w2.heap.size := (by have := hb2.size; simp at this; omega); have hz3 : w.heap.size < w2.heap.size := by omega))
        go_ret
        exact ⟨by rw [hS.out, if_neg (by omega)]; simp [hst] <;> omega, below_then (below_then (below_more (below_then (below_more (Below.refl _ _) _) hb) _) hb2) hb3⟩

set_option maxHeartbeats 1000000 in
theorem refClock_no (z : Zon.Zn) (n : Int) (w : World) (h : Zon.clockB z n = false) :
    Calls Tryz.prog 78 #[.agg #[.int .i64 z.off, .int .i64 z.f.m, .int .i64 z.f.w, .int .i64 z.f.d, .int .i64 z.f.h, .int .i64 z.t.m, .int .i64 z.t.w, .int .i64 z.t.d, .int .i64 z.t.h], .int .i64 n] w fun e w' => e = .returned (.tuple #[.int .i64 0, .int .i64 0, .int .i64 3]) ∧ Below w.heap.size w w' := by
  cases hz : Zon.zoneB z
  case false =>
    clear h
    go_enter Tryz.func78, Tryz.ntmps78
    go_wp2_with (first | (go_at_call 74; refine (GoodZone_any z _).mono ?_; rintro e w1 ⟨rfl, hb⟩))
    go_ret3
    exact ⟨rfl, below_then (below_more (Below.refl _ _) _) hb⟩
  case true =>
    by_cases g1 : n < 0
    · clear h
      go_enter Tryz.func78, Tryz.ntmps78
      go_wp2_with (first | (go_at_call 74; refine (GoodZone_any z _).mono ?_; rintro e w1 ⟨rfl, hb⟩))
      go_ret3
      exact ⟨rfl, below_then (below_more (Below.refl _ _) _) hb⟩
    by_cases g2 : 52595999 < n
    · clear h
      go_enter Tryz.func78, Tryz.ntmps78
      go_wp2_with (first | (go_at_call 74; refine (GoodZone_any z _).mono ?_; rintro e w1 ⟨rfl, hb⟩))
      go_ret3
      exact ⟨rfl, below_then (below_more (Below.refl _ _) _) hb⟩
    have h1 : inB n 0 52595999 = true := inB_true (by omega) (by omega)
    obtain ⟨n1, n2⟩ := inB_iff.mp h1
    obtain ⟨⟨o1, o2⟩, _⟩ := Zon.zone_cases hz
    by_cases g3 : n + z.off < 0
    · clear h
      go_enter Tryz.func78, Tryz.ntmps78
      go_wp2_with (first | (go_at_call 74; refine (GoodZone_any z _).mono ?_; rintro e w1 ⟨rfl, hb⟩; obtain ⟨hc, hf⟩ := bcell hb; have hz : w.heap.size < w1.heap.size := by have := hb.size; simp at this; omega))
      go_ret3
      exact ⟨rfl, below_then (below_more (Below.refl _ _) _) hb⟩
    by_cases g4 : 52595999 < n + z.off
    · clear h
      go_enter Tryz.func78, Tryz.ntmps78
      go_wp2_with (first | (go_at_call 74; refine (GoodZone_any z _).mono ?_; rintro e w1 ⟨rfl, hb⟩; obtain ⟨hc, hf⟩ := bcell hb; have hz : w.heap.size < w1.heap.size := by have := hb.size; simp at this; omega))
      go_ret3
      exact ⟨rfl, below_then (below_more (Below.refl _ _) _) hb⟩
    have h2 : inB (n + z.off) 0 52595999 = true := inB_true (by omega) (by omega)
    have h3 : 52595999 < Zon.there z n := by simp [Zon.clockB, hz, h1, h2] at h; omega
    have hs : Zon.sumB z (n + z.off) = true := by
      cases g : Zon.sumB z (n + z.off)
      · simp [Zon.there, g] at h3; omega
      · rfl
    have h4 : 52595999 < n + z.off + 60 := by simpa [Zon.there, hs] using h3
    have hS : ∀ w, Calls Tryz.prog 96 #[.agg #[.int .i64 z.off, .int .i64 z.f.m, .int .i64 z.f.w, .int .i64 z.f.d, .int .i64 z.f.h, .int .i64 z.t.m, .int .i64 z.t.w, .int .i64 z.t.d, .int .i64 z.t.h], .int .i64 (n + z.off)] w fun e w' => e = .returned (.bool true) ∧ Below w.heap.size w w' := fun w => by
      have := summer_any z (n + z.off) w hz (by omega) (by omega); rw [hs] at this; exact this
    clear h h3 hs h1 h2
    go_enter Tryz.func78, Tryz.ntmps78
    go_wp2_with (first | (go_at_call 74; refine (GoodZone_any z _).mono ?_; rintro e w1 ⟨rfl, hb⟩; obtain ⟨hc, hf⟩ := bcell hb; have hz : w.heap.size < w1.heap.size := by have := hb.size; simp at this; omega) | (go_at_call 96; refine (hS _).mono ?_; rintro e w2 ⟨rfl, hb2⟩))
    go_ret3
    exact ⟨rfl, below_then (below_then (below_more (Below.refl _ _) _) hb) hb2⟩

set_option maxHeartbeats 1000000 in
theorem refClock_yes (z : Zon.Zn) (n : Int) (w : World) (h : Zon.clockB z n = true) :
    Calls Tryz.prog 78 #[.agg #[.int .i64 z.off, .int .i64 z.f.m, .int .i64 z.f.w, .int .i64 z.f.d, .int .i64 z.f.h, .int .i64 z.t.m, .int .i64 z.t.w, .int .i64 z.t.d, .int .i64 z.t.h], .int .i64 n] w fun e w' => e = .returned (.tuple #[.int .i64 (Zon.there z n / 1440), .int .i64 (Zon.there z n % 1440), .int .i64 0]) ∧ Below w.heap.size w w' := by
  simp only [Zon.clockB, Bool.and_eq_true, decide_eq_true_eq] at h
  obtain ⟨⟨⟨hz, h1⟩, h2⟩, h3⟩ := h
  obtain ⟨n1, n2⟩ := inB_iff.mp h1
  obtain ⟨m1, m2⟩ := inB_iff.mp h2
  obtain ⟨⟨o1, o2⟩, _⟩ := Zon.zone_cases hz
  cases hs : Zon.sumB z (n + z.off)
  all_goals
    have hT : Hid (Zon.there z n = if Zon.sumB z (n + z.off) then n + z.off + 60 else n + z.off) := rfl
    have hT' := hT.out
    rw [hs] at hT'
    simp only [Bool.false_eq_true, if_false, if_true] at hT'
    have HT : Hid (Zon.there z n = _) := hT'
    rw [hT'] at h3
    have hS : ∀ w, Calls Tryz.prog 96 #[.agg #[.int .i64 z.off, .int .i64 z.f.m, .int .i64 z.f.w, .int .i64 z.f.d, .int .i64 z.f.h, .int .i64 z.t.m, .int .i64 z.t.w, .int .i64 z.t.d, .int .i64 z.t.h], .int .i64 (n + z.off)] w fun e w' => e = .returned (.bool (Zon.sumB z (n + z.off))) ∧ Below w.heap.size w w' := fun w => summer_any z (n + z.off) w hz m1 m2
    clear hT hT' h1 h2
    go_enter Tryz.func78, Tryz.ntmps78
    go_wp2_with (first | (go_at_call 74; refine (GoodZone_any z _).mono ?_; rintro e w1 ⟨rfl, hb⟩; obtain ⟨hc, hf⟩ := bcell hb; have hz : w.heap.size < w1.heap.size := by have := hb.size; simp at this; omega) | (go_at_call 96; refine (hS _).mono ?_; rintro e w2 ⟨rfl, hb2⟩))
    go_ret3
    exact ⟨by rw [HT.out]; rfl, below_then (below_then (below_more (Below.refl _ _) _) hb) hb2⟩

end Go.Proofs.YtjaffmmocbplaabGreatDoor
