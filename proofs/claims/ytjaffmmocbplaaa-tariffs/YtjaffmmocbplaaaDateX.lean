/-
  The walks of Date: the program's and the document's (the days counted one by one).
-/
import Derived.Test.YtjaffmmocbplaaaDateW
import Derived.WalkSmall
namespace Go.Proofs.Ytjaffmmocbplaaa
open Go.RowKit
set_option linter.unusedVariables false

theorem bcell {W w1 : World} (hb : Below W.heap.size W w1) : (∀ b o, b < W.heap.size → w1.cell? ⟨b, o, none⟩ = W.cell? ⟨b, o, none⟩) ∧ (∀ b o, b < W.heap.size → w1.frozen? ⟨b, o, none⟩ = W.frozen? ⟨b, o, none⟩) :=
  ⟨fun b o h => hb.cell (p := ⟨b, o, none⟩) h, fun b o h => hb.frozen (p := ⟨b, o, none⟩) h⟩

/-- a new block behind what the call has made so far -/
theorem below_more {W w : World} (h : Below W.heap.size W w) (o : Obj) : Below W.heap.size W (w.alloc o) := h.alloc h.size o
/-- a call behind what the call has made so far -/
theorem below_then {W w w' : World} (h : Below W.heap.size W w) (h' : Below w.heap.size w w') : Below W.heap.size W w' := h.trans (h'.mono h.size)

theorem ret_date {a b c : Int} {v : Value} {a' b' c' : Int} (h : a = a') (h' : b = b') (h'' : c = c') : Ending.returned (.tuple #[.int .i64 a, .int .i64 b, .int .i64 c, v]) = .returned (.tuple #[.int .i64 a', .int .i64 b', .int .i64 c', v]) := by rw [h, h', h'']

set_option maxHeartbeats 400000 in
theorem Date_no (n : Int) (w : World) (h : ¬ (0 ≤ n ∧ n ≤ 36524)) :
    Calls Try.prog 11 #[.int .i64 n] w fun e w' => e = .returned (.tuple #[.int .i64 0, .int .i64 0, .int .i64 0, .int .i64 3]) ∧ w' = w := by
  have hn := inB_false h
  clear h
  go_enter Try.func11, Try.ntmps11
  go_wp2_with (go_at_call 35; refine (within_any _ _ _ _).mono ?_; rintro e w' ⟨rfl, rfl⟩)
  exact bodyPost_ret (v := .tuple #[.int .i64 0, .int .i64 0, .int .i64 0, .int .i64 3]) (by simp [results, Try.results11, go_sem]) rfl ⟨rfl, rfl⟩

set_option maxHeartbeats 1000000 in
theorem Date_yes (n : Int) (w : World) (h1 : 0 ≤ n) (h2 : n ≤ 36524) :
    Calls Try.prog 11 #[.int .i64 n] w fun e w' => ∃ y m d : Int, e = .returned (.tuple #[.int .i64 y, .int .i64 m, .int .i64 d, .int .i64 0]) ∧ Cal.Ok y m d ∧ y ≤ 2099 ∧ Cal.num y m d = n ∧ w' = w := by
  have hn := inB_true h1 h2
  obtain ⟨y, hy⟩ : ∃ y, y = Cal.yr n := ⟨_, rfl⟩
  have yb := Cal.yr_bd n h1 h2
  have yl := Cal.yr_lo n h1
  have yh := Cal.yr_hi n h1
  rw [← hy] at yb yl yh
  obtain ⟨yb1, yb2⟩ := yb
  have ysb := Cal.ys_bd y yb1 (by omega)
  have yss : n - Cal.ys y < 365 + Cal.lp y := by have := Cal.ys_succ y yb1; omega
  have HY : Hid (y = Cal.yr n) := hy
  have yc : ∀ w, Calls Try.prog 36 #[.int .i64 n] w fun e w' => e = .returned (.int .i64 y) ∧ w' = w := fun w => by rw [hy]; exact yearOf_any n w h1 h2
  clear hy yh
  go_enter Try.func11, Try.ntmps11
  go_wp2_with (first | (go_at_call 35; refine (within_any _ _ _ _).mono ?_; rintro e w' ⟨rfl, rfl⟩) | (go_at_call 36; refine (yc _).mono ?_; rintro e w' ⟨rfl, rfl⟩) | (go_at_call 37; refine (yearStart_any _ _ (by omega) (by omega)).mono ?_; rintro e w' ⟨rfl, rfl⟩))
  go_loop [7, 8] (fun k r => ∃ m : Int, 1 ≤ m ∧ m ≤ 12 ∧ k = .int .i64 m ∧ 0 ≤ n - Cal.ys y - Cal.cum y m ∧ r = .int .i64 (n - Cal.ys y - Cal.cum y m)) (fun k _ => (12 - intOf k).toNat)
  case atStart => exact ⟨1, by omega, by omega, rfl, by rw [Cal.cum_one]; omega, by rw [Cal.cum_one]; simp⟩
  case round =>
    obtain ⟨m, hm1, hm2, rfl, hr, rfl⟩ := hrel
    have cb := Cal.cum_bd y m hm1 (by omega)
    have mb := Cal.md_bd y m
    by_cases hc : m < 12 ∧ Cal.md y m ≤ n - Cal.ys y - Cal.cum y m
    · obtain ⟨hm, hd⟩ := hc
      have cs : Hid (Cal.cum y (m + 1) = Cal.cum y m + Cal.md y m) := Cal.cum_succ y m hm1 hm2
      go_wp2_with (go_at_call 38; refine (monthDays_any _ _ _ (by omega) (by omega)).mono ?_; rintro e w' ⟨rfl, rfl⟩)
      go_round
      case rel => exact ⟨m + 1, by omega, by omega, rfl, by rw [cs.out]; omega, by rw [cs.out]; go_num⟩
      case measure => simp [intOf]; omega
    · have hv : n - Cal.ys y - Cal.cum y m < Cal.md y m := by
        by_cases e : m = 12
        · subst e; have := Cal.cum_succ y 12 (by omega) (by omega); have h13 : Cal.cum y (12 + 1) = 365 + Cal.lp y := Cal.cum_13 y; omega
        · omega
      clear hc
      by_cases hm : m < 12
      all_goals
        go_wp2_with (go_at_call 38; refine (monthDays_any _ _ _ (by omega) (by omega)).mono ?_; rintro e w' ⟨rfl, rfl⟩)
        exact bodyPost_ret (v := .tuple #[.int .i64 y, .int .i64 m, .int .i64 (n - Cal.ys y - Cal.cum y m + 1), .int .i64 0]) (by simp [results, Try.results11, go_sem]) rfl ⟨y, m, _, rfl, ⟨yb1, hm1, hm2, by omega, by omega⟩, yb2, by unfold Cal.num; omega, rfl⟩

theorem Day_any (y m d : Int) (w : World) :
    Calls Try.prog 13 #[.int .i64 y, .int .i64 m, .int .i64 d] w fun e w' => e = .returned (.tuple #[.int .i64 (Cal.dayN y m d), .int .i64 (Cal.dayE y m d)]) ∧ w' = w := by
  by_cases h : Cal.Ok y m d ∧ y ≤ 2099
  · rw [Cal.dayN_yes h.1 h.2, Cal.dayE_yes h.1 h.2]; exact Day_yes y m d w h.1 h.2
  · rw [Cal.dayN_no h, Cal.dayE_no h]; exact Day_no y m d w h
/-- what Date answers, as numbers -/
theorem date_of (n : Int) (h1 : 0 ≤ n) (h2 : n ≤ 36524) : ∃ y m d : Int, Cal.Ok y m d ∧ y ≤ 2099 ∧ Cal.num y m d = n := by
  obtain ⟨y, m, d, hok, hn⟩ : ∃ y m d : Int, Cal.Ok y m d ∧ Cal.num y m d = n := Cal.date_ex n h1
  exact ⟨y, m, d, hok, Cal.num_year hok (by omega), hn⟩
theorem date_at (n : Int) (h1 : 0 ≤ n) (h2 : n ≤ 36524) : ∃ y m d : Int, Cal.Ok y m d ∧ y ≤ 2099 ∧ Cal.num y m d = n ∧
    ∀ w, Calls Try.prog 11 #[.int .i64 n] w fun e w' => e = .returned (.tuple #[.int .i64 y, .int .i64 m, .int .i64 d, .int .i64 0]) ∧ w' = w := by
  obtain ⟨y, m, d, hok, hy, hn⟩ := date_of n h1 h2
  refine ⟨y, m, d, hok, hy, hn, fun w => (Date_yes n w h1 h2).mono ?_⟩
  rintro e w' ⟨y', m', d', rfl, hok', _, hn', rfl⟩
  obtain ⟨rfl, rfl, rfl⟩ := Cal.num_inj hok hok' (hn.trans hn'.symm)
  exact ⟨rfl, rfl⟩

set_option maxHeartbeats 400000 in
theorem num_any (n : Int) (w : World) :
    Calls Try.prog 15 #[.int .i64 n] w fun e w' => e = .returned (.int .i64 n) ∧ w' = w := by
  go_enter Try.func15, Try.ntmps15
  go_wp2
  go_ret
  exact ⟨rfl, rfl⟩

/-- the day behind a date -/
def aft (y m d : Int) : Int × Int × Int := if d < Cal.md y m then (y, m, d + 1) else if m < 12 then (y, m + 1, 1) else (y + 1, 1, 1)
theorem aft_ok {y m d : Int} (h : Cal.Ok y m d) : Cal.Ok (aft y m d).1 (aft y m d).2.1 (aft y m d).2.2 ∧ Cal.num (aft y m d).1 (aft y m d).2.1 (aft y m d).2.2 = Cal.num y m d + 1 := by
  have h' := h
  obtain ⟨a, b, c, e, f⟩ := h'
  by_cases hd : d < Cal.md y m
  · have e1 : aft y m d = (y, m, d + 1) := by simp [aft, hd]
    rw [e1]; exact Cal.next_day h hd
  · by_cases hm : m < 12
    · have e1 : aft y m d = (y, m + 1, 1) := by simp [aft, hd, hm]
      have q := Cal.next_month h (by omega) hm
      rw [e1]; exact q
    · have e1 : aft y m d = (y + 1, 1, 1) := by simp [aft, hd, hm]
      have q := Cal.next_year h (by omega) (by omega)
      rw [e1]; exact q

set_option maxHeartbeats 400000 in
theorem after_any (y m d : Int) (w : World) (h0 : 0 ≤ y) (h1 : y ≤ 9999) (h2 : 0 ≤ m) (h3 : m ≤ 12) (h4 : 0 ≤ d) (h5 : d ≤ 31) :
    Calls Try.prog 71 #[.agg #[.int .i64 y, .int .i64 m, .int .i64 d]] w fun e w' => e = .returned (.agg #[.int .i64 (aft y m d).1, .int .i64 (aft y m d).2.1, .int .i64 (aft y m d).2.2]) ∧ Below w.heap.size w w' := by
  by_cases hd : d < Cal.md y m
  · have e1 : aft y m d = (y, m, d + 1) := by simp [aft, hd]
    rw [e1]
    clear e1
    go_enter Try.func71, Try.ntmps71
    go_wp2_with fail
    go_quiet ((go_at_call 41; exact Calls.quiet_of_same (length_any _ _ _ (by omega) (by omega))))
    go_wp2_with fail
    refine bodyPost_ret (v := .agg #[.int .i64 y, .int .i64 m, .int .i64 (d + 1)]) (by simp [results, Try.results71, go_sem]) rfl ⟨rfl, ?_⟩
    repeat (first | exact Below.refl _ _ | refine Below.setCell ?_ (by simp) _ | refine below_drewN ?_ _ | refine Below.alloc ?_ (by simp) _)
  · by_cases hm : m < 12
    · have e1 : aft y m d = (y, m + 1, 1) := by simp [aft, hd, hm]
      rw [e1]
      clear e1
      go_enter Try.func71, Try.ntmps71
      go_wp2_with fail
      go_quiet ((go_at_call 41; exact Calls.quiet_of_same (length_any _ _ _ (by omega) (by omega))))
      go_wp2_with fail
      refine bodyPost_ret (v := .agg #[.int .i64 y, .int .i64 (m + 1), .int .i64 1]) (by simp [results, Try.results71, go_sem]) rfl ⟨rfl, ?_⟩
      repeat (first | exact Below.refl _ _ | refine Below.setCell ?_ (by simp) _ | refine below_drewN ?_ _ | refine Below.alloc ?_ (by simp) _)
    · have e1 : aft y m d = (y + 1, 1, 1) := by simp [aft, hd, hm]
      rw [e1]
      clear e1
      go_enter Try.func71, Try.ntmps71
      go_wp2_with fail
      go_quiet ((go_at_call 41; exact Calls.quiet_of_same (length_any _ _ _ (by omega) (by omega))))
      go_wp2_with fail
      refine bodyPost_ret (v := .agg #[.int .i64 (y + 1), .int .i64 1, .int .i64 1]) (by simp [results, Try.results71, go_sem]) rfl ⟨rfl, ?_⟩
      repeat (first | exact Below.refl _ _ | refine Below.setCell ?_ (by simp) _ | refine below_drewN ?_ _ | refine Below.alloc ?_ (by simp) _)

set_option maxHeartbeats 400000 in
theorem dated_any (n : Int) (w : World) (h1 : 0 ≤ n) (h2 : n ≤ 36524) :
    Calls Try.prog 39 #[.int .i64 n] w fun e w' => ∃ y m d : Int, e = .returned (.agg #[.int .i64 y, .int .i64 m, .int .i64 d]) ∧ Cal.Ok y m d ∧ y ≤ 2099 ∧ Cal.num y m d = n ∧ Below w.heap.size w w' := by
  go_enter Try.func39, Try.ntmps39
  go_wp2_with fail
  go_loopw [4] (fun i wr => ∃ k y m d : Int, i = .int .i64 k ∧ 0 ≤ k ∧ k ≤ n ∧ Cal.Ok y m d ∧ Cal.num y m d = k ∧ w.heap.size + 1 < wr.heap.size ∧
      wr.cell? ⟨w.heap.size + 1, 0, none⟩ = some (.int .i64 y) ∧ wr.cell? ⟨w.heap.size + 1, 1, none⟩ = some (.int .i64 m) ∧ wr.cell? ⟨w.heap.size + 1, 2, none⟩ = some (.int .i64 d) ∧
      wr.frozen? ⟨w.heap.size + 1, 0, none⟩ = false ∧ wr.frozen? ⟨w.heap.size + 1, 1, none⟩ = false ∧ wr.frozen? ⟨w.heap.size + 1, 2, none⟩ = false ∧
      wr.frozen? ⟨w.heap.size, 0, none⟩ = false ∧ wr.frozen? ⟨w.heap.size, 1, none⟩ = false ∧ wr.frozen? ⟨w.heap.size, 2, none⟩ = false ∧
      wr.cell? ⟨w.heap.size, 0, none⟩ = some (.int .i64 0) ∧ wr.cell? ⟨w.heap.size, 1, none⟩ = some (.int .i64 0) ∧ wr.cell? ⟨w.heap.size, 2, none⟩ = some (.int .i64 0) ∧ Below w.heap.size w wr)
    (fun i _ => (n - intOf i).toNat)
  case atStart =>
    refine ⟨0, 2000, 1, 1, rfl, by omega, by omega, ⟨by omega, by omega, by omega, by omega, by decide⟩, by decide, by simp, by simp [go_sem], by simp [go_sem], by simp [go_sem], by simp [go_sem], by simp [go_sem], by simp [go_sem], by simp [go_sem], by simp [go_sem], by simp [go_sem], by simp [go_sem], by simp [go_sem], by simp [go_sem], ?_⟩
    repeat (first | exact Below.refl _ _ | refine Below.alloc ?_ (by simp) _)
  case round =>
    obtain ⟨k, y, m, d, rfl, hk0, hk1, hok, hnum, hsz, c0, c1, c2, f0, f1, f2, g0, g1, g2, r0, r1, r2, hb⟩ := hrel
    have HN : Hid (Cal.num y m d = k) := hnum
    have hy : y ≤ 2099 := Cal.num_year hok (by omega)
    have hok' := hok
    obtain ⟨o1, o2, o3, o4, o5⟩ := hok'
    have mb := Cal.md_bd y m
    have A := aft_ok hok
    have HA : Hid (Cal.Ok (aft y m d).1 (aft y m d).2.1 (aft y m d).2.2 ∧ Cal.num (aft y m d).1 (aft y m d).2.1 (aft y m d).2.2 = k + 1) := by rw [hnum] at A; exact A
    clear hnum A
    by_cases hlt : k < n
    · go_wp2_with (go_at_call 71; refine (after_any y m d _ (by omega) (by omega) (by omega) (by omega) (by omega) (by omega)).mono ?_; rintro e w1 ⟨rfl, hb1⟩; obtain ⟨hc, hf⟩ := bcell hb1; have hz := hb1.size)
      go_roundw
      case rel =>
        have hs0 : w.heap.size < wr.heap.size := by omega
        refine ⟨k + 1, _, _, _, rfl, by omega, by omega, HA.out.1, HA.out.2, by simp; omega, ?_, ?_, ?_, ?_, ?_, ?_, ?_, ?_, ?_, ?_, ?_, ?_, ?_⟩
        any_goals simp [go_sem, hc, hf, hsz, hs0, c0, c1, c2, f0, f1, f2, g0, g1, g2, r0, r1, r2]
        exact (((hb.trans (hb1.mono (by omega))).setCell (by simp) _).setCell (by simp) _).setCell (by simp) _
      case measure => simp [intOf]; omega
    · have hkn : k = n := by omega
      subst hkn
      go_wp2_with fail
      refine bodyPost_ret (v := .agg #[.int .i64 y, .int .i64 m, .int .i64 d]) (by simp [results, Try.results39, go_sem, r0, r1, r2]) rfl ⟨y, m, d, rfl, hok, hy, HN.out, ?_⟩
      repeat (first | exact hb | refine Below.setCell ?_ (by simp) _ | refine Below.alloc ?_ (by simp) _)

set_option maxHeartbeats 400000 in
theorem refDate_no (n : Int) (w : World) (h : ¬ (0 ≤ n ∧ n ≤ 36524)) :
    Calls Try.prog 12 #[.int .i64 n] w fun e w' => e = .returned (.tuple #[.int .i64 0, .int .i64 0, .int .i64 0, .int .i64 3]) ∧ w' = w := by
  by_cases h1 : n < 0
  all_goals
    try (have h2 : 36524 < n := by omega)
    clear h
    go_enter Try.func12, Try.ntmps12
    go_wp2_with fail
    exact bodyPost_ret (v := .tuple #[.int .i64 0, .int .i64 0, .int .i64 0, .int .i64 3]) (by simp [results, Try.results12, go_sem]) rfl ⟨rfl, rfl⟩

set_option maxHeartbeats 400000 in
theorem refDate_yes (n : Int) (w : World) (h1 : 0 ≤ n) (h2 : n ≤ 36524) :
    Calls Try.prog 12 #[.int .i64 n] w fun e w' => ∃ y m d : Int, e = .returned (.tuple #[.int .i64 y, .int .i64 m, .int .i64 d, .int .i64 0]) ∧ Cal.Ok y m d ∧ y ≤ 2099 ∧ Cal.num y m d = n ∧ Below w.heap.size w w' := by
  go_enter Try.func12, Try.ntmps12
  go_wp2_with (go_at_call 39; refine (dated_any n _ h1 h2).mono ?_; rintro e w1 ⟨y, m, d, rfl, hok, hy, hn, hb⟩; have HN : Hid (Cal.num y m d = n) := hn; clear hn; have hz := hb.size)
  go_quiet (fail)
  go_wp2_with fail
  refine bodyPost_ret (v := .tuple #[.int .i64 y, .int .i64 m, .int .i64 d, .int .i64 0]) (by simp [results, Try.results12, go_sem]) rfl ⟨y, m, d, rfl, hok, hy, HN.out, ?_⟩
  repeat (first | exact hb | refine Below.setCell ?_ (by simp) _ | refine below_drewN ?_ _ | refine Below.alloc ?_ (by first | omega | (simp; omega)) _)

end Go.Proofs.Ytjaffmmocbplaaa
