/-
  DateW, DateX in one text.
-/
import Derived.Test.YtjaffmmocbplaabGreatDoorJ01
import Derived.BigQuiet
import Derived.Deep.QuietTactic
import Derived.WalkSmall
namespace Go.Proofs.YtjaffmmocbplaabGreatDoor
open Go.RowKit
set_option linter.unusedVariables false

theorem ret_two {a b : Int} {v : Value} (h : a = b) : Ending.returned (.tuple #[.int .i64 a, v]) = .returned (.tuple #[.int .i64 b, v]) := by rw [h]

set_option maxHeartbeats 400000 in
theorem refDay_no (y m d : Int) (w : World) (h : ¬ (Cal.Ok y m d ∧ y ≤ 2099)) :
    Calls Tryz.prog 114 #[.int .i64 y, .int .i64 m, .int .i64 d] w fun e w' => e = .returned (.tuple #[.int .i64 0, .int .i64 3]) ∧ w' = w := by
  unfold Cal.Ok at h
  by_cases ha : y < 2000
  · clear h
    go_enter Tryz.func114, Tryz.ntmps114
    go_wp2_with fail
    go_ret2
    exact ⟨rfl, rfl⟩
  by_cases hb : 2099 < y
  · clear h
    go_enter Tryz.func114, Tryz.ntmps114
    go_wp2_with fail
    go_ret2
    exact ⟨rfl, rfl⟩
  by_cases hc : m < 1
  · clear h
    go_enter Tryz.func114, Tryz.ntmps114
    go_wp2_with fail
    go_ret2
    exact ⟨rfl, rfl⟩
  by_cases hd : 12 < m
  · clear h
    go_enter Tryz.func114, Tryz.ntmps114
    go_wp2_with fail
    go_ret2
    exact ⟨rfl, rfl⟩
  by_cases he : d < 1
  · clear h
    go_enter Tryz.func114, Tryz.ntmps114
    go_wp2_with fail
    go_ret2
    exact ⟨rfl, rfl⟩
  · have hf : Cal.md y m < d := by omega
    clear h
    go_enter Tryz.func114, Tryz.ntmps114
    go_wp2_with (first | (go_at_call 115; refine (length_any _ _ _ (by omega) (by omega)).mono ?_; rintro e w' ⟨rfl, rfl⟩))
    go_ret2
    exact ⟨rfl, rfl⟩

set_option maxHeartbeats 1000000 in
theorem refDay_yes (y m d : Int) (w : World) (h : Cal.Ok y m d) (h' : y ≤ 2099) :
    Calls Tryz.prog 114 #[.int .i64 y, .int .i64 m, .int .i64 d] w fun e w' => e = .returned (.tuple #[.int .i64 (Cal.num y m d), .int .i64 0]) ∧ w' = w := by
  obtain ⟨h1, h2, h3, h4, h5⟩ := h
  have mb := Cal.md_bd y m
  go_enter Tryz.func114, Tryz.ntmps114
  go_wp2_with (first | (go_at_call 115; refine (length_any _ _ _ (by omega) (by omega)).mono ?_; rintro e w' ⟨rfl, rfl⟩))
  go_loop [8, 9] (fun n k => ∃ j : Int, 2000 ≤ j ∧ j ≤ y ∧ k = .int .i64 j ∧ n = .int .i64 (d - 1 + Cal.ys j)) (fun _ k => (y - intOf k).toNat)
  case atStart => exact ⟨2000, by omega, by omega, rfl, by simp [Cal.ys]⟩
  case round =>
    obtain ⟨j, hj1, hj2, rfl, rfl⟩ := hrel
    have yb := Cal.ys_bd j hj1 (by omega)
    by_cases hlt : j < y
    · go_wp2_with fail
      go_loop [8, 10] (fun n k => ∃ i : Int, 1 ≤ i ∧ i ≤ 13 ∧ k = .int .i64 i ∧ n = .int .i64 (d - 1 + Cal.ys j + Cal.cum j i)) (fun _ k => (13 - intOf k).toNat)
      case atStart => exact ⟨1, by omega, by omega, rfl, by rw [Cal.cum_one]; simp⟩
      case round =>
        obtain ⟨i, hi1, hi2, rfl, rfl⟩ := hrel
        have cb := Cal.cum_bd j i hi1 hi2
        have ib := Cal.md_bd j i
        by_cases hle : i ≤ 12
        · have cs : Hid (Cal.cum j (i + 1) = Cal.cum j i + Cal.md j i) := Cal.cum_succ j i hi1 hle
          go_wp2_with (first | (go_at_call 115; refine (length_any _ _ _ (by omega) (by omega)).mono ?_; rintro e w' ⟨rfl, rfl⟩))
          go_round
          case rel => exact ⟨i + 1, by omega, by omega, rfl, by rw [cs.out]; go_num⟩
          case measure => simp [intOf]; omega
        · have h13 : i = 13 := by omega
          have cs : Hid (d - 1 + Cal.ys (j + 1) = d - 1 + Cal.ys j + Cal.cum j 13) := by have a := Cal.ys_succ j hj1; have b := Cal.cum_13 j; exact (by omega : d - 1 + Cal.ys (j + 1) = d - 1 + Cal.ys j + Cal.cum j 13)
          subst h13
          go_wp2_with fail
          go_round
          case rel => exact ⟨j + 1, by omega, by omega, rfl, by rw [cs.out]⟩
          case measure => simp [intOf]; omega
    · have hjy : j = y := by omega
      subst hjy
      go_wp2_with fail
      go_loop [8, 11] (fun n k => ∃ i : Int, 1 ≤ i ∧ i ≤ m ∧ k = .int .i64 i ∧ n = .int .i64 (d - 1 + Cal.ys j + Cal.cum j i)) (fun _ k => (m - intOf k).toNat)
      case atStart => exact ⟨1, by omega, by omega, rfl, by rw [Cal.cum_one]; simp⟩
      case round =>
        obtain ⟨i, hi1, hi2, rfl, rfl⟩ := hrel
        have cb := Cal.cum_bd j i hi1 (by omega)
        have ib := Cal.md_bd j i
        by_cases hlt' : i < m
        · have cs : Hid (Cal.cum j (i + 1) = Cal.cum j i + Cal.md j i) := Cal.cum_succ j i hi1 (by omega)
          go_wp2_with (first | (go_at_call 115; refine (length_any _ _ _ (by omega) (by omega)).mono ?_; rintro e w' ⟨rfl, rfl⟩))
          go_round
          case rel => exact ⟨i + 1, by omega, by omega, rfl, by rw [cs.out]; go_num⟩
          case measure => simp [intOf]; omega
        · have him : i = m := by omega
          subst him
          go_wp2_with fail
          go_ret2
          exact ⟨ret_two (by unfold Cal.num; omega), rfl⟩

end Go.Proofs.YtjaffmmocbplaabGreatDoor

namespace Go.Proofs.YtjaffmmocbplaabGreatDoor
open Go.RowKit
set_option linter.unusedVariables false

theorem bcell {W w1 : World} (hb : Below W.heap.size W w1) : (∀ b o, b < W.heap.size → w1.cell? ⟨b, o, none⟩ = W.cell? ⟨b, o, none⟩) ∧ (∀ b o, b < W.heap.size → w1.frozen? ⟨b, o, none⟩ = W.frozen? ⟨b, o, none⟩) :=
  ⟨fun b o h => hb.cell (p := ⟨b, o, none⟩) h, fun b o h => hb.frozen (p := ⟨b, o, none⟩) h⟩

/-- a new block behind what the call has made so far -/
theorem below_more {W w : World} (h : Below W.heap.size W w) (o : Obj) : Below W.heap.size W (w.alloc o) := h.alloc h.size o
/-- a call behind what the call has made so far -/
theorem below_then {W w w' : World} (h : Below W.heap.size W w) (h' : Below w.heap.size w w') : Below W.heap.size W w' := h.trans (h'.mono h.size)

theorem ret_date {a b c : Int} {v : Value} {a' b' c' : Int} (h : a = a') (h' : b = b') (h'' : c = c') : Ending.returned (.tuple #[.int .i64 a, .int .i64 b, .int .i64 c, v]) = .returned (.tuple #[.int .i64 a', .int .i64 b', .int .i64 c', v]) := by rw [h, h', h'']

/-- what Date answers, as numbers -/
theorem date_of (n : Int) (h1 : 0 ≤ n) (h2 : n ≤ 36524) : ∃ y m d : Int, Cal.Ok y m d ∧ y ≤ 2099 ∧ Cal.num y m d = n := by
  obtain ⟨y, m, d, hok, hn⟩ : ∃ y m d : Int, Cal.Ok y m d ∧ Cal.num y m d = n := Cal.date_ex n h1
  exact ⟨y, m, d, hok, Cal.num_year hok (by omega), hn⟩
set_option maxHeartbeats 400000 in
theorem num_any (n : Int) (w : World) :
    Calls Tryz.prog 6 #[.int .i64 n] w fun e w' => e = .returned (.int .i64 n) ∧ w' = w := by
  go_enter Tryz.func6, Tryz.ntmps6
  go_wp2
  go_ret
  exact ⟨rfl, rfl⟩

/-- the day behind a date -/
def aft (y m d : Int) : Int × Int × Int := if d < Cal.md y m then (y, m, d + 1) else if m < 12 then (y, m + 1, 1) else (y + 1, 1, 1)
theorem aft_ok {y m d : Int} (h : Cal.Ok y m d) : Cal.Ok (aft y m d).1 (aft y m d).2.1 (aft y m d).2.2 ∧ Cal.num (aft y m d).1 (aft y m d).2.1 (aft y m d).2.2 = Cal.num y m d + 1 := by
  have h' := h
  obtain ⟨a, b, c, e, f⟩ := h'
  by_cases hd : d < Cal.md y m
  · have e1 : aft y m d = (y, m, d + 1) := by simp [aft, hd]
    rw [e1]; exact Cal.next_day h hd
  · by_cases hm : m < 12
    · have e1 : aft y m d = (y, m + 1, 1) := by simp [aft, hd, hm]
      have q := Cal.next_month h (by omega) hm
      rw [e1]; exact q
    · have e1 : aft y m d = (y + 1, 1, 1) := by simp [aft, hd, hm]
      have q := Cal.next_year h (by omega) (by omega)
      rw [e1]; exact q

set_option maxHeartbeats 400000 in
theorem after_any (y m d : Int) (w : World) (h0 : 0 ≤ y) (h1 : y ≤ 9999) (h2 : 0 ≤ m) (h3 : m ≤ 12) (h4 : 0 ≤ d) (h5 : d ≤ 31) :
    Calls Tryz.prog 107 #[.agg #[.int .i64 y, .int .i64 m, .int .i64 d]] w fun e w' => e = .returned (.agg #[.int .i64 (aft y m d).1, .int .i64 (aft y m d).2.1, .int .i64 (aft y m d).2.2]) ∧ Below w.heap.size w w' := by
  by_cases hd : d < Cal.md y m
  · have e1 : aft y m d = (y, m, d + 1) := by simp [aft, hd]
    rw [e1]
    clear e1
    go_enter Tryz.func107, Tryz.ntmps107
    go_wp2_with fail
    go_quiet ((go_at_call 115; exact Calls.quiet_of_same (length_any _ _ _ (by omega) (by omega))))
    go_wp2_with fail
    refine bodyPost_ret (v := .agg #[.int .i64 y, .int .i64 m, .int .i64 (d + 1)]) (by simp [results, Tryz.results107, go_sem]) rfl ⟨rfl, ?_⟩
    repeat (first | exact Below.refl _ _ | refine Below.setCell ?_ (by simp) _ | refine below_drewN ?_ _ | refine Below.alloc ?_ (by simp) _)
  · by_cases hm : m < 12
    · have e1 : aft y m d = (y, m + 1, 1) := by simp [aft, hd, hm]
      rw [e1]
      clear e1
      go_enter Tryz.func107, Tryz.ntmps107
      go_wp2_with fail
      go_quiet ((go_at_call 115; exact Calls.quiet_of_same (length_any _ _ _ (by omega) (by omega))))
      go_wp2_with fail
      refine bodyPost_ret (v := .agg #[.int .i64 y, .int .i64 (m + 1), .int .i64 1]) (by simp [results, Tryz.results107, go_sem]) rfl ⟨rfl, ?_⟩
      repeat (first | exact Below.refl _ _ | refine Below.setCell ?_ (by simp) _ | refine below_drewN ?_ _ | refine Below.alloc ?_ (by simp) _)
    · have e1 : aft y m d = (y + 1, 1, 1) := by simp [aft, hd, hm]
      rw [e1]
      clear e1
      go_enter Tryz.func107, Tryz.ntmps107
      go_wp2_with fail
      go_quiet ((go_at_call 115; exact Calls.quiet_of_same (length_any _ _ _ (by omega) (by omega))))
      go_wp2_with fail
      refine bodyPost_ret (v := .agg #[.int .i64 (y + 1), .int .i64 1, .int .i64 1]) (by simp [results, Tryz.results107, go_sem]) rfl ⟨rfl, ?_⟩
      repeat (first | exact Below.refl _ _ | refine Below.setCell ?_ (by simp) _ | refine below_drewN ?_ _ | refine Below.alloc ?_ (by simp) _)

set_option maxHeartbeats 400000 in
theorem dated_any (n : Int) (w : World) (h1 : 0 ≤ n) (h2 : n ≤ 36524) :
    Calls Tryz.prog 97 #[.int .i64 n] w fun e w' => ∃ y m d : Int, e = .returned (.agg #[.int .i64 y, .int .i64 m, .int .i64 d]) ∧ Cal.Ok y m d ∧ y ≤ 2099 ∧ Cal.num y m d = n ∧ Below w.heap.size w w' := by
  go_enter Tryz.func97, Tryz.ntmps97
  go_wp2_with fail
  go_loopw [4] (fun i wr => ∃ k y m d : Int, i = .int .i64 k ∧ 0 ≤ k ∧ k ≤ n ∧ Cal.Ok y m d ∧ Cal.num y m d = k ∧ w.heap.size + 1 < wr.heap.size ∧
      wr.cell? ⟨w.heap.size + 1, 0, none⟩ = some (.int .i64 y) ∧ wr.cell? ⟨w.heap.size + 1, 1, none⟩ = some (.int .i64 m) ∧ wr.cell? ⟨w.heap.size + 1, 2, none⟩ = some (.int .i64 d) ∧
      wr.frozen? ⟨w.heap.size + 1, 0, none⟩ = false ∧ wr.frozen? ⟨w.heap.size + 1, 1, none⟩ = false ∧ wr.frozen? ⟨w.heap.size + 1, 2, none⟩ = false ∧
      wr.frozen? ⟨w.heap.size, 0, none⟩ = false ∧ wr.frozen? ⟨w.heap.size, 1, none⟩ = false ∧ wr.frozen? ⟨w.heap.size, 2, none⟩ = false ∧
      wr.cell? ⟨w.heap.size, 0, none⟩ = some (.int .i64 0) ∧ wr.cell? ⟨w.heap.size, 1, none⟩ = some (.int .i64 0) ∧ wr.cell? ⟨w.heap.size, 2, none⟩ = some (.int .i64 0) ∧ Below w.heap.size w wr)
    (fun i _ => (n - intOf i).toNat)
  case atStart =>
    refine ⟨0, 2000, 1, 1, rfl, by omega, by omega, ⟨by omega, by omega, by omega, by omega, by decide⟩, by decide, by simp, by simp [go_sem], by simp [go_sem], by simp [go_sem], by simp [go_sem], by simp [go_sem], by simp [go_sem], by simp [go_sem], by simp [go_sem], by simp [go_sem], by simp [go_sem], by simp [go_sem], by simp [go_sem], ?_⟩
    repeat (first | exact Below.refl _ _ | refine Below.alloc ?_ (by simp) _)
  case round =>
    obtain ⟨k, y, m, d, rfl, hk0, hk1, hok, hnum, hsz, c0, c1, c2, f0, f1, f2, g0, g1, g2, r0, r1, r2, hb⟩ := hrel
    have HN : Hid (Cal.num y m d = k) := hnum
    have hy : y ≤ 2099 := Cal.num_year hok (by omega)
    have hok' := hok
    obtain ⟨o1, o2, o3, o4, o5⟩ := hok'
    have mb := Cal.md_bd y m
    have A := aft_ok hok
    have HA : Hid (Cal.Ok (aft y m d).1 (aft y m d).2.1 (aft y m d).2.2 ∧ Cal.num (aft y m d).1 (aft y m d).2.1 (aft y m d).2.2 = k + 1) := by rw [hnum] at A; exact A
    clear hnum A
    by_cases hlt : k < n
    · go_wp2_with (go_at_call 107; refine (after_any y m d _ (by omega) (by omega) (by omega) (by omega) (by omega) (by omega)).mono ?_; rintro e w1 ⟨rfl, hb1⟩; obtain ⟨hc, hf⟩ := bcell hb1; have hz := hb1.size)
      go_roundw
      case rel =>
        have hs0 : w.heap.size < wr.heap.size := by omega
        refine ⟨k + 1, _, _, _, rfl, by omega, by omega, HA.out.1, HA.out.2, by simp; omega, ?_, ?_, ?_, ?_, ?_, ?_, ?_, ?_, ?_, ?_, ?_, ?_, ?_⟩
        any_goals simp [go_sem, hc, hf, hsz, hs0, c0, c1, c2, f0, f1, f2, g0, g1, g2, r0, r1, r2]
        exact (((hb.trans (hb1.mono (by omega))).setCell (by simp) _).setCell (by simp) _).setCell (by simp) _
      case measure => simp [intOf]; omega
    · have hkn : k = n := by omega
      subst hkn
      go_wp2_with fail
      refine bodyPost_ret (v := .agg #[.int .i64 y, .int .i64 m, .int .i64 d]) (by simp [results, Tryz.results97, go_sem, r0, r1, r2]) rfl ⟨y, m, d, rfl, hok, hy, HN.out, ?_⟩
      repeat (first | exact hb | refine Below.setCell ?_ (by simp) _ | refine Below.alloc ?_ (by simp) _)

end Go.Proofs.YtjaffmmocbplaabGreatDoor
