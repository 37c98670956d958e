/-
  The walks of Day and Date: the program's and the document's.
-/
import Derived.Test.YtjaffmmocbplaabGreatDoorDayW
import Derived.BigQuiet
import Derived.Deep.QuietTactic
namespace Go.Proofs.YtjaffmmocbplaabGreatDoor
open Go.RowKit
set_option linter.unusedVariables false

theorem ret_two {a b : Int} {v : Value} (h : a = b) : Ending.returned (.tuple #[.int .i64 a, v]) = .returned (.tuple #[.int .i64 b, v]) := by rw [h]

set_option maxHeartbeats 400000 in
theorem refDay_no (y m d : Int) (w : World) (h : ¬ (Cal.Ok y m d ∧ y ≤ 2099)) :
    Calls Tryz.prog 114 #[.int .i64 y, .int .i64 m, .int .i64 d] w fun e w' => e = .returned (.tuple #[.int .i64 0, .int .i64 3]) ∧ w' = w := by
  unfold Cal.Ok at h
  by_cases ha : y < 2000
  · clear h
    go_enter Tryz.func114, Tryz.ntmps114
    go_wp2_with fail
    go_ret2
    exact ⟨rfl, rfl⟩
  by_cases hb : 2099 < y
  · clear h
    go_enter Tryz.func114, Tryz.ntmps114
    go_wp2_with fail
    go_ret2
    exact ⟨rfl, rfl⟩
  by_cases hc : m < 1
  · clear h
    go_enter Tryz.func114, Tryz.ntmps114
    go_wp2_with fail
    go_ret2
    exact ⟨rfl, rfl⟩
  by_cases hd : 12 < m
  · clear h
    go_enter Tryz.func114, Tryz.ntmps114
    go_wp2_with fail
    go_ret2
    exact ⟨rfl, rfl⟩
  by_cases he : d < 1
  · clear h
    go_enter Tryz.func114, Tryz.ntmps114
    go_wp2_with fail
    go_ret2
    exact ⟨rfl, rfl⟩
  · have hf : Cal.md y m < d := by omega
    clear h
    go_enter Tryz.func114, Tryz.ntmps114
    go_wp2_with (first | (go_at_call 115; refine (length_any _ _ _ (by omega) (by omega)).mono ?_; rintro e w' ⟨rfl, rfl⟩))
    go_ret2
    exact ⟨rfl, rfl⟩

set_option maxHeartbeats 1000000 in
theorem refDay_yes (y m d : Int) (w : World) (h : Cal.Ok y m d) (h' : y ≤ 2099) :
    Calls Tryz.prog 114 #[.int .i64 y, .int .i64 m, .int .i64 d] w fun e w' => e = .returned (.tuple #[.int .i64 (Cal.num y m d), .int .i64 0]) ∧ w' = w := by
  obtain ⟨h1, h2, h3, h4, h5⟩ := h
  have mb := Cal.md_bd y m
  go_enter Tryz.func114, Tryz.ntmps114
  go_wp2_with (first | (go_at_call 115; refine (length_any _ _ _ (by omega) (by omega)).mono ?_; rintro e w' ⟨rfl, rfl⟩))
  go_loop [8, 9] (fun n k => ∃ j : Int, 2000 ≤ j ∧ j ≤ y ∧ k = .int .i64 j ∧ n = .int .i64 (d - 1 + Cal.ys j)) (fun _ k => (y - intOf k).toNat)
  case atStart => exact ⟨2000, by omega, by omega, rfl, by simp [Cal.ys]⟩
  case round =>
    obtain ⟨j, hj1, hj2, rfl, rfl⟩ := hrel
    have yb := Cal.ys_bd j hj1 (by omega)
    by_cases hlt : j < y
    · go_wp2_with fail
      go_loop [8, 10] (fun n k => ∃ i : Int, 1 ≤ i ∧ i ≤ 13 ∧ k = .int .i64 i ∧ n = .int .i64 (d - 1 + Cal.ys j + Cal.cum j i)) (fun _ k => (13 - intOf k).toNat)
      case atStart => exact ⟨1, by omega, by omega, rfl, by rw [Cal.cum_one]; simp⟩
      case round =>
        obtain ⟨i, hi1, hi2, rfl, rfl⟩ := hrel
        have cb := Cal.cum_bd j i hi1 hi2
        have ib := Cal.md_bd j i
        by_cases hle : i ≤ 12
        · have cs : Hid (Cal.cum j (i + 1) = Cal.cum j i + Cal.md j i) := Cal.cum_succ j i hi1 hle
          go_wp2_with (first | (go_at_call 115; refine (length_any _ _ _ (by omega) (by omega)).mono ?_; rintro e w' ⟨rfl, rfl⟩))
          go_round
          case rel => exact ⟨i + 1, by omega, by omega, rfl, by rw [cs.out]; go_num⟩
          case measure => simp [intOf]; omega
        · have h13 : i = 13 := by omega
          have cs : Hid (d - 1 + Cal.ys (j + 1) = d - 1 + Cal.ys j + Cal.cum j 13) := by have a := Cal.ys_succ j hj1; have b := Cal.cum_13 j; exact (by omega : d - 1 + Cal.ys (j + 1) = d - 1 + Cal.ys j + Cal.cum j 13)
          subst h13
          go_wp2_with fail
          go_round
          case rel => exact ⟨j + 1, by omega, by omega, rfl, by rw [cs.out]⟩
          case measure => simp [intOf]; omega
    · have hjy : j = y := by omega
      subst hjy
      go_wp2_with fail
      go_loop [8, 11] (fun n k => ∃ i : Int, 1 ≤ i ∧ i ≤ m ∧ k = .int .i64 i ∧ n = .int .i64 (d - 1 + Cal.ys j + Cal.cum j i)) (fun _ k => (m - intOf k).toNat)
      case atStart => exact ⟨1, by omega, by omega, rfl, by rw [Cal.cum_one]; simp⟩
      case round =>
        obtain ⟨i, hi1, hi2, rfl, rfl⟩ := hrel
        have cb := Cal.cum_bd j i hi1 (by omega)
        have ib := Cal.md_bd j i
        by_cases hlt' : i < m
        · have cs : Hid (Cal.cum j (i + 1) = Cal.cum j i + Cal.md j i) := Cal.cum_succ j i hi1 (by omega)
          go_wp2_with (first | (go_at_call 115; refine (length_any _ _ _ (by omega) (by omega)).mono ?_; rintro e w' ⟨rfl, rfl⟩))
          go_round
          case rel => exact ⟨i + 1, by omega, by omega, rfl, by rw [cs.out]; go_num⟩
          case measure => simp [intOf]; omega
        · have him : i = m := by omega
          subst him
          go_wp2_with fail
          go_ret2
          exact ⟨ret_two (by unfold Cal.num; omega), rfl⟩

end Go.Proofs.YtjaffmmocbplaabGreatDoor
