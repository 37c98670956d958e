/-
  The walks of the calendar's calls over integers alone.
-/
import Derived.Test.YtjaffmmocbplaabDoorChecked
import Derived.Test.YtjaffmmocbplaabDoorCal
import Derived.WalkKit
import Derived.WalkSpells
namespace Go.Proofs.YtjaffmmocbplaabDoor
open Go.RowKit
set_option linter.unusedVariables false

theorem ret_int {k : IntKind} {a b : Int} (h : a = b) : Ending.returned (.int k a) = .returned (.int k b) := by rw [h]

set_option maxHeartbeats 400000 in
theorem within_any (n lo hi : Int) (w : World) :
    Calls Tryd.prog 45 #[.int .i64 n, .int .i64 lo, .int .i64 hi] w fun e w' => e = .returned (.bool (inB n lo hi)) ∧ w' = w := by
  by_cases h : lo ≤ n
  all_goals
    go_enter Tryd.func45, Tryd.ntmps45
    go_wp2
    go_ret
    exact ⟨by simp [inB, h] <;> omega, rfl⟩

set_option maxHeartbeats 400000 in
theorem monthDays_any (y m : Int) (w : World) (h0 : 0 ≤ y) (h1 : y ≤ 10000) :
    Calls Tryd.prog 100 #[.int .i64 y, .int .i64 m] w fun e w' => e = .returned (.int .i64 (Cal.md y m)) ∧ w' = w := by
  go_enter Tryd.func100, Tryd.ntmps100
  go_wp2
  all_goals
    go_ret
    exact ⟨ret_int (by simp at *; unfold Cal.md; (repeat' split) <;> first | omega | (exfalso; omega)), rfl⟩

set_option maxHeartbeats 400000 in
theorem yearOf_any (n : Int) (w : World) (h0 : 0 ≤ n) (h1 : n ≤ 36524) :
    Calls Tryd.prog 96 #[.int .i64 n] w fun e w' => e = .returned (.int .i64 (Cal.yr n)) ∧ w' = w := by
  by_cases h : n % 1461 < 366
  all_goals
    go_enter Tryd.func96, Tryd.ntmps96
    go_wp2
    go_ret
    exact ⟨ret_int (by unfold Cal.yr; split <;> omega), rfl⟩

set_option maxHeartbeats 400000 in
theorem yearStart_any (y : Int) (w : World) (h0 : 2000 ≤ y) (h1 : y ≤ 2100) :
    Calls Tryd.prog 106 #[.int .i64 y] w fun e w' => e = .returned (.int .i64 (Cal.ys y)) ∧ w' = w := by
  go_enter Tryd.func106, Tryd.ntmps106
  go_wp2
  go_ret
  exact ⟨ret_int (by unfold Cal.ys; omega), rfl⟩

set_option maxHeartbeats 400000 in
theorem monthStart_any (y m : Int) (w : World) (h0 : 2000 ≤ y) (h1 : y ≤ 2100) (h2 : 1 ≤ m) (h3 : m ≤ 12) :
    Calls Tryd.prog 99 #[.int .i64 y, .int .i64 m] w fun e w' => e = .returned (.int .i64 (Cal.ys y + Cal.cum y m)) ∧ w' = w := by
  have hy := Cal.ys_bd y h0 h1
  go_enter Tryd.func99, Tryd.ntmps99
  go_wp2_with (go_at_call 106; refine (yearStart_any _ _ (by omega) (by omega)).mono ?_; rintro e w' ⟨rfl, rfl⟩)
  go_loop [5, 6] (fun d k => ∃ j : Int, 1 ≤ j ∧ j ≤ m ∧ k = .int .i64 j ∧ d = .int .i64 (Cal.ys y + Cal.cum y j)) (fun _ k => (m - intOf k).toNat)
  case atStart => exact ⟨1, by omega, by omega, rfl, by rw [Cal.cum_one]; simp⟩
  case round =>
    obtain ⟨j, hj1, hj2, rfl, rfl⟩ := hrel
    have cb := Cal.cum_bd y j hj1 (by omega)
    have mb := Cal.md_bd y j
    by_cases hlt : j < m
    · have cs : Hid (Cal.cum y (j + 1) = Cal.cum y j + Cal.md y j) := Cal.cum_succ y j hj1 (by omega)
      go_wp2_with (go_at_call 100; refine (monthDays_any _ _ _ (by omega) (by omega)).mono ?_; rintro e w' ⟨rfl, rfl⟩)
      go_round
      case rel => exact ⟨j + 1, by omega, by omega, rfl, by rw [cs.out]; go_num⟩
      case measure => simp [intOf]; omega
    · go_wp2
      go_ret
      have : j = m := by omega
      subst this
      exact ⟨rfl, rfl⟩

end Go.Proofs.YtjaffmmocbplaabDoor
