/-
  Cal, DayW in one text.
-/
import Derived.KernelRfl
import Derived.Test.YtjaffmmocbplaabGreatDoorChecked
import Derived.WalkKit
import Derived.WalkSpells
namespace Go.Proofs.YtjaffmmocbplaabGreatDoor
def inB (n lo hi : Int) : Bool := decide (lo ≤ n) && decide (n ≤ hi)
theorem inB_true {n lo hi : Int} (h : lo ≤ n) (h' : n ≤ hi) : inB n lo hi = true := by simp [inB, h, h']
theorem inB_false {n lo hi : Int} (h : ¬ (lo ≤ n ∧ n ≤ hi)) : inB n lo hi = false := by simp [inB]; omega
theorem inB_iff {n lo hi : Int} : inB n lo hi = true ↔ lo ≤ n ∧ n ≤ hi := by simp [inB]

end Go.Proofs.YtjaffmmocbplaabGreatDoor
namespace Go.Proofs.YtjaffmmocbplaabGreatDoor.Cal
set_option linter.unusedVariables false

def md (y m : Int) : Int := if m = 2 then (if y % 4 = 0 then 29 else 28) else if m = 4 ∨ m = 6 ∨ m = 9 ∨ m = 11 then 30 else 31
def lp (y : Int) : Int := if y % 4 = 0 then 1 else 0
def ys (y : Int) : Int := (y - 2000) * 365 + (y - 1997) / 4
def cum (y m : Int) : Int :=
  if m ≤ 1 then 0 else if m = 2 then 31 else lp y + (if m = 3 then 59 else if m = 4 then 90 else if m = 5 then 120 else if m = 6 then 151
    else if m = 7 then 181 else if m = 8 then 212 else if m = 9 then 243 else if m = 10 then 273 else if m = 11 then 304 else if m = 12 then 334 else 365)
def num (y m d : Int) : Int := ys y + cum y m + d - 1
def Ok (y m d : Int) : Prop := 2000 ≤ y ∧ 1 ≤ m ∧ m ≤ 12 ∧ 1 ≤ d ∧ d ≤ md y m

/-- what Day answers -/
def dayN (y m d : Int) : Int := if (2000 ≤ y ∧ 1 ≤ m ∧ m ≤ 12 ∧ 1 ≤ d ∧ d ≤ md y m) ∧ y ≤ 2099 then num y m d else 0
def dayE (y m d : Int) : Int := if (2000 ≤ y ∧ 1 ≤ m ∧ m ≤ 12 ∧ 1 ≤ d ∧ d ≤ md y m) ∧ y ≤ 2099 then 0 else 3
theorem dayN_yes {y m d : Int} (h : Ok y m d) (h' : y ≤ 2099) : dayN y m d = num y m d := by unfold dayN; rw [if_pos ⟨h, h'⟩]
theorem dayE_yes {y m d : Int} (h : Ok y m d) (h' : y ≤ 2099) : dayE y m d = 0 := by unfold dayE; rw [if_pos ⟨h, h'⟩]
theorem dayN_no {y m d : Int} (h : ¬ (Ok y m d ∧ y ≤ 2099)) : dayN y m d = 0 := by unfold Ok at h; unfold dayN; rw [if_neg h]
theorem dayE_no {y m d : Int} (h : ¬ (Ok y m d ∧ y ≤ 2099)) : dayE y m d = 3 := by unfold Ok at h; unfold dayE; rw [if_neg h]
theorem md_bd (y m : Int) : 28 ≤ md y m ∧ md y m ≤ 31 := by unfold md; split <;> (try split) <;> omega
theorem lp_bd (y : Int) : 0 ≤ lp y ∧ lp y ≤ 1 := by unfold lp; split <;> omega
theorem md_31 (y m : Int) (h : 12 ≤ m) : md y m = 31 := by unfold md; rw [if_neg (by omega), if_neg (by omega)]
theorem ys_succ (y : Int) (h : 2000 ≤ y) : ys (y + 1) = ys y + 365 + lp y := by unfold ys lp; split <;> omega
theorem ys_mono (a b : Int) (h : 2000 ≤ a) (h' : a ≤ b) : ys a ≤ ys b := by unfold ys; omega
theorem cum_succ (y m : Int) (h : 1 ≤ m) (h' : m ≤ 12) : cum y (m + 1) = cum y m + md y m := by
  have hm : m = 1 ∨ m = 2 ∨ m = 3 ∨ m = 4 ∨ m = 5 ∨ m = 6 ∨ m = 7 ∨ m = 8 ∨ m = 9 ∨ m = 10 ∨ m = 11 ∨ m = 12 := by omega
  rcases hm with rfl | rfl | rfl | rfl | rfl | rfl | rfl | rfl | rfl | rfl | rfl | rfl <;> simp [cum, md, lp] <;> (try split) <;> omega
theorem cum_one (y : Int) : cum y 1 = 0 := by simp [cum]
theorem cum_13 (y : Int) : cum y 13 = 365 + lp y := by simp [cum]; omega
theorem cum_step (y m : Int) (k : Nat) (h : 1 ≤ m) (h' : m + k ≤ 13) : cum y m ≤ cum y (m + k) := by
  induction k with
  | zero => simp
  | succ k ih =>
    have := ih (by omega)
    have e := cum_succ y (m + k) (by omega) (by omega)
    have b := md_bd y (m + k)
    have : m + ((k + 1 : Nat) : Int) = m + k + 1 := by omega
    rw [this]; omega
theorem cum_mono (y m n : Int) (h : 1 ≤ m) (h' : m ≤ n) (h'' : n ≤ 13) : cum y m ≤ cum y n := by
  have := cum_step y m (n - m).toNat h (by omega)
  have e : m + ((n - m).toNat : Int) = n := by omega
  rwa [e] at this
theorem cum_bd (y m : Int) (h : 1 ≤ m) (h' : m ≤ 13) : 0 ≤ cum y m ∧ cum y m ≤ 366 := by
  have a := cum_mono y 1 m (by omega) h h'
  have b := cum_mono y m 13 h h' (by omega)
  have := cum_one y; have := cum_13 y; have := lp_bd y
  omega
theorem ys_bd (y : Int) (h : 2000 ≤ y) (h' : y ≤ 2100) : 0 ≤ ys y ∧ ys y ≤ 36525 := by unfold ys; omega
theorem num_lo {y m d : Int} (h : Ok y m d) : ys y ≤ num y m d := by
  obtain ⟨a, b, c, e, f⟩ := h
  have := cum_bd y m b (by omega); unfold num; omega
theorem num_hi {y m d : Int} (h : Ok y m d) : num y m d < ys (y + 1) := by
  obtain ⟨a, b, c, e, f⟩ := h
  have h1 := cum_succ y m b c
  have h2 := cum_mono y (m + 1) 13 (by omega) (by omega) (by omega)
  have h3 := ys_succ y a; have h4 := cum_13 y
  unfold num; omega
theorem num_inj {y m d y' m' d' : Int} (h : Ok y m d) (h' : Ok y' m' d') (e : num y m d = num y' m' d') : y = y' ∧ m = m' ∧ d = d' := by
  have a := num_lo h; have b := num_hi h; have a' := num_lo h'; have b' := num_hi h'
  have o := h; have o' := h'
  obtain ⟨h1, h2, h3, h4, h5⟩ := o
  obtain ⟨h1', h2', h3', h4', h5'⟩ := o'
  have hy : y = y' := by
    rcases Int.lt_trichotomy y y' with g | g | g
    · have := ys_mono (y + 1) y' (by omega) (by omega); omega
    · exact g
    · have := ys_mono (y' + 1) y (by omega) (by omega); omega
  subst hy
  have hm : m = m' := by
    rcases Int.lt_trichotomy m m' with g | g | g
    · have := cum_mono y (m + 1) m' (by omega) (by omega) (by omega); have := cum_succ y m h2 h3; unfold num at e; omega
    · exact g
    · have := cum_mono y (m' + 1) m (by omega) (by omega) (by omega); have := cum_succ y m' h2' h3'; unfold num at e; omega
  subst hm
  refine ⟨rfl, rfl, ?_⟩
  unfold num at e; omega
/-- a day of the hundred years has a date within them -/
theorem num_year {y m d : Int} (h : Ok y m d) (e : num y m d ≤ 36524) : y ≤ 2099 := by
  have a := num_lo h; have := h.1
  rcases Int.lt_or_le 2099 y with g | g
  · have := ys_mono 2100 y (by omega) (by omega); have : ys 2100 = 36525 := by decide
    omega
  · exact g
theorem num_last {y m d : Int} (h : Ok y m d) (e : y ≤ 2099) : 0 ≤ num y m d ∧ num y m d ≤ 36524 := by
  have a := num_lo h; have b := num_hi h
  have := ys_mono 2000 y (by omega) h.1
  have := ys_mono (y + 1) 2100 (by have := h.1; omega) (by omega)
  have : ys 2100 = 36525 := by decide
  have : ys 2000 = 0 := by decide
  omega
/-- the next day -/
theorem next_day {y m d : Int} (h : Ok y m d) (g : d < md y m) : Ok y m (d + 1) ∧ num y m (d + 1) = num y m d + 1 := by
  obtain ⟨a, b, c, e, f⟩ := h
  exact ⟨⟨a, b, c, by omega, by omega⟩, by unfold num; omega⟩
theorem next_month {y m d : Int} (h : Ok y m d) (g : d = md y m) (g' : m < 12) : Ok y (m + 1) 1 ∧ num y (m + 1) 1 = num y m d + 1 := by
  obtain ⟨a, b, c, e, f⟩ := h
  have := md_bd y (m + 1); have := cum_succ y m b c
  exact ⟨⟨a, by omega, by omega, by omega, by omega⟩, by unfold num; omega⟩
theorem next_year {y m d : Int} (h : Ok y m d) (g : d = md y m) (g' : m = 12) : Ok (y + 1) 1 1 ∧ num (y + 1) 1 1 = num y m d + 1 := by
  obtain ⟨a, b, c, e, f⟩ := h
  subst g'
  have := md_bd (y + 1) 1; have := cum_succ y 12 (by omega) (by omega); have := ys_succ y a
  have h13 : cum y (12 + 1) = 365 + lp y := cum_13 y
  have h1 := cum_one (y + 1)
  exact ⟨⟨by omega, by omega, by omega, by omega, by omega⟩, by unfold num; omega⟩
/-- the guess of the year -/
def yr (n : Int) : Int := if n % 1461 < 366 then 2000 + n / 1461 * 4 else 2000 + n / 1461 * 4 + 1 + (n % 1461 - 366) / 365
theorem yr_lo (n : Int) (h : 0 ≤ n) : ys (yr n) ≤ n := by unfold yr ys; split <;> omega
theorem yr_hi (n : Int) (h : 0 ≤ n) : n < ys (yr n + 1) := by unfold yr ys; split <;> omega
theorem yr_bd (n : Int) (h : 0 ≤ n) (h' : n ≤ 36524) : 2000 ≤ yr n ∧ yr n ≤ 2099 := by unfold yr; split <;> omega
theorem yr_of {y m d : Int} (h : Ok y m d) : yr (num y m d) = y := by
  have a := num_lo h; have b := num_hi h
  have hn : 0 ≤ num y m d := by have := ys_mono 2000 y (by omega) h.1; have : ys 2000 = 0 := by decide
                                omega
  have c := yr_lo _ hn; have d' := yr_hi _ hn
  have e : 2000 ≤ yr (num y m d) := by unfold yr; split <;> omega
  rcases Int.lt_trichotomy (yr (num y m d)) y with g | g | g
  · have := ys_mono (yr (num y m d) + 1) y (by omega) (by omega); omega
  · exact g
  · have := ys_mono (y + 1) (yr (num y m d)) (by have := h.1; omega) (by omega); omega
theorem date_nat (k : Nat) : ∃ y m d : Int, Ok y m d ∧ num y m d = (k : Int) := by
  induction k with
  | zero => exact ⟨2000, 1, 1, ⟨by omega, by omega, by omega, by omega, by decide⟩, by decide⟩
  | succ k ih =>
    obtain ⟨y, m, d, h, e⟩ := ih
    have h' := h
    obtain ⟨a, b, c, f, g⟩ := h'
    by_cases hd : d < md y m
    · have q := next_day h hd; exact ⟨_, _, _, q.1, by rw [q.2, e]; omega⟩
    · by_cases hm : m < 12
      · have q := next_month h (by omega) hm; exact ⟨_, _, _, q.1, by rw [q.2, e]; omega⟩
      · have q := next_year h (by omega) (by omega); exact ⟨_, _, _, q.1, by rw [q.2, e]; omega⟩
theorem date_ex (n : Int) (h : 0 ≤ n) : ∃ y m d : Int, Ok y m d ∧ num y m d = n := by
  obtain ⟨k, rfl⟩ := Int.eq_ofNat_of_zero_le h
  exact date_nat k
end Go.Proofs.YtjaffmmocbplaabGreatDoor.Cal

namespace Go.Proofs.YtjaffmmocbplaabGreatDoor
open Go.RowKit
set_option linter.unusedVariables false

theorem ret_int {k : IntKind} {a b : Int} (h : a = b) : Ending.returned (.int k a) = .returned (.int k b) := by rw [h]

set_option maxHeartbeats 400000 in
theorem within_any (n lo hi : Int) (w : World) :
    Calls Tryz.prog 54 #[.int .i64 n, .int .i64 lo, .int .i64 hi] w fun e w' => e = .returned (.bool (inB n lo hi)) ∧ w' = w := by
  by_cases h : lo ≤ n
  all_goals
    go_enter Tryz.func54, Tryz.ntmps54
    go_wp2
    go_ret
    exact ⟨by simp [inB, h] <;> omega, rfl⟩

set_option maxHeartbeats 400000 in
theorem monthDays_any (y m : Int) (w : World) (h0 : 0 ≤ y) (h1 : y ≤ 10000) :
    Calls Tryz.prog 112 #[.int .i64 y, .int .i64 m] w fun e w' => e = .returned (.int .i64 (Cal.md y m)) ∧ w' = w := by
  go_enter Tryz.func112, Tryz.ntmps112
  go_wp2
  all_goals
    go_ret
    exact ⟨ret_int (by simp at *; unfold Cal.md; (repeat' split) <;> first | omega | (exfalso; omega)), rfl⟩

set_option maxHeartbeats 400000 in
theorem length_any (y m : Int) (w : World) (h0 : 0 ≤ y) (h1 : y ≤ 10000) :
    Calls Tryz.prog 115 #[.int .i64 y, .int .i64 m] w fun e w' => e = .returned (.int .i64 (Cal.md y m)) ∧ w' = w := by
  go_enter Tryz.func115, Tryz.ntmps115
  go_wp2
  all_goals
    go_ret
    exact ⟨ret_int (by simp at *; unfold Cal.md; (repeat' split) <;> first | omega | (exfalso; omega)), rfl⟩

set_option maxHeartbeats 400000 in
theorem yearOf_any (n : Int) (w : World) (h0 : 0 ≤ n) (h1 : n ≤ 36524) :
    Calls Tryz.prog 108 #[.int .i64 n] w fun e w' => e = .returned (.int .i64 (Cal.yr n)) ∧ w' = w := by
  by_cases h : n % 1461 < 366
  all_goals
    go_enter Tryz.func108, Tryz.ntmps108
    go_wp2
    go_ret
    exact ⟨ret_int (by unfold Cal.yr; split <;> omega), rfl⟩

set_option maxHeartbeats 400000 in
theorem yearStart_any (y : Int) (w : World) (h0 : 2000 ≤ y) (h1 : y ≤ 2100) :
    Calls Tryz.prog 116 #[.int .i64 y] w fun e w' => e = .returned (.int .i64 (Cal.ys y)) ∧ w' = w := by
  go_enter Tryz.func116, Tryz.ntmps116
  go_wp2
  go_ret
  exact ⟨ret_int (by unfold Cal.ys; omega), rfl⟩

set_option maxHeartbeats 400000 in
theorem monthStart_any (y m : Int) (w : World) (h0 : 2000 ≤ y) (h1 : y ≤ 2100) (h2 : 1 ≤ m) (h3 : m ≤ 12) :
    Calls Tryz.prog 111 #[.int .i64 y, .int .i64 m] w fun e w' => e = .returned (.int .i64 (Cal.ys y + Cal.cum y m)) ∧ w' = w := by
  have hy := Cal.ys_bd y h0 h1
  go_enter Tryz.func111, Tryz.ntmps111
  go_wp2_with (go_at_call 116; refine (yearStart_any _ _ (by omega) (by omega)).mono ?_; rintro e w' ⟨rfl, rfl⟩)
  go_loop [5, 6] (fun d k => ∃ j : Int, 1 ≤ j ∧ j ≤ m ∧ k = .int .i64 j ∧ d = .int .i64 (Cal.ys y + Cal.cum y j)) (fun _ k => (m - intOf k).toNat)
  case atStart => exact ⟨1, by omega, by omega, rfl, by rw [Cal.cum_one]; simp⟩
  case round =>
    obtain ⟨j, hj1, hj2, rfl, rfl⟩ := hrel
    have cb := Cal.cum_bd y j hj1 (by omega)
    have mb := Cal.md_bd y j
    by_cases hlt : j < m
    · have cs : Hid (Cal.cum y (j + 1) = Cal.cum y j + Cal.md y j) := Cal.cum_succ y j hj1 (by omega)
      go_wp2_with (go_at_call 112; refine (monthDays_any _ _ _ (by omega) (by omega)).mono ?_; rintro e w' ⟨rfl, rfl⟩)
      go_round
      case rel => exact ⟨j + 1, by omega, by omega, rfl, by rw [cs.out]; go_num⟩
      case measure => simp [intOf]; omega
    · go_wp2
      go_ret
      have : j = m := by omega
      subst this
      exact ⟨rfl, rfl⟩

end Go.Proofs.YtjaffmmocbplaabGreatDoor
