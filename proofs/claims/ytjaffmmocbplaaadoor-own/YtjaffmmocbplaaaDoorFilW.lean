/-
  Fill's helpers: the program's.
-/
import Derived.Test.YtjaffmmocbplaaaDoorRowW
import Derived.Test.YtjaffmmocbplaaaDoorFilM
import Derived.Deep.RegionHeld3
import Derived.Deep.DrawnRows
namespace Go.Proofs.YtjaffmmocbplaaaDoor
open Go.RowKit
set_option linter.unusedVariables false
attribute [local go_sem ↓] Go.wp_at_zero Go.wp_at_succ

set_option maxHeartbeats 400000 in
theorem rowEnd_any (v : Value) (l : List Txt.Val) (i : Nat) (w : World) (h : VRow w v l) (hi : i ≤ l.length) (hl : l.length ≤ 100000) :
    Calls Tryd.prog 52 #[v, .int .i64 i] w fun e w' => e = .returned (.int .i64 (Fil.re l i)) ∧ w' = w := by
  obtain ⟨a, cap, rfl⟩ := h.form
  go_enter Tryd.func52, Tryd.ntmps52
  go_wp2_with fail
  go_loopw [1] (fun p wr => ∃ k : Nat, p = .int .i64 k ∧ k ≤ l.length ∧ Fil.re l k = Fil.re l i ∧ wr = w) (fun p _ => l.length - (intOf p).toNat)
  case atStart => exact ⟨i, rfl, hi, rfl, rfl⟩
  case round =>
    obtain ⟨k, rfl, hk, hr, rfl⟩ := hrel
    by_cases hlt : k < l.length
    · have hlt' : (k : Int) < (l.length : Int) := by omega
      have hk0 : (0 : Int) ≤ (k : Int) := by omega
      obtain ⟨x, hx⟩ : ∃ x, l[k]? = some x := ⟨l[k], List.getElem?_eq_getElem hlt⟩
      obtain ⟨b, off, rfl, hcap, hblt, c0, c1, c2⟩ := h.at hx
      have hcap' : (l.length : Int) ≤ (cap : Int) := by omega
      cases hm : x.m
      case true =>
        have HR : Hid (Fil.re l (k + 1) = Fil.re l i) := by show _ = _; rw [← hr]; exact (Fil.re_miss (by rw [Fil.mAt_some hx, hm])).symm
        rw [hm] at c2
        clear hx h hr
        go_wp2_with fail
        go_roundw
        case rel => exact ⟨k + 1, by go_num, by omega, HR.out, by trivial⟩
        case measure => simp [intOf]; omega
      case false =>
        have HR : Hid (Fil.re l i = k) := by show _ = _; rw [← hr]; exact Fil.re_not (by rw [Fil.mAt_some hx, hm])
        rw [hm] at c2
        clear hx h hr
        go_wp2_with fail
        go_ret
        exact ⟨ret_int (by rw [HR.out]), rfl⟩
    · have hlt' : ¬ (k : Int) < (l.length : Int) := by omega
      have HR : Hid (Fil.re l i = k) := by
        show _ = _
        rw [← hr, Fil.re_not]
        cases g : Fil.mAt l k
        · rfl
        · have := Fil.mAt_lt g; omega
      go_wp2_with fail
      go_ret
      exact ⟨ret_int (by rw [HR.out]), rfl⟩

theorem mul_bd {a n M N : Int} (h1 : 0 ≤ a) (h2 : a ≤ M) (h3 : 0 ≤ n) (h4 : n ≤ N) : 0 ≤ a * n ∧ a * n ≤ M * N :=
  ⟨Int.mul_nonneg h1 h3, Int.mul_le_mul h2 h4 h3 (by omega)⟩

set_option maxHeartbeats 400000 in
theorem numberBetween_any (a b i n : Int) (w : World) (a1 : 0 ≤ a) (a2 : a ≤ 999999999) (b1 : 0 ≤ b) (b2 : b ≤ 999999999) (i1 : 0 ≤ i) (i2 : i ≤ n) (n1 : 0 < n) (n2 : n ≤ 1000) :
    Calls Tryd.prog 86 #[.int .i64 a, .int .i64 b, .int .i64 i, .int .i64 n] w fun e w' => e = .returned (.int .i64 (Fil.btw a b i n)) ∧ w' = w := by
  have h1 := mul_bd a1 a2 (show 0 ≤ n - i by omega) (show n - i ≤ 1000 by omega)
  have h2 := mul_bd b1 b2 i1 (show i ≤ 1000 by omega)
  have hn0 : ¬ n = 0 := by omega
  have hd : 0 ≤ (a * (n - i) + b * i) / n ∧ (a * (n - i) + b * i) / n ≤ 1999999998000 := by
    refine ⟨Int.ediv_nonneg (by omega) (by omega), ?_⟩
    have := Int.ediv_le_self (a := a * (n - i) + b * i) n (by omega)
    omega
  have ht : (a * (n - i) + b * i).tdiv n = (a * (n - i) + b * i) / n := Int.tdiv_eq_ediv_of_nonneg (by omega)
  have HB : Hid ((a * (n - i) + b * i) / n = Fil.btw a b i n) := Fil.btw_one n1
  go_enter Tryd.func86, Tryd.ntmps86
  go_wp2_with fail
  go_ret
  exact ⟨ret_int (by rw [← HB.out, ← ht]), rfl⟩

end Go.Proofs.YtjaffmmocbplaaaDoor
