/-
  FilR, FilS, FilW, FilV in one text.
-/
import Derived.Test.YtjaffmmocbplaabDoorFilM
import Derived.Test.YtjaffmmocbplaabDoorK07
import Derived.Deep.RegionHeld3
import Derived.Deep.DrawnRows
import Derived.Test.YtjaffmmocbplaabDoorK04
namespace Go.Proofs.YtjaffmmocbplaabDoor
open Go.RowKit
set_option linter.unusedVariables false
attribute [local go_sem ↓] Go.wp_at_zero Go.wp_at_succ

theorem floor_math {n d : Int} (hd : 0 < d) : (n < n.tdiv d * d → n.tdiv d - 1 = n / d) ∧ (¬ n < n.tdiv d * d → n.tdiv d = n / d) := by
  have h1 : n / d * d ≤ n := Int.ediv_mul_le n (by omega)
  have h2 : n < (n / d + 1) * d := Int.lt_ediv_add_one_mul_self n hd
  have e := Int.tdiv_eq_ediv (a := n) (b := d)
  by_cases c : 0 ≤ n ∨ d ∣ n
  · rw [if_pos c] at e
    have e' : n.tdiv d = n / d := by omega
    rw [e']
    exact ⟨fun h => by omega, fun _ => rfl⟩
  · rw [if_neg c, Int.sign_eq_one_of_pos hd] at e
    rw [e]
    exact ⟨fun _ => by omega, fun h => absurd h2 h⟩

theorem tdiv_bd {n d : Int} (hd : 0 < d) (h : -1000000000000 ≤ n ∧ n ≤ 1000000000000) : (-1000000000000 ≤ n.tdiv d ∧ n.tdiv d ≤ 1000000000000) ∧ (-1000000000000 ≤ n.tdiv d * d ∧ n.tdiv d * d ≤ 1000000000000) := by
  rcases Int.le_total 0 n with g | g
  · rw [Int.tdiv_eq_ediv_of_nonneg g]
    have h0 : 0 ≤ n / d := Int.ediv_nonneg g (by omega)
    have h1 := Int.ediv_le_self (a := n) d g
    have h2 := Int.ediv_mul_le n (b := d) (by omega)
    have h3 := Int.mul_nonneg h0 (show 0 ≤ d by omega)
    omega
  · obtain ⟨m, rfl⟩ : ∃ m, n = -m := ⟨-n, by omega⟩
    rw [Int.neg_tdiv, Int.tdiv_eq_ediv_of_nonneg (by omega), Int.neg_mul]
    have h0 : 0 ≤ m / d := Int.ediv_nonneg (by omega) (by omega)
    have h1 := Int.ediv_le_self (a := m) d (by omega)
    have h2 := Int.ediv_mul_le m (b := d) (by omega)
    have h3 := Int.mul_nonneg h0 (show 0 ≤ d by omega)
    omega

end Go.Proofs.YtjaffmmocbplaabDoor

namespace Go.Proofs.YtjaffmmocbplaabDoor
open Go.RowKit
set_option linter.unusedVariables false
attribute [local go_sem ↓] Go.wp_at_zero Go.wp_at_succ

theorem dif_bd {x y p : Int} (hx : 0 ≤ x ∧ x ≤ 999999999) (hy : 0 ≤ y ∧ y ≤ 999999999) (h0 : 0 ≤ p) (h1 : p ≤ 200) : -1000000000000 ≤ (y - x) * p ∧ (y - x) * p ≤ 1000000000000 := by
  have e : (y - x) * p = y * p - x * p := Int.sub_mul _ _ _
  have a1 := Int.mul_nonneg hx.1 h0
  have a2 := Int.mul_nonneg hy.1 h0
  have a3 := Int.mul_le_mul hx.2 h1 h0 (by omega)
  have a4 := Int.mul_le_mul hy.2 h1 h0 (by omega)
  omega
theorem quo_bd {n d : Int} (hd : 0 < d) (h1 : -1000000000000 ≤ n) (h2 : n ≤ 1000000000000) : -1000000000001 ≤ n / d ∧ n / d ≤ 1000000000001 := by
  have h3 := Int.ediv_mul_le n (b := d) (by omega)
  have h4 := Int.lt_ediv_add_one_mul_self n hd
  have b := tdiv_bd hd ⟨h1, h2⟩
  obtain ⟨f1, f2⟩ := floor_math (n := n) hd
  by_cases c : n < n.tdiv d * d
  · have := f1 c; omega
  · have := f2 c; omega

end Go.Proofs.YtjaffmmocbplaabDoor

namespace Go.Proofs.YtjaffmmocbplaabDoor
open Go.RowKit
set_option linter.unusedVariables false
attribute [local go_sem ↓] Go.wp_at_zero Go.wp_at_succ

set_option maxHeartbeats 400000 in
theorem rowEnd_any (v : Value) (l : List Txt.Val) (i : Nat) (w : World) (h : VRow w v l) (hi : i ≤ l.length) (hl : l.length ≤ 100000) :
    Calls Tryd.prog 79 #[v, .int .i64 i] w fun e w' => e = .returned (.int .i64 (Fil.re l i)) ∧ w' = w := by
  obtain ⟨a, cap, rfl⟩ := h.form
  go_enter Tryd.func79, Tryd.ntmps79
  go_wp2_with fail
  go_loopw [1] (fun p wr => ∃ k : Nat, p = .int .i64 k ∧ k ≤ l.length ∧ Fil.re l k = Fil.re l i ∧ wr = w) (fun p _ => l.length - (intOf p).toNat)
  case atStart => exact ⟨i, rfl, hi, rfl, rfl⟩
  case round =>
    obtain ⟨k, rfl, hk, hr, rfl⟩ := hrel
    by_cases hlt : k < l.length
    · have hlt' : (k : Int) < (l.length : Int) := by omega
      have hk0 : (0 : Int) ≤ (k : Int) := by omega
      obtain ⟨x, hx⟩ : ∃ x, l[k]? = some x := ⟨l[k], List.getElem?_eq_getElem hlt⟩
      obtain ⟨b, off, rfl, hcap, hblt, c0, c1, c2⟩ := h.at hx
      have hcap' : (l.length : Int) ≤ (cap : Int) := by omega
      cases hm : x.m
      case true =>
        have HR : Hid (Fil.re l (k + 1) = Fil.re l i) := by show _ = _; rw [← hr]; exact (Fil.re_miss (by rw [Fil.mAt_some hx, hm])).symm
        rw [hm] at c2
        clear hx h hr
        go_wp2_with fail
        go_roundw
        case rel => exact ⟨k + 1, by go_num, by omega, HR.out, by trivial⟩
        case measure => simp [intOf]; omega
      case false =>
        have HR : Hid (Fil.re l i = k) := by show _ = _; rw [← hr]; exact Fil.re_not (by rw [Fil.mAt_some hx, hm])
        rw [hm] at c2
        clear hx h hr
        go_wp2_with fail
        go_ret
        exact ⟨ret_int (by rw [HR.out]), rfl⟩
    · have hlt' : ¬ (k : Int) < (l.length : Int) := by omega
      have HR : Hid (Fil.re l i = k) := by
        show _ = _
        rw [← hr, Fil.re_not]
        cases g : Fil.mAt l k
        · rfl
        · have := Fil.mAt_lt g; omega
      go_wp2_with fail
      go_ret
      exact ⟨ret_int (by rw [HR.out]), rfl⟩

theorem mul_bd {a n M N : Int} (h1 : 0 ≤ a) (h2 : a ≤ M) (h3 : 0 ≤ n) (h4 : n ≤ N) : 0 ≤ a * n ∧ a * n ≤ M * N :=
  ⟨Int.mul_nonneg h1 h3, Int.mul_le_mul h2 h4 h3 (by omega)⟩

set_option maxHeartbeats 400000 in
theorem numberBetween_any (a b i n : Int) (w : World) (a1 : 0 ≤ a) (a2 : a ≤ 999999999) (b1 : 0 ≤ b) (b2 : b ≤ 999999999) (i1 : 0 ≤ i) (i2 : i ≤ n) (n1 : 0 < n) (n2 : n ≤ 1000) :
    Calls Tryd.prog 88 #[.int .i64 a, .int .i64 b, .int .i64 i, .int .i64 n] w fun e w' => e = .returned (.int .i64 (Fil.btw a b i n)) ∧ w' = w := by
  have h1 := mul_bd a1 a2 (show 0 ≤ n - i by omega) (show n - i ≤ 1000 by omega)
  have h2 := mul_bd b1 b2 i1 (show i ≤ 1000 by omega)
  have hn0 : ¬ n = 0 := by omega
  have hd : 0 ≤ (a * (n - i) + b * i) / n ∧ (a * (n - i) + b * i) / n ≤ 1999999998000 := by
    refine ⟨Int.ediv_nonneg (by omega) (by omega), ?_⟩
    have := Int.ediv_le_self (a := a * (n - i) + b * i) n (by omega)
    omega
  have ht : (a * (n - i) + b * i).tdiv n = (a * (n - i) + b * i) / n := Int.tdiv_eq_ediv_of_nonneg (by omega)
  have HB : Hid ((a * (n - i) + b * i) / n = Fil.btw a b i n) := Fil.btw_one n1
  go_enter Tryd.func88, Tryd.ntmps88
  go_wp2_with fail
  go_ret
  exact ⟨ret_int (by rw [← HB.out, ← ht]), rfl⟩

end Go.Proofs.YtjaffmmocbplaabDoor

namespace Go.Proofs.YtjaffmmocbplaabDoor
open Go.RowKit
set_option linter.unusedVariables false
attribute [local go_sem ↓] Go.wp_at_zero Go.wp_at_succ

set_option maxRecDepth 1000000 in
set_option maxHeartbeats 1000000 in
theorem valueBetween_any (a b : Txt.Val) (i n : Int) (w : World) (ha : valB a = true) (hb : valB b = true) (i1 : 0 ≤ i) (i2 : i ≤ n) (n1 : 0 < n) (n2 : n ≤ 1000) :
    Calls Tryd.prog 80 #[.agg #[.int .i64 a.i, .int .i64 a.o, .bool a.m], .agg #[.int .i64 b.i, .int .i64 b.o, .bool b.m], .int .i64 i, .int .i64 n] w fun e w' =>
      e = .returned (.agg #[.int .i64 (Fil.btw a.i b.i i n), .int .i64 (Fil.btw a.o b.o i n), .bool false]) ∧ Below w.heap.size w w' := by
  obtain ⟨⟨p1, p2⟩, p3, p4⟩ := valB_bd ha
  obtain ⟨⟨q1, q2⟩, q3, q4⟩ := valB_bd hb
  clear ha hb
  go_enter Tryd.func80, Tryd.ntmps80
  go_wp2_with fail
  go_region_held3 (fun w' => w'.cell? ⟨w.heap.size, 0, none⟩ = some (.int .i64 a.i) ∧ w'.cell? ⟨w.heap.size, 1, none⟩ = some (.int .i64 a.o) ∧ w'.cell? ⟨w.heap.size + 1, 0, none⟩ = some (.int .i64 b.i) ∧ w'.cell? ⟨w.heap.size + 1, 1, none⟩ = some (.int .i64 b.o))
    (simp [go_sem])
    ((go_at_call 88; refine (numberBetween_any _ _ _ _ _ (by assumption) (by assumption) (by assumption) (by assumption) (by assumption) (by assumption) (by assumption) (by assumption)).mono ?_; rintro e w1 ⟨rfl, rfl⟩))
  all_goals
    go_wp2_with fail
    refine bodyPost_ret (v := .agg #[.int .i64 (Fil.btw a.i b.i i n), .int .i64 (Fil.btw a.o b.o i n), .bool false]) (by simp [results, Tryd.results80, go_sem]) rfl ⟨rfl, ?_⟩
    repeat (first | exact Below.refl _ _ | refine Below.setCell ?_ (by simp) _ | refine Below.drew ?_ | refine below_drewN ?_ _ | refine below_more ?_ _)

end Go.Proofs.YtjaffmmocbplaabDoor
