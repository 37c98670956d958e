/-
  The document's floor, rows, filled.
-/
import Derived.Test.YtjaffmmocbplaaaDoorFilM
import Derived.Test.YtjaffmmocbplaaaDoorRowY
import Derived.Deep.RegionHeld3
import Derived.Deep.DrawnRows
namespace Go.Proofs.YtjaffmmocbplaaaDoor
open Go.RowKit
set_option linter.unusedVariables false
attribute [local go_sem ↓] Go.wp_at_zero Go.wp_at_succ

theorem floor_math {n d : Int} (hd : 0 < d) : (n < n.tdiv d * d → n.tdiv d - 1 = n / d) ∧ (¬ n < n.tdiv d * d → n.tdiv d = n / d) := by
  have h1 : n / d * d ≤ n := Int.ediv_mul_le n (by omega)
  have h2 : n < (n / d + 1) * d := Int.lt_ediv_add_one_mul_self n hd
  have e := Int.tdiv_eq_ediv (a := n) (b := d)
  by_cases c : 0 ≤ n ∨ d ∣ n
  · rw [if_pos c] at e
    have e' : n.tdiv d = n / d := by omega
    rw [e']
    exact ⟨fun h => by omega, fun _ => rfl⟩
  · rw [if_neg c, Int.sign_eq_one_of_pos hd] at e
    rw [e]
    exact ⟨fun _ => by omega, fun h => absurd h2 h⟩

theorem tdiv_bd {n d : Int} (hd : 0 < d) (h : -1000000000000 ≤ n ∧ n ≤ 1000000000000) : (-1000000000000 ≤ n.tdiv d ∧ n.tdiv d ≤ 1000000000000) ∧ (-1000000000000 ≤ n.tdiv d * d ∧ n.tdiv d * d ≤ 1000000000000) := by
  rcases Int.le_total 0 n with g | g
  · rw [Int.tdiv_eq_ediv_of_nonneg g]
    have h0 : 0 ≤ n / d := Int.ediv_nonneg g (by omega)
    have h1 := Int.ediv_le_self (a := n) d g
    have h2 := Int.ediv_mul_le n (b := d) (by omega)
    have h3 := Int.mul_nonneg h0 (show 0 ≤ d by omega)
    omega
  · obtain ⟨m, rfl⟩ : ∃ m, n = -m := ⟨-n, by omega⟩
    rw [Int.neg_tdiv, Int.tdiv_eq_ediv_of_nonneg (by omega), Int.neg_mul]
    have h0 : 0 ≤ m / d := Int.ediv_nonneg (by omega) (by omega)
    have h1 := Int.ediv_le_self (a := m) d (by omega)
    have h2 := Int.ediv_mul_le m (b := d) (by omega)
    have h3 := Int.mul_nonneg h0 (show 0 ≤ d by omega)
    omega

set_option maxHeartbeats 400000 in
theorem floor_any (n d : Int) (w : World) (h1 : -1000000000000 ≤ n) (h2 : n ≤ 1000000000000) (hd : 0 < d) (hd2 : d ≤ 1000) :
    Calls Tryd.prog 87 #[.int .i64 n, .int .i64 d] w fun e w' => e = .returned (.int .i64 (n / d)) ∧ w' = w := by
  have hd0 : ¬ d = 0 := by omega
  obtain ⟨⟨b1, b2⟩, b3, b4⟩ := tdiv_bd hd ⟨h1, h2⟩
  obtain ⟨f1, f2⟩ := floor_math (n := n) hd
  obtain ⟨T, hT⟩ : ∃ T, T = n.tdiv d := ⟨_, rfl⟩
  have ht : n.tdiv d = T := hT.symm
  rw [← hT] at b1 b2 b3 b4 f1 f2
  clear hT
  by_cases c : n < T * d
  · have HF : Hid (T - 1 = n / d) := f1 c
    clear f1 f2
    go_enter Tryd.func87, Tryd.ntmps87
    go_wp2_with fail
    go_ret
    exact ⟨ret_int HF.out, rfl⟩
  · have HF : Hid (T = n / d) := f2 c
    clear f1 f2
    go_enter Tryd.func87, Tryd.ntmps87
    go_wp2_with fail
    go_ret
    exact ⟨ret_int HF.out, rfl⟩

set_option maxHeartbeats 1000000 in
theorem rows_any (v : Value) (l : List Txt.Val) (gap : Int) (w : World) (h : VRow w v l) (hl : l.length ≤ 100000) :
    Calls Tryd.prog 54 #[v, .int .i64 gap] w fun e w' => e = .returned (.int .i64 (Fil.rows l gap 0)) ∧ w' = w := by
  obtain ⟨a, cap, rfl⟩ := h.form
  go_enter Tryd.func54, Tryd.ntmps54
  go_wp2_with fail
  go_loopw [5] (fun p wr => ∃ k : Nat, p = .int .i64 k ∧ k ≤ l.length ∧ Fil.rows l gap k = Fil.rows l gap 0 ∧ wr = w) (fun p _ => l.length - (intOf p).toNat)
  case atStart => exact ⟨0, rfl, by omega, rfl, rfl⟩
  case round =>
    obtain ⟨k, rfl, hk, hr, rfl⟩ := hrel
    by_cases hlt : k < l.length
    · have hlt' : (k : Int) < (l.length : Int) := by omega
      have hk0 : (0 : Int) ≤ (k : Int) := by omega
      obtain ⟨x, hx⟩ : ∃ x, l[k]? = some x := ⟨l[k], List.getElem?_eq_getElem hlt⟩
      obtain ⟨b, off, rfl, hcap, hblt, c0, c1, c2⟩ := h.at hx
      have hcap' : (l.length : Int) ≤ (cap : Int) := by omega
      cases hm : x.m
      case false =>
        have hma : Fil.mAt l k = false := by rw [Fil.mAt_some hx, hm]
        have HR : Hid (Fil.rows l gap (k + 1) = Fil.rows l gap 0) := by show _ = _; rw [← hr, Fil.rows_not hlt hma]
        rw [hm] at c2
        clear hx h hr hma
        go_wp2_with fail
        go_roundw
        case rel => exact ⟨k + 1, by go_num, by omega, HR.out, by trivial⟩
        case measure => simp [intOf]; omega
      case true =>
        have hma : Fil.mAt l k = true := by rw [Fil.mAt_some hx, hm]
        have hgt := Fil.re_gt hma
        have hle := Fil.re_le (l := l) (i := k) (by omega)
        rw [hm] at c2
        have HBAD : Hid (k = 0 ∨ Fil.re l k = l.length ∨ gap < (Fil.re l k : Int) - k → Fil.rows l gap 0 = k) := fun g => by rw [← hr, Fil.rows_bad hma g]
        have HGOOD : Hid (¬ (k = 0 ∨ Fil.re l k = l.length ∨ gap < (Fil.re l k : Int) - k) → Fil.rows l gap (Fil.re l k) = Fil.rows l gap 0) := fun g => by rw [← hr, Fil.rows_good hma g]
        clear hr hx
        go_wp2_with fail
        go_loopw [6] (fun p wi => ∃ j : Nat, p = .int .i64 j ∧ k ≤ j ∧ j ≤ l.length ∧ Fil.re l j = Fil.re l k ∧ wi = wr) (fun p _ => l.length - (intOf p).toNat)
        case atStart => exact ⟨k, rfl, by omega, by omega, rfl, rfl⟩
        case round =>
          obtain ⟨j, rfl, hj1, hj2, hre, rfl⟩ := hrel
          have hj0 : (0 : Int) ≤ (j : Int) := by omega
          by_cases hjm : Fil.mAt l j = true
          · have hjl := Fil.mAt_lt hjm
            have hjl' : (j : Int) < (l.length : Int) := by omega
            obtain ⟨y, hy⟩ : ∃ x, l[j]? = some x := ⟨l[j], List.getElem?_eq_getElem hjl⟩
            obtain ⟨b', off', e', _, _, d0, d1, d2⟩ := h.at hy
            cases e'
            have HJ : Hid (Fil.re l (j + 1) = Fil.re l k) := by show _ = _; rw [← hre]; exact (Fil.re_miss hjm).symm
            rw [← Fil.mAt_some hy, hjm] at d2
            clear hy h hjm hre hma c2
            go_wp2_with fail
            go_roundw
            case rel => exact ⟨j + 1, by go_num, by omega, by omega, HJ.out, by trivial⟩
            case measure => simp [intOf]; omega
          · have hjm' : Fil.mAt l j = false := by simpa using hjm
            have hj : Fil.re l k = j := by rw [← hre, Fil.re_not hjm']
            rw [hj] at hgt hle HBAD HGOOD
            by_cases hbad : k = 0 ∨ j = l.length ∨ gap < (j : Int) - k
            · have HB : Hid (Fil.rows l gap 0 = k) := HBAD.out hbad
              by_cases hjl : j < l.length
              · have hjl' : (j : Int) < (l.length : Int) := by omega
                obtain ⟨y, hy⟩ : ∃ x, l[j]? = some x := ⟨l[j], List.getElem?_eq_getElem hjl⟩
                obtain ⟨b', off', e', _, _, d0, d1, d2⟩ := h.at hy
                cases e'
                rw [← Fil.mAt_some hy, hjm'] at d2
                by_cases hk1 : k = 0
                · have q1 : ((k : Int) == 0) = true := by simp; omega
                  clear hy h hjm hjm' hre hma c2 hj hbad HBAD HGOOD hk1
                  go_wp2_with fail
                  go_ret
                  exact ⟨ret_int HB.out.symm, rfl⟩
                · have q1 : ((k : Int) == 0) = false := by simp; omega
                  have q2 : ((j : Int) == (l.length : Int)) = false := by simp; omega
                  have q3 : gap < (j : Int) - k := by omega
                  clear hy h hjm hjm' hre hma c2 hj hbad HBAD HGOOD hk1
                  go_wp2_with fail
                  go_ret
                  exact ⟨ret_int HB.out.symm, rfl⟩
              · have hjl' : ¬ (j : Int) < (l.length : Int) := by omega
                have q2 : ((j : Int) == (l.length : Int)) = true := by simp; omega
                by_cases hk1 : k = 0
                · have q1 : ((k : Int) == 0) = true := by simp; omega
                  clear h hjm hjm' hre hma c2 hj hbad HBAD HGOOD hk1
                  go_wp2_with fail
                  go_ret
                  exact ⟨ret_int HB.out.symm, rfl⟩
                · have q1 : ((k : Int) == 0) = false := by simp; omega
                  clear h hjm hjm' hre hma c2 hj hbad HBAD HGOOD hk1
                  go_wp2_with fail
                  go_ret
                  exact ⟨ret_int HB.out.symm, rfl⟩
            · have HG : Hid (Fil.rows l gap j = Fil.rows l gap 0) := HGOOD.out hbad
              have hjl : j < l.length := by omega
              have hjl' : (j : Int) < (l.length : Int) := by omega
              obtain ⟨y, hy⟩ : ∃ x, l[j]? = some x := ⟨l[j], List.getElem?_eq_getElem hjl⟩
              obtain ⟨b', off', e', _, _, d0, d1, d2⟩ := h.at hy
              cases e'
              rw [← Fil.mAt_some hy, hjm'] at d2
              have q1 : ((k : Int) == 0) = false := by simp; omega
              have q2 : ((j : Int) == (l.length : Int)) = false := by simp; omega
              have q3 : ¬ gap < (j : Int) - k := by omega
              clear hy h hjm hjm' hre hma c2 hj hbad HBAD HGOOD
              go_wp2_with fail
              go_roundw
              case rel => exact ⟨j, rfl, by omega, HG.out, by trivial⟩
              case measure => simp [intOf]; omega
    · have hlt' : ¬ (k : Int) < (l.length : Int) := by omega
      have HR : Hid (Fil.rows l gap 0 = -1) := by show _ = _; rw [← hr, Fil.rows_end hlt]
      clear hr
      go_wp2_with fail
      go_ret
      exact ⟨ret_int HR.out.symm, rfl⟩

end Go.Proofs.YtjaffmmocbplaaaDoor
