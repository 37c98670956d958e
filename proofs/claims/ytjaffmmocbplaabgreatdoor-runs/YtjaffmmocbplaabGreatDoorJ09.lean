/-
  FilR, FilS, FilW, FilV in one text.
-/
import Derived.Test.YtjaffmmocbplaabGreatDoorJFilM
import Derived.Test.YtjaffmmocbplaabGreatDoorJ08
import Derived.Deep.RegionHeld3
import Derived.Deep.DrawnRows
import Derived.Test.YtjaffmmocbplaabGreatDoorJ04
namespace Go.Proofs.YtjaffmmocbplaabGreatDoor
open Go.RowKit
set_option linter.unusedVariables false
attribute [local go_sem ↓] Go.wp_at_zero Go.wp_at_succ

theorem floor_math {n d : Int} (hd : 0 < d) : (n < n.tdiv d * d → n.tdiv d - 1 = n / d) ∧ (¬ n < n.tdiv d * d → n.tdiv d = n / d) := by
  have h1 : n / d * d ≤ n := Int.ediv_mul_le n (by omega)
  have h2 : n < (n / d + 1) * d := Int.lt_ediv_add_one_mul_self n hd
  have e := Int.tdiv_eq_ediv (a := n) (b := d)
  by_cases c : 0 ≤ n ∨ d ∣ n
  · rw [if_pos c] at e
    have e' : n.tdiv d = n / d := by omega
    rw [e']
    exact ⟨fun h => by omega, fun _ => rfl⟩
  · rw [if_neg c, Int.sign_eq_one_of_pos hd] at e
    rw [e]
    exact ⟨fun _ => by omega, fun h => absurd h2 h⟩

theorem tdiv_bd {n d : Int} (hd : 0 < d) (h : -1000000000000 ≤ n ∧ n ≤ 1000000000000) : (-1000000000000 ≤ n.tdiv d ∧ n.tdiv d ≤ 1000000000000) ∧ (-1000000000000 ≤ n.tdiv d * d ∧ n.tdiv d * d ≤ 1000000000000) := by
  rcases Int.le_total 0 n with g | g
  · rw [Int.tdiv_eq_ediv_of_nonneg g]
    have h0 : 0 ≤ n / d := Int.ediv_nonneg g (by omega)
    have h1 := Int.ediv_le_self (a := n) d g
    have h2 := Int.ediv_mul_le n (b := d) (by omega)
    have h3 := Int.mul_nonneg h0 (show 0 ≤ d by omega)
    omega
  · obtain ⟨m, rfl⟩ : ∃ m, n = -m := ⟨-n, by omega⟩
    rw [Int.neg_tdiv, Int.tdiv_eq_ediv_of_nonneg (by omega), Int.neg_mul]
    have h0 : 0 ≤ m / d := Int.ediv_nonneg (by omega) (by omega)
    have h1 := Int.ediv_le_self (a := m) d (by omega)
    have h2 := Int.ediv_mul_le m (b := d) (by omega)
    have h3 := Int.mul_nonneg h0 (show 0 ≤ d by omega)
    omega

set_option maxHeartbeats 400000 in
theorem floor_any (n d : Int) (w : World) (h1 : -1000000000000 ≤ n) (h2 : n ≤ 1000000000000) (hd : 0 < d) (hd2 : d ≤ 1000) :
    Calls Tryz.prog 105 #[.int .i64 n, .int .i64 d] w fun e w' => e = .returned (.int .i64 (n / d)) ∧ w' = w := by
  have hd0 : ¬ d = 0 := by omega
  obtain ⟨⟨b1, b2⟩, b3, b4⟩ := tdiv_bd hd ⟨h1, h2⟩
  obtain ⟨f1, f2⟩ := floor_math (n := n) hd
  obtain ⟨T, hT⟩ : ∃ T, T = n.tdiv d := ⟨_, rfl⟩
  have ht : n.tdiv d = T := hT.symm
  rw [← hT] at b1 b2 b3 b4 f1 f2
  clear hT
  by_cases c : n < T * d
  · have HF : Hid (T - 1 = n / d) := f1 c
    clear f1 f2
    go_enter Tryz.func105, Tryz.ntmps105
    go_wp2_with fail
    go_ret
    exact ⟨ret_int HF.out, rfl⟩
  · have HF : Hid (T = n / d) := f2 c
    clear f1 f2
    go_enter Tryz.func105, Tryz.ntmps105
    go_wp2_with fail
    go_ret
    exact ⟨ret_int HF.out, rfl⟩

set_option maxHeartbeats 1000000 in
theorem rows_any (v : Value) (l : List Txt.Val) (gap : Int) (w : World) (h : VRow w v l) (hl : l.length ≤ 100000) :
    Calls Tryz.prog 94 #[v, .int .i64 gap] w fun e w' => e = .returned (.int .i64 (Fil.rows l gap 0)) ∧ w' = w := by
  obtain ⟨a, cap, rfl⟩ := h.form
  go_enter Tryz.func94, Tryz.ntmps94
  go_wp2_with fail
  go_loopw [5] (fun p wr => ∃ k : Nat, p = .int .i64 k ∧ k ≤ l.length ∧ Fil.rows l gap k = Fil.rows l gap 0 ∧ wr = w) (fun p _ => l.length - (intOf p).toNat)
  case atStart => exact ⟨0, rfl, by omega, rfl, rfl⟩
  case round =>
    obtain ⟨k, rfl, hk, hr, rfl⟩ := hrel
    by_cases hlt : k < l.length
    · have hlt' : (k : Int) < (l.length : Int) := by omega
      have hk0 : (0 : Int) ≤ (k : Int) := by omega
      obtain ⟨x, hx⟩ : ∃ x, l[k]? = some x := ⟨l[k], List.getElem?_eq_getElem hlt⟩
      obtain ⟨b, off, rfl, hcap, hblt, c0, c1, c2⟩ := h.at hx
      have hcap' : (l.length : Int) ≤ (cap : Int) := by omega
      cases hm : x.m
      case false =>
        have hma : Fil.mAt l k = false := by rw [Fil.mAt_some hx, hm]
        have HR : Hid (Fil.rows l gap (k + 1) = Fil.rows l gap 0) := by show _ = _; rw [← hr, Fil.rows_not hlt hma]
        rw [hm] at c2
        clear hx h hr hma
        go_wp2_with fail
        go_roundw
        case rel => exact ⟨k + 1, by go_num, by omega, HR.out, by trivial⟩
        case measure => simp [intOf]; omega
      case true =>
        have hma : Fil.mAt l k = true := by rw [Fil.mAt_some hx, hm]
        have hgt := Fil.re_gt hma
        have hle := Fil.re_le (l := l) (i := k) (by omega)
        rw [hm] at c2
        have HBAD : Hid (k = 0 ∨ Fil.re l k = l.length ∨ gap < (Fil.re l k : Int) - k → Fil.rows l gap 0 = k) := fun g => by rw [← hr, Fil.rows_bad hma g]
        have HGOOD : Hid (¬ (k = 0 ∨ Fil.re l k = l.length ∨ gap < (Fil.re l k : Int) - k) → Fil.rows l gap (Fil.re l k) = Fil.rows l gap 0) := fun g => by rw [← hr, Fil.rows_good hma g]
        clear hr hx
        go_wp2_with fail
        go_loopw [6] (fun p wi => ∃ j : Nat, p = .int .i64 j ∧ k ≤ j ∧ j ≤ l.length ∧ Fil.re l j = Fil.re l k ∧ wi = wr) (fun p _ => l.length - (intOf p).toNat)
        case atStart => exact ⟨k, rfl, by omega, by omega, rfl, rfl⟩
        case round =>
          obtain ⟨j, rfl, hj1, hj2, hre, rfl⟩ := hrel
          have hj0 : (0 : Int) ≤ (j : Int) := by omega
          by_cases hjm : Fil.mAt l j = true
          · have hjl := Fil.mAt_lt hjm
            have hjl' : (j : Int) < (l.length : Int) := by omega
            obtain ⟨y, hy⟩ : ∃ x, l[j]? = some x := ⟨l[j], List.getElem?_eq_getElem hjl⟩
            obtain ⟨b', off', e', _, _, d0, d1, d2⟩ := h.at hy
            cases e'
            have HJ : Hid (Fil.re l (j + 1) = Fil.re l k) := by show _ = _; rw [← hre]; exact (Fil.re_miss hjm).symm
            rw [← Fil.mAt_some hy, hjm] at d2
            clear hy h hjm hre hma c2
            go_wp2_with fail
            go_roundw
            case rel => exact ⟨j + 1, by go_num, by omega, by omega, HJ.out, by trivial⟩
            case measure => simp [intOf]; omega
          · have hjm' : Fil.mAt l j = false := by simpa using hjm
            have hj : Fil.re l k = j := by rw [← hre, Fil.re_not hjm']
            rw [hj] at hgt hle HBAD HGOOD
            by_cases hbad : k = 0 ∨ j = l.length ∨ gap < (j : Int) - k
            · have HB : Hid (Fil.rows l gap 0 = k) := HBAD.out hbad
              by_cases hjl : j < l.length
              · have hjl' : (j : Int) < (l.length : Int) := by omega
                obtain ⟨y, hy⟩ : ∃ x, l[j]? = some x := ⟨l[j], List.getElem?_eq_getElem hjl⟩
                obtain ⟨b', off', e', _, _, d0, d1, d2⟩ := h.at hy
                cases e'
                rw [← Fil.mAt_some hy, hjm'] at d2
                by_cases hk1 : k = 0
                · have q1 : ((k : Int) == 0) = true := by simp; omega
                  clear hy h hjm hjm' hre hma c2 hj hbad HBAD HGOOD hk1
                  go_wp2_with fail
                  go_ret
                  exact ⟨ret_int HB.out.symm, rfl⟩
                · have q1 : ((k : Int) == 0) = false := by simp; omega
                  have q2 : ((j : Int) == (l.length : Int)) = false := by simp; omega
                  have q3 : gap < (j : Int) - k := by omega
                  clear hy h hjm hjm' hre hma c2 hj hbad HBAD HGOOD hk1
                  go_wp2_with fail
                  go_ret
                  exact ⟨ret_int HB.out.symm, rfl⟩
              · have hjl' : ¬ (j : Int) < (l.length : Int) := by omega
                have q2 : ((j : Int) == (l.length : Int)) = true := by simp; omega
                by_cases hk1 : k = 0
                · have q1 : ((k : Int) == 0) = true := by simp; omega
                  clear h hjm hjm' hre hma c2 hj hbad HBAD HGOOD hk1
                  go_wp2_with fail
                  go_ret
                  exact ⟨ret_int HB.out.symm, rfl⟩
                · have q1 : ((k : Int) == 0) = false := by simp; omega
                  clear h hjm hjm' hre hma c2 hj hbad HBAD HGOOD hk1
                  go_wp2_with fail
                  go_ret
                  exact ⟨ret_int HB.out.symm, rfl⟩
            · have HG : Hid (Fil.rows l gap j = Fil.rows l gap 0) := HGOOD.out hbad
              have hjl : j < l.length := by omega
              have hjl' : (j : Int) < (l.length : Int) := by omega
              obtain ⟨y, hy⟩ : ∃ x, l[j]? = some x := ⟨l[j], List.getElem?_eq_getElem hjl⟩
              obtain ⟨b', off', e', _, _, d0, d1, d2⟩ := h.at hy
              cases e'
              rw [← Fil.mAt_some hy, hjm'] at d2
              have q1 : ((k : Int) == 0) = false := by simp; omega
              have q2 : ((j : Int) == (l.length : Int)) = false := by simp; omega
              have q3 : ¬ gap < (j : Int) - k := by omega
              clear hy h hjm hjm' hre hma c2 hj hbad HBAD HGOOD
              go_wp2_with fail
              go_roundw
              case rel => exact ⟨j, rfl, by omega, HG.out, by trivial⟩
              case measure => simp [intOf]; omega
    · have hlt' : ¬ (k : Int) < (l.length : Int) := by omega
      have HR : Hid (Fil.rows l gap 0 = -1) := by show _ = _; rw [← hr, Fil.rows_end hlt]
      clear hr
      go_wp2_with fail
      go_ret
      exact ⟨ret_int HR.out.symm, rfl⟩

end Go.Proofs.YtjaffmmocbplaabGreatDoor

namespace Go.Proofs.YtjaffmmocbplaabGreatDoor
open Go.RowKit
set_option linter.unusedVariables false
attribute [local go_sem ↓] Go.wp_at_zero Go.wp_at_succ

theorem dif_bd {x y p : Int} (hx : 0 ≤ x ∧ x ≤ 999999999) (hy : 0 ≤ y ∧ y ≤ 999999999) (h0 : 0 ≤ p) (h1 : p ≤ 200) : -1000000000000 ≤ (y - x) * p ∧ (y - x) * p ≤ 1000000000000 := by
  have e : (y - x) * p = y * p - x * p := Int.sub_mul _ _ _
  have a1 := Int.mul_nonneg hx.1 h0
  have a2 := Int.mul_nonneg hy.1 h0
  have a3 := Int.mul_le_mul hx.2 h1 h0 (by omega)
  have a4 := Int.mul_le_mul hy.2 h1 h0 (by omega)
  omega
theorem quo_bd {n d : Int} (hd : 0 < d) (h1 : -1000000000000 ≤ n) (h2 : n ≤ 1000000000000) : -1000000000001 ≤ n / d ∧ n / d ≤ 1000000000001 := by
  have h3 := Int.ediv_mul_le n (b := d) (by omega)
  have h4 := Int.lt_ediv_add_one_mul_self n hd
  have b := tdiv_bd hd ⟨h1, h2⟩
  obtain ⟨f1, f2⟩ := floor_math (n := n) hd
  by_cases c : n < n.tdiv d * d
  · have := f1 c; omega
  · have := f2 c; omega

set_option maxRecDepth 1000000 in
set_option maxHeartbeats 2000000 in
theorem filled_any (v : Value) (l : List Txt.Val) (i : Nat) (w : World) (h : VRow w v l) (hi : i < l.length) (h0 : Fil.mAt l 0 = false) (hre : Fil.re l i < l.length) (hall : l.all valB = true) (hl : l.length ≤ 200) :
    Calls Tryz.prog 95 #[v, .int .i64 i] w fun e w' => e = .returned (.agg #[.int .i64 (Fil.fv l i).i, .int .i64 (Fil.fv l i).o, .bool false]) ∧ Below w.heap.size w w' := by
  obtain ⟨a, cap, rfl⟩ := h.form
  have hi0 : (0 : Int) ≤ (i : Int) := by omega
  have hi' : (i : Int) < (l.length : Int) := by omega
  obtain ⟨x, hx⟩ : ∃ x, l[i]? = some x := ⟨l[i], List.getElem?_eq_getElem hi⟩
  obtain ⟨b, off, rfl, hcap, hblt, c0, c1, c2⟩ := h.at hx
  have hcap' : (l.length : Int) ≤ (cap : Int) := by omega
  have hbne : ¬ b = w.heap.size := by omega
  cases hm : x.m
  case false =>
    have HV : Hid (Fil.fv l i = x) := by show _ = _; rw [Fil.fv_not (by rw [Fil.mAt_some hx, hm]), Fil.vAt_some hx]
    rw [hm] at c2
    clear hx h h0 hre
    go_enter Tryz.func95, Tryz.ntmps95
    go_wp2_with fail
    refine bodyPost_ret (v := .agg #[.int .i64 x.i, .int .i64 x.o, .bool false]) (by simp [results, Tryz.results95, go_sem]) rfl ⟨by rw [HV.out], ?_⟩
    repeat (first | exact Below.refl _ _ | refine Below.setCell ?_ (by first | omega | (simp; done) | (simp; omega)) _ | refine below_more ?_ _)
  case true =>
    have hma : Fil.mAt l i = true := by rw [Fil.mAt_some hx, hm]
    have hgt := Fil.re_gt hma
    have hlf := Fil.lf_lt h0 hma
    rw [hm] at c2
    obtain ⟨x1, hx1⟩ : ∃ x, l[Fil.lf l i]? = some x := ⟨l[Fil.lf l i], List.getElem?_eq_getElem (by omega)⟩
    obtain ⟨x2, hx2⟩ : ∃ x, l[Fil.re l i]? = some x := ⟨l[Fil.re l i], List.getElem?_eq_getElem hre⟩
    have v1 := valB_bd (List.all_eq_true.mp hall x1 (List.mem_of_getElem? hx1))
    have v2 := valB_bd (List.all_eq_true.mp hall x2 (List.mem_of_getElem? hx2))
    obtain ⟨b1, off1, e1, _, _, d0, d1, _⟩ := h.at hx1
    cases e1
    obtain ⟨b2, off2, e2, _, _, d3, d4, _⟩ := h.at hx2
    cases e2
    have HV : Hid (Fil.fv l i = ⟨x1.i + ((x2.i - x1.i) * ((i : Int) - Fil.lf l i)) / ((Fil.re l i : Int) - Fil.lf l i), x1.o + ((x2.o - x1.o) * ((i : Int) - Fil.lf l i)) / ((Fil.re l i : Int) - Fil.lf l i), false⟩) := by
      show _ = _
      unfold Fil.fv
      rw [if_pos hma, Fil.vAt_some hx1, Fil.vAt_some hx2]
      rfl
    have HL : Hid (∀ q : Nat, q ≤ i → Fil.lf l q = Fil.lf l i → (q = 0 ∨ Fil.mAt l q = false) → q = Fil.lf l i) := fun q _ e c => by
      rcases c with c | c
      · subst c; rw [← e]; rfl
      · rw [← e, Fil.lf_not c]
    have HM : Hid (∀ q : Nat, q < l.length → ∃ y : Txt.Val, w.cell? ⟨b, off + q * 3 + 2, none⟩ = some (.bool (Fil.mAt l q))) := fun q hq => by
      obtain ⟨y, hy⟩ : ∃ x, l[q]? = some x := ⟨l[q], List.getElem?_eq_getElem hq⟩
      obtain ⟨b3, off3, e3, _, _, _, _, k2⟩ := h.at hy
      cases e3
      exact ⟨y, by rw [Fil.mAt_some hy]; exact k2⟩
    have HRE : Hid (Fil.re l i < l.length) := hre
    obtain ⟨p1, p2⟩ := dif_bd (p := (i : Int) - Fil.lf l i) v1.1 v2.1 (by omega) (by omega)
    obtain ⟨p3, p4⟩ := dif_bd (p := (i : Int) - Fil.lf l i) v1.2 v2.2 (by omega) (by omega)
    obtain ⟨r1, r2⟩ := quo_bd (d := (Fil.re l i : Int) - Fil.lf l i) (by omega) p1 p2
    obtain ⟨r3, r4⟩ := quo_bd (d := (Fil.re l i : Int) - Fil.lf l i) (by omega) p3 p4
    obtain ⟨A, hA⟩ : ∃ A, A = Fil.lf l i := ⟨_, rfl⟩
    obtain ⟨B, hB⟩ : ∃ B, B = Fil.re l i := ⟨_, rfl⟩
    rw [← hB] at HV HRE hgt hre d3 d4 r1 r2 r3 r4
    rw [← hA] at HV HL hlf d0 d1 p1 p2 p3 p4 r1 r2 r3 r4
    have HA : Hid (A = Fil.lf l i) := hA
    have HB : Hid (B = Fil.re l i) := hB
    have HI : Hid (Fil.mAt l i = true) := hma
    clear hA hB hx1 hx2 hx h hma h0
    have A0 : (0 : Int) ≤ (A : Int) := by omega
    have A1 : (A : Int) < (l.length : Int) := by omega
    have B0 : (0 : Int) ≤ (B : Int) := by omega
    have B1 : (B : Int) < (l.length : Int) := by omega
    have s1 : IntKind.i64.wrap (x2.i - x1.i) = x2.i - x1.i := Go.IntWalk.i64_in _ (by omega)
    have s2 : IntKind.i64.wrap (x2.o - x1.o) = x2.o - x1.o := Go.IntWalk.i64_in _ (by omega)
    have s3 : IntKind.i64.wrap ((i : Int) - A) = (i : Int) - A := Go.IntWalk.i64_in _ (by omega)
    have s4 : IntKind.i64.wrap ((B : Int) - A) = (B : Int) - A := Go.IntWalk.i64_in _ (by omega)
    have s5 : IntKind.i64.wrap ((x2.i - x1.i) * ((i : Int) - A)) = (x2.i - x1.i) * ((i : Int) - A) := Go.IntWalk.i64_in _ (by omega)
    have s6 : IntKind.i64.wrap ((x2.o - x1.o) * ((i : Int) - A)) = (x2.o - x1.o) * ((i : Int) - A) := Go.IntWalk.i64_in _ (by omega)
    have s7 : IntKind.i64.wrap (x1.i + (x2.i - x1.i) * ((i : Int) - A) / ((B : Int) - A)) = x1.i + (x2.i - x1.i) * ((i : Int) - A) / ((B : Int) - A) := Go.IntWalk.i64_in _ (by omega)
    have s8 : IntKind.i64.wrap (x1.o + (x2.o - x1.o) * ((i : Int) - A) / ((B : Int) - A)) = x1.o + (x2.o - x1.o) * ((i : Int) - A) / ((B : Int) - A) := Go.IntWalk.i64_in _ (by omega)
    go_enter Tryz.func95, Tryz.ntmps95
    go_wp2_with fail
    clear c0 c1 c2
    go_loopw [5] (fun p wi => ∃ q : Nat, p = .int .i64 q ∧ q ≤ i ∧ Fil.lf l q = Fil.lf l i ∧ wi = w.alloc (.cells #[.int .i64 0, .int .i64 0, .bool false] 107)) (fun p _ => (intOf p).toNat)
    case atStart => exact ⟨i, rfl, by omega, rfl, rfl⟩
    case round =>
      obtain ⟨q, rfl, hq1, hq2, rfl⟩ := hrel
      have hq0 : (0 : Int) ≤ (q : Int) := by omega
      have hq' : (q : Int) < (l.length : Int) := by omega
      obtain ⟨_, m2⟩ := HM.out q (by omega)
      by_cases hgo : 0 < (q : Int) ∧ Fil.mAt l q = true
      · obtain ⟨hqp, hqm⟩ := hgo
        rw [hqm] at m2
        have HQ : Hid (Fil.lf l (q - 1) = Fil.lf l i) := by
          show _ = _
          rw [← hq2]
          obtain ⟨r, rfl⟩ : ∃ r, q = r + 1 := ⟨q - 1, by omega⟩
          exact (Fil.lf_miss hqm).symm
        clear hqm hq2
        go_wp2_with fail
        go_roundw
        case rel => exact ⟨q - 1, by go_num, by omega, HQ.out, by trivial⟩
        case measure => simp [intOf]; omega
      · have hqA : q = A := HL.out q hq1 (hq2.trans HA.out.symm) (by
          by_cases c : q = 0
          · exact .inl c
          · right
            cases g : Fil.mAt l q
            · rfl
            · exact absurd ⟨by omega, g⟩ hgo)
        have hex : (0 < (q : Int) ∧ Fil.mAt l q = false) ∨ ¬ 0 < (q : Int) := by
          by_cases c : 0 < (q : Int)
          · left
            refine ⟨c, ?_⟩
            cases g : Fil.mAt l q
            · rfl
            · exact absurd ⟨c, g⟩ hgo
          · exact .inr c
        subst hqA
        clear hgo hq2
        rcases hex with ⟨hqp, hqm⟩ | hqp
        · rw [hqm] at m2
          clear hqm
          go_wp2_with fail
          go_loopw [6] (fun p wi => ∃ r : Nat, p = .int .i64 r ∧ i ≤ r ∧ r ≤ B ∧ Fil.re l r = Fil.re l i ∧ wi = w.alloc (.cells #[.int .i64 0, .int .i64 0, .bool false] 107)) (fun p _ => l.length - (intOf p).toNat)
          case atStart => exact ⟨i, rfl, by omega, by omega, rfl, rfl⟩
          case round =>
            obtain ⟨r, rfl, hr1, hr2, hr3, rfl⟩ := hrel
            have hr0 : (0 : Int) ≤ (r : Int) := by omega
            have hr' : (r : Int) < (l.length : Int) := by omega
            obtain ⟨_, k2⟩ := HM.out r (by omega)
            cases hrm : Fil.mAt l r
            case true =>
              have hgt2 := Fil.re_gt hrm
              have hrB : r < B := by rw [HB.out, ← hr3]; exact hgt2
              have hr'' : (r : Int) < (l.length : Int) - 1 := by omega
              have HN : Hid (Fil.re l (r + 1) = Fil.re l i) := by show _ = _; rw [← hr3]; exact (Fil.re_miss hrm).symm
              rw [hrm] at k2
              clear hrm hr3 hgt2
              go_wp2_with fail
              go_roundw
              case rel => exact ⟨r + 1, by go_num, by omega, by omega, HN.out, by trivial⟩
              case measure => simp [intOf]; omega
            case false =>
              have hrB : r = B := by rw [HB.out, ← hr3, Fil.re_not hrm]
              rw [hrm] at k2
              subst hrB
              clear hrm hr3
              by_cases hr'' : (r : Int) < (l.length : Int) - 1
              all_goals
                go_wp2_with fail
                go_region_held3 (fun w' => w'.cell? ⟨b, off + q * 3, none⟩ = some (.int .i64 x1.i) ∧ w'.cell? ⟨b, off + r * 3, none⟩ = some (.int .i64 x2.i))
                  (simp [go_sem, hblt, d0, d3])
                  ((go_at_call 105; refine (floor_any _ _ _ (by assumption) (by assumption) (by omega) (by omega)).mono ?_; rintro e w1 ⟨rfl, rfl⟩))
                go_wp2_with fail
                go_region_held3 (fun w' => w'.cell? ⟨b, off + q * 3 + 1, none⟩ = some (.int .i64 x1.o) ∧ w'.cell? ⟨b, off + r * 3 + 1, none⟩ = some (.int .i64 x2.o))
                  (simp [go_sem, hblt, d1, d4])
                  ((go_at_call 105; refine (floor_any _ _ _ (by assumption) (by assumption) (by omega) (by omega)).mono ?_; rintro e w1 ⟨rfl, rfl⟩))
                go_wp2_with fail
                refine bodyPost_ret (v := .agg #[.int .i64 (x1.i + ((x2.i - x1.i) * ((i : Int) - q)) / ((r : Int) - q)), .int .i64 (x1.o + ((x2.o - x1.o) * ((i : Int) - q)) / ((r : Int) - q)), .bool false]) (by simp [results, Tryz.results95, go_sem]) rfl ⟨by rw [HV.out], ?_⟩
                repeat (first | exact Below.refl _ _ | refine Below.setCell ?_ (by first | omega | (simp; done) | (simp; omega)) _ | refine below_more ?_ _ | refine below_drewN ?_ _ | refine Below.drew ?_)
        · clear m2
          go_wp2_with fail
          go_loopw [6] (fun p wi => ∃ r : Nat, p = .int .i64 r ∧ i ≤ r ∧ r ≤ B ∧ Fil.re l r = Fil.re l i ∧ wi = w.alloc (.cells #[.int .i64 0, .int .i64 0, .bool false] 107)) (fun p _ => l.length - (intOf p).toNat)
          case atStart => exact ⟨i, rfl, by omega, by omega, rfl, rfl⟩
          case round =>
            obtain ⟨r, rfl, hr1, hr2, hr3, rfl⟩ := hrel
            have hr0 : (0 : Int) ≤ (r : Int) := by omega
            have hr' : (r : Int) < (l.length : Int) := by omega
            obtain ⟨_, k2⟩ := HM.out r (by omega)
            cases hrm : Fil.mAt l r
            case true =>
              have hgt2 := Fil.re_gt hrm
              have hrB : r < B := by rw [HB.out, ← hr3]; exact hgt2
              have hr'' : (r : Int) < (l.length : Int) - 1 := by omega
              have HN : Hid (Fil.re l (r + 1) = Fil.re l i) := by show _ = _; rw [← hr3]; exact (Fil.re_miss hrm).symm
              rw [hrm] at k2
              clear hrm hr3 hgt2
              go_wp2_with fail
              go_roundw
              case rel => exact ⟨r + 1, by go_num, by omega, by omega, HN.out, by trivial⟩
              case measure => simp [intOf]; omega
            case false =>
              have hrB : r = B := by rw [HB.out, ← hr3, Fil.re_not hrm]
              rw [hrm] at k2
              subst hrB
              clear hrm hr3
              by_cases hr'' : (r : Int) < (l.length : Int) - 1
              all_goals
                go_wp2_with fail
                go_region_held3 (fun w' => w'.cell? ⟨b, off + q * 3, none⟩ = some (.int .i64 x1.i) ∧ w'.cell? ⟨b, off + r * 3, none⟩ = some (.int .i64 x2.i))
                  (simp [go_sem, hblt, d0, d3])
                  ((go_at_call 105; refine (floor_any _ _ _ (by assumption) (by assumption) (by omega) (by omega)).mono ?_; rintro e w1 ⟨rfl, rfl⟩))
                go_wp2_with fail
                go_region_held3 (fun w' => w'.cell? ⟨b, off + q * 3 + 1, none⟩ = some (.int .i64 x1.o) ∧ w'.cell? ⟨b, off + r * 3 + 1, none⟩ = some (.int .i64 x2.o))
                  (simp [go_sem, hblt, d1, d4])
                  ((go_at_call 105; refine (floor_any _ _ _ (by assumption) (by assumption) (by omega) (by omega)).mono ?_; rintro e w1 ⟨rfl, rfl⟩))
                go_wp2_with fail
                refine bodyPost_ret (v := .agg #[.int .i64 (x1.i + ((x2.i - x1.i) * ((i : Int) - q)) / ((r : Int) - q)), .int .i64 (x1.o + ((x2.o - x1.o) * ((i : Int) - q)) / ((r : Int) - q)), .bool false]) (by simp [results, Tryz.results95, go_sem]) rfl ⟨by rw [HV.out], ?_⟩
                repeat (first | exact Below.refl _ _ | refine Below.setCell ?_ (by first | omega | (simp; done) | (simp; omega)) _ | refine below_more ?_ _ | refine below_drewN ?_ _ | refine Below.drew ?_)

end Go.Proofs.YtjaffmmocbplaabGreatDoor

namespace Go.Proofs.YtjaffmmocbplaabGreatDoor
open Go.RowKit
set_option linter.unusedVariables false
attribute [local go_sem ↓] Go.wp_at_zero Go.wp_at_succ

set_option maxHeartbeats 400000 in
theorem rowEnd_any (v : Value) (l : List Txt.Val) (i : Nat) (w : World) (h : VRow w v l) (hi : i ≤ l.length) (hl : l.length ≤ 100000) :
    Calls Tryz.prog 86 #[v, .int .i64 i] w fun e w' => e = .returned (.int .i64 (Fil.re l i)) ∧ w' = w := by
  obtain ⟨a, cap, rfl⟩ := h.form
  go_enter Tryz.func86, Tryz.ntmps86
  go_wp2_with fail
  go_loopw [1] (fun p wr => ∃ k : Nat, p = .int .i64 k ∧ k ≤ l.length ∧ Fil.re l k = Fil.re l i ∧ wr = w) (fun p _ => l.length - (intOf p).toNat)
  case atStart => exact ⟨i, rfl, hi, rfl, rfl⟩
  case round =>
    obtain ⟨k, rfl, hk, hr, rfl⟩ := hrel
    by_cases hlt : k < l.length
    · have hlt' : (k : Int) < (l.length : Int) := by omega
      have hk0 : (0 : Int) ≤ (k : Int) := by omega
      obtain ⟨x, hx⟩ : ∃ x, l[k]? = some x := ⟨l[k], List.getElem?_eq_getElem hlt⟩
      obtain ⟨b, off, rfl, hcap, hblt, c0, c1, c2⟩ := h.at hx
      have hcap' : (l.length : Int) ≤ (cap : Int) := by omega
      cases hm : x.m
      case true =>
        have HR : Hid (Fil.re l (k + 1) = Fil.re l i) := by show _ = _; rw [← hr]; exact (Fil.re_miss (by rw [Fil.mAt_some hx, hm])).symm
        rw [hm] at c2
        clear hx h hr
        go_wp2_with fail
        go_roundw
        case rel => exact ⟨k + 1, by go_num, by omega, HR.out, by trivial⟩
        case measure => simp [intOf]; omega
      case false =>
        have HR : Hid (Fil.re l i = k) := by show _ = _; rw [← hr]; exact Fil.re_not (by rw [Fil.mAt_some hx, hm])
        rw [hm] at c2
        clear hx h hr
        go_wp2_with fail
        go_ret
        exact ⟨ret_int (by rw [HR.out]), rfl⟩
    · have hlt' : ¬ (k : Int) < (l.length : Int) := by omega
      have HR : Hid (Fil.re l i = k) := by
        show _ = _
        rw [← hr, Fil.re_not]
        cases g : Fil.mAt l k
        · rfl
        · have := Fil.mAt_lt g; omega
      go_wp2_with fail
      go_ret
      exact ⟨ret_int (by rw [HR.out]), rfl⟩

theorem mul_bd {a n M N : Int} (h1 : 0 ≤ a) (h2 : a ≤ M) (h3 : 0 ≤ n) (h4 : n ≤ N) : 0 ≤ a * n ∧ a * n ≤ M * N :=
  ⟨Int.mul_nonneg h1 h3, Int.mul_le_mul h2 h4 h3 (by omega)⟩

set_option maxHeartbeats 400000 in
theorem numberBetween_any (a b i n : Int) (w : World) (a1 : 0 ≤ a) (a2 : a ≤ 999999999) (b1 : 0 ≤ b) (b2 : b ≤ 999999999) (i1 : 0 ≤ i) (i2 : i ≤ n) (n1 : 0 < n) (n2 : n ≤ 1000) :
    Calls Tryz.prog 100 #[.int .i64 a, .int .i64 b, .int .i64 i, .int .i64 n] w fun e w' => e = .returned (.int .i64 (Fil.btw a b i n)) ∧ w' = w := by
  have h1 := mul_bd a1 a2 (show 0 ≤ n - i by omega) (show n - i ≤ 1000 by omega)
  have h2 := mul_bd b1 b2 i1 (show i ≤ 1000 by omega)
  have hn0 : ¬ n = 0 := by omega
  have hd : 0 ≤ (a * (n - i) + b * i) / n ∧ (a * (n - i) + b * i) / n ≤ 1999999998000 := by
    refine ⟨Int.ediv_nonneg (by omega) (by omega), ?_⟩
    have := Int.ediv_le_self (a := a * (n - i) + b * i) n (by omega)
    omega
  have ht : (a * (n - i) + b * i).tdiv n = (a * (n - i) + b * i) / n := Int.tdiv_eq_ediv_of_nonneg (by omega)
  have HB : Hid ((a * (n - i) + b * i) / n = Fil.btw a b i n) := Fil.btw_one n1
  go_enter Tryz.func100, Tryz.ntmps100
  go_wp2_with fail
  go_ret
  exact ⟨ret_int (by rw [← HB.out, ← ht]), rfl⟩

end Go.Proofs.YtjaffmmocbplaabGreatDoor

namespace Go.Proofs.YtjaffmmocbplaabGreatDoor
open Go.RowKit
set_option linter.unusedVariables false
attribute [local go_sem ↓] Go.wp_at_zero Go.wp_at_succ

set_option maxRecDepth 1000000 in
set_option maxHeartbeats 1000000 in
theorem valueBetween_any (a b : Txt.Val) (i n : Int) (w : World) (ha : valB a = true) (hb : valB b = true) (i1 : 0 ≤ i) (i2 : i ≤ n) (n1 : 0 < n) (n2 : n ≤ 1000) :
    Calls Tryz.prog 87 #[.agg #[.int .i64 a.i, .int .i64 a.o, .bool a.m], .agg #[.int .i64 b.i, .int .i64 b.o, .bool b.m], .int .i64 i, .int .i64 n] w fun e w' =>
      e = .returned (.agg #[.int .i64 (Fil.btw a.i b.i i n), .int .i64 (Fil.btw a.o b.o i n), .bool false]) ∧ Below w.heap.size w w' := by
  obtain ⟨⟨p1, p2⟩, p3, p4⟩ := valB_bd ha
  obtain ⟨⟨q1, q2⟩, q3, q4⟩ := valB_bd hb
  clear ha hb
  go_enter Tryz.func87, Tryz.ntmps87
  go_wp2_with fail
  go_region_held3 (fun w' => w'.cell? ⟨w.heap.size, 0, none⟩ = some (.int .i64 a.i) ∧ w'.cell? ⟨w.heap.size, 1, none⟩ = some (.int .i64 a.o) ∧ w'.cell? ⟨w.heap.size + 1, 0, none⟩ = some (.int .i64 b.i) ∧ w'.cell? ⟨w.heap.size + 1, 1, none⟩ = some (.int .i64 b.o))
    (simp [go_sem])
    ((go_at_call 100; refine (numberBetween_any _ _ _ _ _ (by assumption) (by assumption) (by assumption) (by assumption) (by assumption) (by assumption) (by assumption) (by assumption)).mono ?_; rintro e w1 ⟨rfl, rfl⟩))
  all_goals
    go_wp2_with fail
    refine bodyPost_ret (v := .agg #[.int .i64 (Fil.btw a.i b.i i n), .int .i64 (Fil.btw a.o b.o i n), .bool false]) (by simp [results, Tryz.results87, go_sem]) rfl ⟨rfl, ?_⟩
    repeat (first | exact Below.refl _ _ | refine Below.setCell ?_ (by simp) _ | refine Below.drew ?_ | refine below_drewN ?_ _ | refine below_more ?_ _)

end Go.Proofs.YtjaffmmocbplaabGreatDoor
