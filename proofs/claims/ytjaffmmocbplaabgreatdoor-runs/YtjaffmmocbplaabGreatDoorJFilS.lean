/-
  The document's filled.
-/
import Derived.Test.YtjaffmmocbplaabGreatDoorJ11
namespace Go.Proofs.YtjaffmmocbplaabGreatDoor
open Go.RowKit
set_option linter.unusedVariables false
attribute [local go_sem ↓] Go.wp_at_zero Go.wp_at_succ

theorem dif_bd {x y p : Int} (hx : 0 ≤ x ∧ x ≤ 999999999) (hy : 0 ≤ y ∧ y ≤ 999999999) (h0 : 0 ≤ p) (h1 : p ≤ 200) : -1000000000000 ≤ (y - x) * p ∧ (y - x) * p ≤ 1000000000000 := by
  have e : (y - x) * p = y * p - x * p := Int.sub_mul _ _ _
  have a1 := Int.mul_nonneg hx.1 h0
  have a2 := Int.mul_nonneg hy.1 h0
  have a3 := Int.mul_le_mul hx.2 h1 h0 (by omega)
  have a4 := Int.mul_le_mul hy.2 h1 h0 (by omega)
  omega
theorem quo_bd {n d : Int} (hd : 0 < d) (h1 : -1000000000000 ≤ n) (h2 : n ≤ 1000000000000) : -1000000000001 ≤ n / d ∧ n / d ≤ 1000000000001 := by
  have h3 := Int.ediv_mul_le n (b := d) (by omega)
  have h4 := Int.lt_ediv_add_one_mul_self n hd
  have b := tdiv_bd hd ⟨h1, h2⟩
  obtain ⟨f1, f2⟩ := floor_math (n := n) hd
  by_cases c : n < n.tdiv d * d
  · have := f1 c; omega
  · have := f2 c; omega

set_option maxRecDepth 1000000 in
set_option maxHeartbeats 2000000 in
theorem filled_any (v : Value) (l : List Txt.Val) (i : Nat) (w : World) (h : VRow w v l) (hi : i < l.length) (h0 : Fil.mAt l 0 = false) (hre : Fil.re l i < l.length) (hall : l.all valB = true) (hl : l.length ≤ 200) :
    Calls Tryz.prog 95 #[v, .int .i64 i] w fun e w' => e = .returned (.agg #[.int .i64 (Fil.fv l i).i, .int .i64 (Fil.fv l i).o, .bool false]) ∧ Below w.heap.size w w' := by
  obtain ⟨a, cap, rfl⟩ := h.form
  have hi0 : (0 : Int) ≤ (i : Int) := by omega
  have hi' : (i : Int) < (l.length : Int) := by omega
  obtain ⟨x, hx⟩ : ∃ x, l[i]? = some x := ⟨l[i], List.getElem?_eq_getElem hi⟩
  obtain ⟨b, off, rfl, hcap, hblt, c0, c1, c2⟩ := h.at hx
  have hcap' : (l.length : Int) ≤ (cap : Int) := by omega
  have hbne : ¬ b = w.heap.size := by omega
  cases hm : x.m
  case false =>
    have HV : Hid (Fil.fv l i = x) := by show _ = _; rw [Fil.fv_not (by rw [Fil.mAt_some hx, hm]), Fil.vAt_some hx]
    rw [hm] at c2
    clear hx h h0 hre
    go_enter Tryz.func95, Tryz.ntmps95
    go_wp2_with fail
    refine bodyPost_ret (v := .agg #[.int .i64 x.i, .int .i64 x.o, .bool false]) (by simp [results, Tryz.results95, go_sem]) rfl ⟨by rw [HV.out], ?_⟩
    repeat (first | exact Below.refl _ _ | refine Below.setCell ?_ (by first | omega | (simp; done) | (simp; omega)) _ | refine below_more ?_ _)
  case true =>
    have hma : Fil.mAt l i = true := by rw [Fil.mAt_some hx, hm]
    have hgt := Fil.re_gt hma
    have hlf := Fil.lf_lt h0 hma
    rw [hm] at c2
    obtain ⟨x1, hx1⟩ : ∃ x, l[Fil.lf l i]? = some x := ⟨l[Fil.lf l i], List.getElem?_eq_getElem (by omega)⟩
    obtain ⟨x2, hx2⟩ : ∃ x, l[Fil.re l i]? = some x := ⟨l[Fil.re l i], List.getElem?_eq_getElem hre⟩
    have v1 := valB_bd (List.all_eq_true.mp hall x1 (List.mem_of_getElem? hx1))
    have v2 := valB_bd (List.all_eq_true.mp hall x2 (List.mem_of_getElem? hx2))
    obtain ⟨b1, off1, e1, _, _, d0, d1, _⟩ := h.at hx1
    cases e1
    obtain ⟨b2, off2, e2, _, _, d3, d4, _⟩ := h.at hx2
    cases e2
    have HV : Hid (Fil.fv l i = ⟨x1.i + ((x2.i - x1.i) * ((i : Int) - Fil.lf l i)) / ((Fil.re l i : Int) - Fil.lf l i), x1.o + ((x2.o - x1.o) * ((i : Int) - Fil.lf l i)) / ((Fil.re l i : Int) - Fil.lf l i), false⟩) := by
      show _ = _
      unfold Fil.fv
      rw [if_pos hma, Fil.vAt_some hx1, Fil.vAt_some hx2]
      rfl
    have HL : Hid (∀ q : Nat, q ≤ i → Fil.lf l q = Fil.lf l i → (q = 0 ∨ Fil.mAt l q = false) → q = Fil.lf l i) := fun q _ e c => by
      rcases c with c | c
      · subst c; rw [← e]; rfl
      · rw [← e, Fil.lf_not c]
    have HM : Hid (∀ q : Nat, q < l.length → ∃ y : Txt.Val, w.cell? ⟨b, off + q * 3 + 2, none⟩ = some (.bool (Fil.mAt l q))) := fun q hq => by
      obtain ⟨y, hy⟩ : ∃ x, l[q]? = some x := ⟨l[q], List.getElem?_eq_getElem hq⟩
      obtain ⟨b3, off3, e3, _, _, _, _, k2⟩ := h.at hy
      cases e3
      exact ⟨y, by rw [Fil.mAt_some hy]; exact k2⟩
    have HRE : Hid (Fil.re l i < l.length) := hre
    obtain ⟨p1, p2⟩ := dif_bd (p := (i : Int) - Fil.lf l i) v1.1 v2.1 (by omega) (by omega)
    obtain ⟨p3, p4⟩ := dif_bd (p := (i : Int) - Fil.lf l i) v1.2 v2.2 (by omega) (by omega)
    obtain ⟨r1, r2⟩ := quo_bd (d := (Fil.re l i : Int) - Fil.lf l i) (by omega) p1 p2
    obtain ⟨r3, r4⟩ := quo_bd (d := (Fil.re l i : Int) - Fil.lf l i) (by omega) p3 p4
    obtain ⟨A, hA⟩ : ∃ A, A = Fil.lf l i := ⟨_, rfl⟩
    obtain ⟨B, hB⟩ : ∃ B, B = Fil.re l i := ⟨_, rfl⟩
    rw [← hB] at HV HRE hgt hre d3 d4 r1 r2 r3 r4
    rw [← hA] at HV HL hlf d0 d1 p1 p2 p3 p4 r1 r2 r3 r4
    have HA : Hid (A = Fil.lf l i) := hA
    have HB : Hid (B = Fil.re l i) := hB
    have HI : Hid (Fil.mAt l i = true) := hma
    clear hA hB hx1 hx2 hx h hma h0
    have A0 : (0 : Int) ≤ (A : Int) := by omega
    have A1 : (A : Int) < (l.length : Int) := by omega
    have B0 : (0 : Int) ≤ (B : Int) := by omega
    have B1 : (B : Int) < (l.length : Int) := by omega
    have s1 : IntKind.i64.wrap (x2.i - x1.i) = x2.i - x1.i := Go.IntWalk.i64_in _ (by omega)
    have s2 : IntKind.i64.wrap (x2.o - x1.o) = x2.o - x1.o := Go.IntWalk.i64_in _ (by omega)
    have s3 : IntKind.i64.wrap ((i : Int) - A) = (i : Int) - A := Go.IntWalk.i64_in _ (by omega)
    have s4 : IntKind.i64.wrap ((B : Int) - A) = (B : Int) - A := Go.IntWalk.i64_in _ (by omega)
    have s5 : IntKind.i64.wrap ((x2.i - x1.i) * ((i : Int) - A)) = (x2.i - x1.i) * ((i : Int) - A) := Go.IntWalk.i64_in _ (by omega)
    have s6 : IntKind.i64.wrap ((x2.o - x1.o) * ((i : Int) - A)) = (x2.o - x1.o) * ((i : Int) - A) := Go.IntWalk.i64_in _ (by omega)
    have s7 : IntKind.i64.wrap (x1.i + (x2.i - x1.i) * ((i : Int) - A) / ((B : Int) - A)) = x1.i + (x2.i - x1.i) * ((i : Int) - A) / ((B : Int) - A) := Go.IntWalk.i64_in _ (by omega)
    have s8 : IntKind.i64.wrap (x1.o + (x2.o - x1.o) * ((i : Int) - A) / ((B : Int) - A)) = x1.o + (x2.o - x1.o) * ((i : Int) - A) / ((B : Int) - A) := Go.IntWalk.i64_in _ (by omega)
    go_enter Tryz.func95, Tryz.ntmps95
    go_wp2_with fail
    clear c0 c1 c2
    go_loopw [5] (fun p wi => ∃ q : Nat, p = .int .i64 q ∧ q ≤ i ∧ Fil.lf l q = Fil.lf l i ∧ wi = w.alloc (.cells #[.int .i64 0, .int .i64 0, .bool false] 107)) (fun p _ => (intOf p).toNat)
    case atStart => exact ⟨i, rfl, by omega, rfl, rfl⟩
    case round =>
      obtain ⟨q, rfl, hq1, hq2, rfl⟩ := hrel
      have hq0 : (0 : Int) ≤ (q : Int) := by omega
      have hq' : (q : Int) < (l.length : Int) := by omega
      obtain ⟨_, m2⟩ := HM.out q (by omega)
      by_cases hgo : 0 < (q : Int) ∧ Fil.mAt l q = true
      · obtain ⟨hqp, hqm⟩ := hgo
        rw [hqm] at m2
        have HQ : Hid (Fil.lf l (q - 1) = Fil.lf l i) := by
          show _ = _
          rw [← hq2]
          obtain ⟨r, rfl⟩ : ∃ r, q = r + 1 := ⟨q - 1, by omega⟩
          exact (Fil.lf_miss hqm).symm
        clear hqm hq2
        go_wp2_with fail
        go_roundw
        case rel => exact ⟨q - 1, by go_num, by omega, HQ.out, by trivial⟩
        case measure => simp [intOf]; omega
      · have hqA : q = A := HL.out q hq1 (hq2.trans HA.out.symm) (by
          by_cases c : q = 0
          · exact .inl c
          · right
            cases g : Fil.mAt l q
            · rfl
            · exact absurd ⟨by omega, g⟩ hgo)
        have hex : (0 < (q : Int) ∧ Fil.mAt l q = false) ∨ ¬ 0 < (q : Int) := by
          by_cases c : 0 < (q : Int)
          · left
            refine ⟨c, ?_⟩
            cases g : Fil.mAt l q
            · rfl
            · exact absurd ⟨c, g⟩ hgo
          · exact .inr c
        subst hqA
        clear hgo hq2
        rcases hex with ⟨hqp, hqm⟩ | hqp
        · rw [hqm] at m2
          clear hqm
          go_wp2_with fail
          go_loopw [6] (fun p wi => ∃ r : Nat, p = .int .i64 r ∧ i ≤ r ∧ r ≤ B ∧ Fil.re l r = Fil.re l i ∧ wi = w.alloc (.cells #[.int .i64 0, .int .i64 0, .bool false] 107)) (fun p _ => l.length - (intOf p).toNat)
          case atStart => exact ⟨i, rfl, by omega, by omega, rfl, rfl⟩
          case round =>
            obtain ⟨r, rfl, hr1, hr2, hr3, rfl⟩ := hrel
            have hr0 : (0 : Int) ≤ (r : Int) := by omega
            have hr' : (r : Int) < (l.length : Int) := by omega
            obtain ⟨_, k2⟩ := HM.out r (by omega)
            cases hrm : Fil.mAt l r
            case true =>
              have hgt2 := Fil.re_gt hrm
              have hrB : r < B := by rw [HB.out, ← hr3]; exact hgt2
              have hr'' : (r : Int) < (l.length : Int) - 1 := by omega
              have HN : Hid (Fil.re l (r + 1) = Fil.re l i) := by show _ = _; rw [← hr3]; exact (Fil.re_miss hrm).symm
              rw [hrm] at k2
              clear hrm hr3 hgt2
              go_wp2_with fail
              go_roundw
              case rel => exact ⟨r + 1, by go_num, by omega, by omega, HN.out, by trivial⟩
              case measure => simp [intOf]; omega
            case false =>
              have hrB : r = B := by rw [HB.out, ← hr3, Fil.re_not hrm]
              rw [hrm] at k2
              subst hrB
              clear hrm hr3
              by_cases hr'' : (r : Int) < (l.length : Int) - 1
              all_goals
                go_wp2_with fail
                go_region_held3 (fun w' => w'.cell? ⟨b, off + q * 3, none⟩ = some (.int .i64 x1.i) ∧ w'.cell? ⟨b, off + r * 3, none⟩ = some (.int .i64 x2.i))
                  (simp [go_sem, hblt, d0, d3])
                  ((go_at_call 105; refine (floor_any _ _ _ (by assumption) (by assumption) (by omega) (by omega)).mono ?_; rintro e w1 ⟨rfl, rfl⟩))
                go_wp2_with fail
                go_region_held3 (fun w' => w'.cell? ⟨b, off + q * 3 + 1, none⟩ = some (.int .i64 x1.o) ∧ w'.cell? ⟨b, off + r * 3 + 1, none⟩ = some (.int .i64 x2.o))
                  (simp [go_sem, hblt, d1, d4])
                  ((go_at_call 105; refine (floor_any _ _ _ (by assumption) (by assumption) (by omega) (by omega)).mono ?_; rintro e w1 ⟨rfl, rfl⟩))
                go_wp2_with fail
                refine bodyPost_ret (v := .agg #[.int .i64 (x1.i + ((x2.i - x1.i) * ((i : Int) - q)) / ((r : Int) - q)), .int .i64 (x1.o + ((x2.o - x1.o) * ((i : Int) - q)) / ((r : Int) - q)), .bool false]) (by simp [results, Tryz.results95, go_sem]) rfl ⟨by rw [HV.out], ?_⟩
                repeat (first | exact Below.refl _ _ | refine Below.setCell ?_ (by first | omega | (simp; done) | (simp; omega)) _ | refine below_more ?_ _ | refine below_drewN ?_ _ | refine Below.drew ?_)
        · clear m2
          go_wp2_with fail
          go_loopw [6] (fun p wi => ∃ r : Nat, p = .int .i64 r ∧ i ≤ r ∧ r ≤ B ∧ Fil.re l r = Fil.re l i ∧ wi = w.alloc (.cells #[.int .i64 0, .int .i64 0, .bool false] 107)) (fun p _ => l.length - (intOf p).toNat)
          case atStart => exact ⟨i, rfl, by omega, by omega, rfl, rfl⟩
          case round =>
            obtain ⟨r, rfl, hr1, hr2, hr3, rfl⟩ := hrel
            have hr0 : (0 : Int) ≤ (r : Int) := by omega
            have hr' : (r : Int) < (l.length : Int) := by omega
            obtain ⟨_, k2⟩ := HM.out r (by omega)
            cases hrm : Fil.mAt l r
            case true =>
              have hgt2 := Fil.re_gt hrm
              have hrB : r < B := by rw [HB.out, ← hr3]; exact hgt2
              have hr'' : (r : Int) < (l.length : Int) - 1 := by omega
              have HN : Hid (Fil.re l (r + 1) = Fil.re l i) := by show _ = _; rw [← hr3]; exact (Fil.re_miss hrm).symm
              rw [hrm] at k2
              clear hrm hr3 hgt2
              go_wp2_with fail
              go_roundw
              case rel => exact ⟨r + 1, by go_num, by omega, by omega, HN.out, by trivial⟩
              case measure => simp [intOf]; omega
            case false =>
              have hrB : r = B := by rw [HB.out, ← hr3, Fil.re_not hrm]
              rw [hrm] at k2
              subst hrB
              clear hrm hr3
              by_cases hr'' : (r : Int) < (l.length : Int) - 1
              all_goals
                go_wp2_with fail
                go_region_held3 (fun w' => w'.cell? ⟨b, off + q * 3, none⟩ = some (.int .i64 x1.i) ∧ w'.cell? ⟨b, off + r * 3, none⟩ = some (.int .i64 x2.i))
                  (simp [go_sem, hblt, d0, d3])
                  ((go_at_call 105; refine (floor_any _ _ _ (by assumption) (by assumption) (by omega) (by omega)).mono ?_; rintro e w1 ⟨rfl, rfl⟩))
                go_wp2_with fail
                go_region_held3 (fun w' => w'.cell? ⟨b, off + q * 3 + 1, none⟩ = some (.int .i64 x1.o) ∧ w'.cell? ⟨b, off + r * 3 + 1, none⟩ = some (.int .i64 x2.o))
                  (simp [go_sem, hblt, d1, d4])
                  ((go_at_call 105; refine (floor_any _ _ _ (by assumption) (by assumption) (by omega) (by omega)).mono ?_; rintro e w1 ⟨rfl, rfl⟩))
                go_wp2_with fail
                refine bodyPost_ret (v := .agg #[.int .i64 (x1.i + ((x2.i - x1.i) * ((i : Int) - q)) / ((r : Int) - q)), .int .i64 (x1.o + ((x2.o - x1.o) * ((i : Int) - q)) / ((r : Int) - q)), .bool false]) (by simp [results, Tryz.results95, go_sem]) rfl ⟨by rw [HV.out], ?_⟩
                repeat (first | exact Below.refl _ _ | refine Below.setCell ?_ (by first | omega | (simp; done) | (simp; omega)) _ | refine below_more ?_ _ | refine below_drewN ?_ _ | refine Below.drew ?_)

end Go.Proofs.YtjaffmmocbplaabGreatDoor
