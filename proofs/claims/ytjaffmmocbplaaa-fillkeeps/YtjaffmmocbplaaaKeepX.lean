/-
  FillKeeps: the walk where Fill answers.
-/
import Derived.Test.YtjaffmmocbplaaaKeepW
namespace Go.Proofs.Ytjaffmmocbplaaa.keeps
open Go.RowKit
set_option linter.unusedVariables false
attribute [local go_sem ↓] Go.wp_at_zero Go.wp_at_succ

theorem btw_lst {a b I i n : Int} (hI : I = Fil.btw a b i n) (hn : 0 < n) (h0 : 0 ≤ i) (h1 : i ≤ n) : decide (I < lst a b) = false ∧ decide (mst a b < I) = false := by
  have := Fil.btw_in (a := a) (b := b) hn h0 h1
  rw [← hI] at this
  unfold lst mst
  constructor <;> rw [decide_eq_false_iff_not] <;> split <;> omega

set_option maxRecDepth 1000000 in
set_option maxHeartbeats 4000000 in
theorem walk_ok (step start gap : Int) (v : Value) (l : List Txt.Val) (w : World) (h : VRow w v l) (hok : fOk step start gap l = true) (hr : Fil.rows l gap 0 = -1) :
    Calls Try.prog 10 #[.agg #[.int .i64 step, .int .i64 start, v], .int .i64 gap] w fun e w' => e = .returned (.bool true) ∧ Below w.heap.size w w' := by
  obtain ⟨hm, _⟩ := fOk_iff.mp hok
  obtain ⟨len1, len2, hall⟩ := meterB_fit hm
  obtain ⟨e1, e2, e3⟩ := f_yes hok hr
  have h0 := Fil.rows_first hr
  have HRE : Hid (∀ k, k < l.length → Fil.re l k < l.length) := fun k hk => Fil.rows_ok l gap _ 0 (Nat.le_refl _) hr k (by omega) hk
  have fl1 := fun w1 (hb : Below w.heap.size w w1) => Fill_any step start gap v l w1 (h.below hb)
  rw [e1, e2, e3, Fil.fl_len] at fl1
  clear e1 e2 e3 hok hr hm
  obtain ⟨a, cap, rfl⟩ := h.form
  have hl0B : ((l.length : Int) == 0) = false := by rw [beq_eq_false_iff_ne]; omega
  have HV : Hid (VRow w (.slice a l.length cap) l) := h
  have H0 : Hid (Fil.mAt l 0 = false) := h0
  clear h h0
  go_enter Try.func10, Try.ntmps10
  go_wp2_with (first
    | (go_at_call 28; refine (fl1 _ (below_more (Below.refl _ _) _)).mono ?_; rintro e w1 ⟨v1, rfl, own1, hb1⟩; obtain ⟨a1, cap1, rfl⟩ := own_slice own1; obtain ⟨hc1, hf1⟩ := bcell hb1; have BW := below_then (below_more (Below.refl w.heap.size w) (.cells #[.int .i64 step, .int .i64 start, .slice a l.length cap] 50)) hb1; have hz1 : w.heap.size < w1.heap.size := (by have := hb1.size; simp at this; omega))
    | (go_at_call 15; refine (num_any _ _).mono ?_; rintro e w7 ⟨rfl, h7⟩; have h8 := h7.symm; subst h8))
  have m1 : w1.cell? ⟨w.heap.size, 2, none⟩ = some (.slice a l.length cap) := by simp [go_sem, hc1]
  have U1 : Hid (VRow w1 (.slice a1 l.length cap1) (Fil.fl l l.length)) := VRow.of_own own1 (Fil.fl_len l l.length)
  clear hc1 hf1 own1 hb1 fl1
  go_loopw [11, 12] (fun la p wr => ∃ k q : Nat, p = .int .i64 k ∧ la = .int .i64 q ∧ k ≤ l.length ∧ (k = 0 → q = 0) ∧ (0 < k → q = Fil.lf l (k - 1)) ∧ Below w1.heap.size w1 wr) (fun _ p _ => l.length - (intOf p).toNat)
  case atStart => exact ⟨0, 0, rfl, rfl, by omega, fun _ => rfl, fun h => by omega, Below.refl _ _⟩
  case round =>
    obtain ⟨k, q, rfl, rfl, hk, hq0, hq1, hbw⟩ := hrel
    have BR := below_then BW hbw
    by_cases hlt : k < l.length
    · have hlt' : (k : Int) < (l.length : Int) := by omega
      have hk0 : (0 : Int) ≤ (k : Int) := by omega
      have m2 := vcell_below hbw hz1 m1
      have hsw : w.heap.size < wr.heap.size := by have := hbw.size; omega
      obtain ⟨x, hx⟩ : ∃ x, l[k]? = some x := ⟨l[k], List.getElem?_eq_getElem hlt⟩
      obtain ⟨b, off, rfl, hcap, hblt, c0, c1, c2⟩ := (HV.out.below BR).at hx
      have hcap' : (l.length : Int) ≤ (cap : Int) := by omega
      obtain ⟨b1, off1, rfl, hcap1, hblt1, g0, g1, g2⟩ := (U1.out.below hbw).at (Fil.fl_get hlt)
      have hcap1' : (l.length : Int) ≤ (cap1 : Int) := by omega
      rw [Fil.fv_m hlt] at g2
      cases hm : x.m
      case false =>
        have hma : Fil.mAt l k = false := by rw [Fil.mAt_some hx, hm]
        have HQ : Hid (Fil.lf l k = k) := Fil.lf_not hma
        rw [Fil.fv_not hma, Fil.vAt_some hx] at g0 g1
        rw [hm] at c2
        clear hx hma hq0 hq1
        go_wp2_with fail
        go_quiet (fail)
        go_wp2_with fail
        go_roundw
        case rel => exact ⟨k + 1, k, by go_num, rfl, by omega, fun h => by omega, fun _ => by simpa using HQ.out.symm, below_drewN hbw _⟩
        case measure => simp [intOf]; omega
      case true =>
        have hma : Fil.mAt l k = true := by rw [Fil.mAt_some hx, hm]
        have hkp : 0 < k := by
          rcases Nat.eq_zero_or_pos k with g | g
          · subst g; rw [H0.out] at hma; cases hma
          · exact g
        have hqk : q = Fil.lf l k := by
          rw [hq1 hkp]
          obtain ⟨r, rfl⟩ : ∃ r, k = r + 1 := ⟨k - 1, by omega⟩
          exact (Fil.lf_miss hma).symm
        have hql : q < k := by rw [hqk]; exact Fil.lf_lt H0.out hma
        have hgt := Fil.re_gt hma
        have hRl := HRE.out k hlt
        rw [hm] at c2
        obtain ⟨x1, hx1⟩ : ∃ x, l[q]? = some x := ⟨l[q], List.getElem?_eq_getElem (by omega)⟩
        obtain ⟨x2, hx2⟩ : ∃ x, l[Fil.re l k]? = some x := ⟨l[Fil.re l k], List.getElem?_eq_getElem hRl⟩
        have hfi : (Fil.fv l k).i = Fil.btw x1.i x2.i ((k : Int) - q) ((Fil.re l k : Int) - q) := by
          unfold Fil.fv; rw [if_pos hma, ← hqk, Fil.vAt_some hx1, Fil.vAt_some hx2]
        have hfo : (Fil.fv l k).o = Fil.btw x1.o x2.o ((k : Int) - q) ((Fil.re l k : Int) - q) := by
          unfold Fil.fv; rw [if_pos hma, ← hqk, Fil.vAt_some hx1, Fil.vAt_some hx2]
        obtain ⟨hd1, hd2⟩ := btw_lst hfi (by omega) (by omega) (by omega)
        obtain ⟨hd3, hd4⟩ := btw_lst hfo (by omega) (by omega) (by omega)
        obtain ⟨b3, off3, e3, _, _, d0, d1, d2⟩ := (HV.out.below BR).at hx1
        cases e3
        obtain ⟨b4, off4, e4, _, _, d3, d4, d5⟩ := (HV.out.below BR).at hx2
        cases e4
        have HM : Hid (∀ q : Nat, q < l.length → wr.cell? ⟨b, off + q * 3 + 2, none⟩ = some (.bool (Fil.mAt l q))) := fun q hq => by
          obtain ⟨y, hy⟩ : ∃ x, l[q]? = some x := ⟨l[q], List.getElem?_eq_getElem hq⟩
          obtain ⟨b3, off3, e3, _, _, _, _, k2⟩ := (HV.out.below BR).at hy
          cases e3
          rw [Fil.mAt_some hy]; exact k2
        obtain ⟨I, hI⟩ : ∃ I, I = (Fil.fv l k).i := ⟨_, rfl⟩
        obtain ⟨O, hO⟩ : ∃ O, O = (Fil.fv l k).o := ⟨_, rfl⟩
        rw [← hI] at g0 hd1 hd2
        rw [← hO] at g1 hd3 hd4
        obtain ⟨R, hR⟩ : ∃ R, R = Fil.re l k := ⟨_, rfl⟩
        have HB : Hid (R = Fil.re l k) := hR
        rw [← hR] at d3 d4 d5 hgt hRl
        have HQ : Hid (q = Fil.lf l k) := hqk
        have q0 : (0 : Int) ≤ (q : Int) := by omega
        have ql : (q : Int) < (l.length : Int) := by omega
        have R0 : (0 : Int) ≤ (R : Int) := by omega
        have Rl : (R : Int) < (l.length : Int) := by omega
        clear hI hO hfi hfo hx1 hx2 hx hma hq0 hq1 hR hqk c0 c1
        go_wp2_with fail
        go_loopw [13] (fun p wi => ∃ r : Nat, p = .int .i64 r ∧ k ≤ r ∧ r ≤ R ∧ Fil.re l r = Fil.re l k ∧ wi = wr) (fun p _ => l.length - (intOf p).toNat)
        case atStart => exact ⟨k, rfl, by omega, by omega, rfl, rfl⟩
        case round =>
          obtain ⟨r, rfl, hr1, hr2, hr3, rfl⟩ := hrel
          have hr0 : (0 : Int) ≤ (r : Int) := by omega
          have hr' : (r : Int) < (l.length : Int) := by omega
          have k2 := HM.out r (by omega)
          cases hrm : Fil.mAt l r
          case true =>
            have hgt2 := Fil.re_gt hrm
            have hrB : r < R := by rw [HB.out, ← hr3]; exact hgt2
            have hr'' : (r : Int) < (l.length : Int) - 1 := by omega
            have HN : Hid (Fil.re l (r + 1) = Fil.re l k) := by show _ = _; rw [← hr3]; exact (Fil.re_miss hrm).symm
            rw [hrm] at k2
            clear hrm hr3 hgt2
            go_wp2_with fail
            go_roundw
            case rel => exact ⟨r + 1, by go_num, by omega, by omega, HN.out, by trivial⟩
            case measure => simp [intOf]; omega
          case false =>
            have hrB : r = R := by rw [HB.out, ← hr3, Fil.re_not hrm]
            rw [hrm] at k2
            subst hrB
            clear hrm hr3
            by_cases hr'' : (r : Int) < (l.length : Int) - 1
            all_goals
              go_wp2_with fail
              go_quiet (first | (go_at_call 33; exact Calls.quiet_of_same (least_any _ _ _)) | (go_at_call 34; exact Calls.quiet_of_same (most_any _ _ _)))
              go_wp2_with fail
              go_roundw
              case rel => exact ⟨k + 1, q, by go_num, rfl, by omega, fun h => by omega, fun _ => by simpa using HQ.out, below_drewN (below_more (below_more hbw _) _) _⟩
              case measure => simp [intOf]; omega
    · have hlt' : ¬ (k : Int) < (l.length : Int) := by omega
      go_wp2_with fail
      go_ret
      exact ⟨rfl, BR⟩

end Go.Proofs.Ytjaffmmocbplaaa.keeps
