/-
  PerW, PerU, PerV in one text.
-/
import Derived.Test.YtjaffmmocbplaabGreatDoorJ06
import Derived.Test.YtjaffmmocbplaabGreatDoorJ04
import Derived.BigQuiet
import Derived.Deep.RegionHeld3
import Derived.Deep.DrawnRows
namespace Go.Proofs.YtjaffmmocbplaabGreatDoor
open Go.RowKit
set_option linter.unusedVariables false
attribute [local go_sem ↓] Go.wp_at_zero Go.wp_at_succ

theorem isWeekend_any (n : Int) (w : World) (h0 : 0 ≤ n) (h1 : n ≤ 36524) :
    Calls Tryz.prog 102 #[.int .i64 n] w fun e w' => e = .returned (.bool (wkB n)) ∧ w' = w := by
  have wd := fun w => weekday_any n w h0 (by omega)
  have HW : Hid (wkB n = (decide (Zon.wd n = 6) || decide (Zon.wd n = 0))) := rfl
  obtain ⟨d, hd⟩ : ∃ d, d = Zon.wd n := ⟨_, rfl⟩
  rw [← hd] at wd HW
  clear hd
  by_cases g : d = 6
  · have gB : (d == 6) = true := by simpa using g
    clear g
    go_enter Tryz.func102, Tryz.ntmps102
    go_wp2_with (go_at_call 110; refine (wd _).mono ?_; rintro e w1 ⟨rfl, rfl⟩)
    go_ret
    exact ⟨ret_bool (by rw [HW.out]; simp at gB; simp [gB]), rfl⟩
  · have gB : (d == 6) = false := by simpa using g
    by_cases g2 : d = 0
    · have gB2 : (d == 0) = true := by simpa using g2
      clear g g2
      go_enter Tryz.func102, Tryz.ntmps102
      go_wp2_with (go_at_call 110; refine (wd _).mono ?_; rintro e w1 ⟨rfl, rfl⟩)
      go_ret
      exact ⟨ret_bool (by rw [HW.out]; simp at gB2; simp [gB2]), rfl⟩
    · have gB2 : (d == 0) = false := by simpa using g2
      go_enter Tryz.func102, Tryz.ntmps102
      go_wp2_with (go_at_call 110; refine (wd _).mono ?_; rintro e w1 ⟨rfl, rfl⟩)
      go_ret
      exact ⟨ret_bool (by rw [HW.out]; simp [g, g2]), rfl⟩

set_option maxRecDepth 1000000 in
set_option maxHeartbeats 1000000 in
theorem inSeason_any (t : Trf) (n : Int) (w : World) (h0 : 0 ≤ n) (h1 : n ≤ 36524) (f1 : 1 ≤ t.first) (f2 : t.first ≤ 12) (l1 : 1 ≤ t.last) (l2 : t.last ≤ 12) :
    Calls Tryz.prog 103 #[.agg #[.int .i64 t.z.off, .int .i64 t.z.f.m, .int .i64 t.z.f.w, .int .i64 t.z.f.d, .int .i64 t.z.f.h, .int .i64 t.z.t.m, .int .i64 t.z.t.w, .int .i64 t.z.t.d, .int .i64 t.z.t.h, .int .i64 t.days, .int .i64 t.gap, .int .i64 t.first, .int .i64 t.last, .string t.h0, .string t.h1, .string t.h2, .string t.h3, .int .i64 t.b0.x, .int .i64 t.b0.y, .int .i64 t.b0.z, .int .i64 t.b1.x, .int .i64 t.b1.y, .int .i64 t.b1.z, .int .i64 t.b2.x, .int .i64 t.b2.y, .int .i64 t.b2.z, .int .i64 t.d.x, .int .i64 t.d.y, .int .i64 t.d.z, .int .i64 t.np, .int .i64 t.nn, .int .i64 t.fix, .int .i64 t.min, .int .i64 t.tax], .int .i64 n] w fun e w' => e = .returned (.bool (seasB t n)) ∧ Below w.heap.size w w' := by
  have yb := Cal.yr_bd n h0 h1
  have yo := fun w => yearOf_any n w h0 h1
  have ms1 := fun w => monthStart_any (Cal.yr n) t.first w yb.1 (by omega) f1 f2
  have ms2 := fun w => monthStart_any (Cal.yr n) t.last w yb.1 (by omega) l1 l2
  have md2 := fun w => monthDays_any (Cal.yr n) t.last w (by omega) (by omega)
  have b1 := Cal.ys_bd (Cal.yr n) yb.1 (by omega)
  have b2 := Cal.cum_bd (Cal.yr n) t.last l1 (by omega)
  have b3 := Cal.md_bd (Cal.yr n) t.last
  have HS : Hid (seasB t n = inB n (Cal.ys (Cal.yr n) + Cal.cum (Cal.yr n) t.first) (Cal.ys (Cal.yr n) + Cal.cum (Cal.yr n) t.last + Cal.md (Cal.yr n) t.last - 1)) := rfl
  obtain ⟨y, hy⟩ : ∃ y, y = Cal.yr n := ⟨_, rfl⟩
  rw [← hy] at yo ms1 ms2 md2 b1 b2 b3 yb HS
  obtain ⟨A, hA⟩ : ∃ A, A = Cal.ys y + Cal.cum y t.first := ⟨_, rfl⟩
  obtain ⟨B, hB⟩ : ∃ B, B = Cal.ys y + Cal.cum y t.last := ⟨_, rfl⟩
  obtain ⟨C, hC⟩ : ∃ C, C = Cal.md y t.last := ⟨_, rfl⟩
  have B1 : 0 ≤ B := by omega
  have B2 : B ≤ 40000 := by omega
  rw [← hA] at ms1 HS
  rw [← hB] at ms2 HS
  rw [← hC] at md2 b3 HS
  clear hA hB hC hy b1 b2
  go_enter Tryz.func103, Tryz.ntmps103
  go_wp2_with (first
    | (go_at_call 108; refine (yo _).mono ?_; rintro e w1 ⟨rfl, rfl⟩)
    | (go_at_call 111; refine (ms1 _).mono ?_; rintro e w1 ⟨rfl, rfl⟩))
  go_quiet (first | (go_at_call 111; exact Calls.quiet_of_same (ms2 _)) | (go_at_call 112; exact Calls.quiet_of_same (md2 _)))
  go_wp2_with (go_at_call 54; refine (within_any _ _ _ _).mono ?_; rintro e w1 ⟨rfl, rfl⟩)
  go_ret
  exact ⟨ret_bool (by rw [HS.out]), below_drewN (below_more (Below.refl _ _) _) _⟩

end Go.Proofs.YtjaffmmocbplaabGreatDoor

namespace Go.Proofs.YtjaffmmocbplaabGreatDoor
open Go.RowKit
set_option linter.unusedVariables false
attribute [local go_sem ↓] Go.wp_at_zero Go.wp_at_succ

set_option maxRecDepth 1000000 in
set_option maxHeartbeats 2000000 in
theorem with_any (p : Per) (v : Txt.Val) (c step : Int) (w : World) (k : Nat) (hk : k ≤ 1000) (hp : okP p k) (hi : 0 ≤ v.i ∧ v.i ≤ 999999999) (ho : 0 ≤ v.o ∧ v.o ≤ 999999999) (hc : c = 0 ∨ c = 1 ∨ c = 2) (hs : step = 15 ∨ step = 30 ∨ step = 60) :
    Calls Tryz.prog 90 #[.agg #[.int .i64 p.i0, .int .i64 p.i1, .int .i64 p.i2, .int .i64 p.o, .int .i64 p.pk], .agg #[.int .i64 v.i, .int .i64 v.o, .bool v.m], .int .i64 c, .int .i64 step] w fun e w' => e = .returned (.agg #[.int .i64 (addV p v c step).i0, .int .i64 (addV p v c step).i1, .int .i64 (addV p v c step).i2, .int .i64 (addV p v c step).o, .int .i64 (addV p v c step).pk]) ∧ Below w.heap.size w w' := by
  have hpw := pw_bd hi hs
  have hs0 : ¬ step = 0 := by omega
  have ht : (60 * v.i).tdiv step = pw v step := Int.tdiv_eq_ediv_of_nonneg (by omega)
  have HP : Hid (addV p v c step = ⟨if c = 0 then p.i0 + v.i else p.i0, if c = 1 then p.i1 + v.i else p.i1, if c = 2 then p.i2 + v.i else p.i2, p.o + v.o, if p.pk < pw v step then pw v step else p.pk⟩) := rfl
  obtain ⟨P, hP⟩ : ∃ P, P = pw v step := ⟨_, rfl⟩
  obtain ⟨Q, hQ⟩ : ∃ Q, Q = addV p v c step := ⟨_, rfl⟩
  rw [← hP] at hpw ht HP
  rw [← hQ] at HP ⊢
  simp only [okP] at hp
  obtain ⟨⟨p1, p2⟩, ⟨p3, p4⟩, ⟨p5, p6⟩, ⟨p7, p8⟩, p9, p10⟩ := hp
  clear hP hQ hs
  rcases hc with rfl | rfl | rfl
  all_goals
    by_cases hm : p.pk < P
    all_goals
      go_enter Tryz.func90, Tryz.ntmps90
      go_wp2_with fail
      go_region
      all_goals
        go_wp2_with fail
        refine bodyPost_ret (v := .agg #[.int .i64 Q.i0, .int .i64 Q.i1, .int .i64 Q.i2, .int .i64 Q.o, .int .i64 Q.pk]) (by rw [HP.out]; simp [results, Tryz.results90, go_sem, hm] <;> omega) rfl ⟨rfl, ?_⟩
        repeat (first | exact Below.refl _ _ | refine Below.setCell ?_ (by first | omega | (simp; done) | (simp; omega)) _ | refine Below.drew ?_ | refine below_drewN ?_ _ | refine below_more ?_ _)

end Go.Proofs.YtjaffmmocbplaabGreatDoor

namespace Go.Proofs.YtjaffmmocbplaabGreatDoor
open Go.RowKit
set_option linter.unusedVariables false
attribute [local go_sem ↓] Go.wp_at_zero Go.wp_at_succ

theorem hideP {p : Prop} (h : p) : Hid p := h

set_option maxRecDepth 1000000 in
set_option maxHeartbeats 2000000 in
theorem classOf_any (t : Trf) (day : Int) (hr : Nat) (w : World) (ht : badN t = 13) (h0 : 0 ≤ day) (h1 : day ≤ 36524) (hh : hr < 24) :
    Calls Tryz.prog 89 #[.agg #[.int .i64 t.z.off, .int .i64 t.z.f.m, .int .i64 t.z.f.w, .int .i64 t.z.f.d, .int .i64 t.z.f.h, .int .i64 t.z.t.m, .int .i64 t.z.t.w, .int .i64 t.z.t.d, .int .i64 t.z.t.h, .int .i64 t.days, .int .i64 t.gap, .int .i64 t.first, .int .i64 t.last, .string t.h0, .string t.h1, .string t.h2, .string t.h3, .int .i64 t.b0.x, .int .i64 t.b0.y, .int .i64 t.b0.z, .int .i64 t.b1.x, .int .i64 t.b1.y, .int .i64 t.b1.z, .int .i64 t.b2.x, .int .i64 t.b2.y, .int .i64 t.b2.z, .int .i64 t.d.x, .int .i64 t.d.y, .int .i64 t.d.z, .int .i64 t.np, .int .i64 t.nn, .int .i64 t.fix, .int .i64 t.min, .int .i64 t.tax], .int .i64 day, .int .i64 hr] w fun e w' => e = .returned (.int .i64 (clsOf t day hr)) ∧ Below w.heap.size w w' := by
  have hse : (inB t.first 1 t.last && decide (t.last ≤ 12)) = true := badN_good (t := t) (j := 2) (by omega)
  simp only [Bool.and_eq_true, decide_eq_true_eq, inB_iff] at hse
  have we := fun w => isWeekend_any day w h0 h1
  have se := fun w => inSeason_any t day w h0 h1 (by omega) (by omega) (by omega) (by omega)
  have HC : Hid (clsOf t day hr = Txt.byteAt (hrow t (wkB day) (seasB t day)) hr - 65) := by show _ = _; simp [clsOf]
  have hby := hours_byte (hrow_ok ht (wkB day) (seasB t day)) hh
  obtain ⟨a, ha⟩ : ∃ a, a = wkB day := ⟨_, rfl⟩
  obtain ⟨b, hb⟩ : ∃ b, b = seasB t day := ⟨_, rfl⟩
  obtain ⟨C, hC⟩ : ∃ C, C = clsOf t day hr := ⟨_, rfl⟩
  rw [← ha] at we HC hby
  rw [← hb] at se HC hby
  rw [← hC] at HC ⊢
  have hr0 : (0 : Int) ≤ (hr : Int) := by omega
  clear ha hb hC ht hse
  cases a <;> cases b
  · have hs : t.h0.size = 24 := hby.1
    have hlt : hr < t.h0.size := by omega
    have hlt' : (hr : Int) < (t.h0.size : Int) := by omega
    have g : 65 ≤ (t.h0[hr].toNat : Int) ∧ (t.h0[hr].toNat : Int) ≤ 67 := by have := hby.2; rw [show hrow t _ _ = t.h0 from rfl, Txt.byteAt_lt hlt] at this; exact this
    have HD : (C = (t.h0[hr].toNat : Int) - 65) := by have := HC.out; rw [show hrow t _ _ = t.h0 from rfl, Txt.byteAt_lt hlt] at this; exact this
    clear hby HC
    obtain ⟨X, hX⟩ : ∃ X : Int, X = (t.h0[hr].toNat : Int) := ⟨_, rfl⟩
    rw [← hX] at g HD
    have hX' : (t.h0[hr].toNat : Int) = X := hX.symm
    clear hX
    rcases (by omega : (X = 65 ∧ C = 0) ∨ (¬ X = 65 ∧ X = 66 ∧ C = 1) ∨ (¬ X = 65 ∧ ¬ X = 66 ∧ C = 2)) with ⟨q, HE⟩ | ⟨q, q', HE⟩ | ⟨q, q', HE⟩
    case' inl => have b1 : (X == 65) = true := by simpa using q
    case' inr.inl => have b1 : (X == 65) = false := by simpa using q
    case' inr.inl => have b2 : (X == 66) = true := by simpa using q'
    case' inr.inl => clear q'
    case' inr.inr => have b1 : (X == 65) = false := by simpa using q
    case' inr.inr => have b2 : (X == 66) = false := by simpa using q'
    case' inr.inr => clear q'
    all_goals
      have HE' := hideP HE
      clear g HD q HE
      go_enter Tryz.func89, Tryz.ntmps89
      go_wp2_with (first
        | (refine wpList_load_row rfl 47 _ rfl w.heap.size rfl 47 _ (0, 0) _ (heap_alloc_new _ _) Tryz.underlying47 rfl (by kernel_rfl) ?_)
        | (go_at_call 102; refine (we _).mono ?_; rintro e w1 ⟨rfl, rfl⟩)
        | (go_at_call 103; refine (se _).mono ?_; rintro e w2 ⟨rfl, hb2⟩; obtain ⟨hc2, hf2⟩ := bcell hb2))
      go_ret
      exact ⟨ret_int HE'.out.symm, below_then (below_more (Below.refl _ _) _) hb2⟩
  · have hs : t.h2.size = 24 := hby.1
    have hlt : hr < t.h2.size := by omega
    have hlt' : (hr : Int) < (t.h2.size : Int) := by omega
    have g : 65 ≤ (t.h2[hr].toNat : Int) ∧ (t.h2[hr].toNat : Int) ≤ 67 := by have := hby.2; rw [show hrow t _ _ = t.h2 from rfl, Txt.byteAt_lt hlt] at this; exact this
    have HD : (C = (t.h2[hr].toNat : Int) - 65) := by have := HC.out; rw [show hrow t _ _ = t.h2 from rfl, Txt.byteAt_lt hlt] at this; exact this
    clear hby HC
    obtain ⟨X, hX⟩ : ∃ X : Int, X = (t.h2[hr].toNat : Int) := ⟨_, rfl⟩
    rw [← hX] at g HD
    have hX' : (t.h2[hr].toNat : Int) = X := hX.symm
    clear hX
    rcases (by omega : (X = 65 ∧ C = 0) ∨ (¬ X = 65 ∧ X = 66 ∧ C = 1) ∨ (¬ X = 65 ∧ ¬ X = 66 ∧ C = 2)) with ⟨q, HE⟩ | ⟨q, q', HE⟩ | ⟨q, q', HE⟩
    case' inl => have b1 : (X == 65) = true := by simpa using q
    case' inr.inl => have b1 : (X == 65) = false := by simpa using q
    case' inr.inl => have b2 : (X == 66) = true := by simpa using q'
    case' inr.inl => clear q'
    case' inr.inr => have b1 : (X == 65) = false := by simpa using q
    case' inr.inr => have b2 : (X == 66) = false := by simpa using q'
    case' inr.inr => clear q'
    all_goals
      have HE' := hideP HE
      clear g HD q HE
      go_enter Tryz.func89, Tryz.ntmps89
      go_wp2_with (first
        | (refine wpList_load_row rfl 47 _ rfl w.heap.size rfl 47 _ (0, 0) _ (heap_alloc_new _ _) Tryz.underlying47 rfl (by kernel_rfl) ?_)
        | (go_at_call 102; refine (we _).mono ?_; rintro e w1 ⟨rfl, rfl⟩)
        | (go_at_call 103; refine (se _).mono ?_; rintro e w2 ⟨rfl, hb2⟩; obtain ⟨hc2, hf2⟩ := bcell hb2))
      go_ret
      exact ⟨ret_int HE'.out.symm, below_then (below_more (Below.refl _ _) _) hb2⟩
  · have hs : t.h1.size = 24 := hby.1
    have hlt : hr < t.h1.size := by omega
    have hlt' : (hr : Int) < (t.h1.size : Int) := by omega
    have g : 65 ≤ (t.h1[hr].toNat : Int) ∧ (t.h1[hr].toNat : Int) ≤ 67 := by have := hby.2; rw [show hrow t _ _ = t.h1 from rfl, Txt.byteAt_lt hlt] at this; exact this
    have HD : (C = (t.h1[hr].toNat : Int) - 65) := by have := HC.out; rw [show hrow t _ _ = t.h1 from rfl, Txt.byteAt_lt hlt] at this; exact this
    clear hby HC
    obtain ⟨X, hX⟩ : ∃ X : Int, X = (t.h1[hr].toNat : Int) := ⟨_, rfl⟩
    rw [← hX] at g HD
    have hX' : (t.h1[hr].toNat : Int) = X := hX.symm
    clear hX
    rcases (by omega : (X = 65 ∧ C = 0) ∨ (¬ X = 65 ∧ X = 66 ∧ C = 1) ∨ (¬ X = 65 ∧ ¬ X = 66 ∧ C = 2)) with ⟨q, HE⟩ | ⟨q, q', HE⟩ | ⟨q, q', HE⟩
    case' inl => have b1 : (X == 65) = true := by simpa using q
    case' inr.inl => have b1 : (X == 65) = false := by simpa using q
    case' inr.inl => have b2 : (X == 66) = true := by simpa using q'
    case' inr.inl => clear q'
    case' inr.inr => have b1 : (X == 65) = false := by simpa using q
    case' inr.inr => have b2 : (X == 66) = false := by simpa using q'
    case' inr.inr => clear q'
    all_goals
      have HE' := hideP HE
      clear g HD q HE
      go_enter Tryz.func89, Tryz.ntmps89
      go_wp2_with (first
        | (refine wpList_load_row rfl 47 _ rfl w.heap.size rfl 47 _ (0, 0) _ (heap_alloc_new _ _) Tryz.underlying47 rfl (by kernel_rfl) ?_)
        | (go_at_call 102; refine (we _).mono ?_; rintro e w1 ⟨rfl, rfl⟩)
        | (go_at_call 103; refine (se _).mono ?_; rintro e w2 ⟨rfl, hb2⟩; obtain ⟨hc2, hf2⟩ := bcell hb2))
      go_ret
      exact ⟨ret_int HE'.out.symm, below_then (below_more (Below.refl _ _) _) hb2⟩
  · have hs : t.h3.size = 24 := hby.1
    have hlt : hr < t.h3.size := by omega
    have hlt' : (hr : Int) < (t.h3.size : Int) := by omega
    have g : 65 ≤ (t.h3[hr].toNat : Int) ∧ (t.h3[hr].toNat : Int) ≤ 67 := by have := hby.2; rw [show hrow t _ _ = t.h3 from rfl, Txt.byteAt_lt hlt] at this; exact this
    have HD : (C = (t.h3[hr].toNat : Int) - 65) := by have := HC.out; rw [show hrow t _ _ = t.h3 from rfl, Txt.byteAt_lt hlt] at this; exact this
    clear hby HC
    obtain ⟨X, hX⟩ : ∃ X : Int, X = (t.h3[hr].toNat : Int) := ⟨_, rfl⟩
    rw [← hX] at g HD
    have hX' : (t.h3[hr].toNat : Int) = X := hX.symm
    clear hX
    rcases (by omega : (X = 65 ∧ C = 0) ∨ (¬ X = 65 ∧ X = 66 ∧ C = 1) ∨ (¬ X = 65 ∧ ¬ X = 66 ∧ C = 2)) with ⟨q, HE⟩ | ⟨q, q', HE⟩ | ⟨q, q', HE⟩
    case' inl => have b1 : (X == 65) = true := by simpa using q
    case' inr.inl => have b1 : (X == 65) = false := by simpa using q
    case' inr.inl => have b2 : (X == 66) = true := by simpa using q'
    case' inr.inl => clear q'
    case' inr.inr => have b1 : (X == 65) = false := by simpa using q
    case' inr.inr => have b2 : (X == 66) = false := by simpa using q'
    case' inr.inr => clear q'
    all_goals
      have HE' := hideP HE
      clear g HD q HE
      go_enter Tryz.func89, Tryz.ntmps89
      go_wp2_with (first
        | (refine wpList_load_row rfl 47 _ rfl w.heap.size rfl 47 _ (0, 0) _ (heap_alloc_new _ _) Tryz.underlying47 rfl (by kernel_rfl) ?_)
        | (go_at_call 102; refine (we _).mono ?_; rintro e w1 ⟨rfl, rfl⟩)
        | (go_at_call 103; refine (se _).mono ?_; rintro e w2 ⟨rfl, hb2⟩; obtain ⟨hc2, hf2⟩ := bcell hb2))
      go_ret
      exact ⟨ret_int HE'.out.symm, below_then (below_more (Below.refl _ _) _) hb2⟩

end Go.Proofs.YtjaffmmocbplaabGreatDoor
