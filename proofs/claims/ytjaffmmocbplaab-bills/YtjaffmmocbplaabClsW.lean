/-
  The document's class.
-/
import Derived.Test.YtjaffmmocbplaabPerM
import Derived.Test.YtjaffmmocbplaabGdW
import Derived.Test.YtjaffmmocbplaabClockR
namespace Go.Proofs.Ytjaffmmocbplaab
open Go.RowKit
set_option linter.unusedVariables false

theorem season_iff {t : Trf} {n y m d : Int} (hok : Cal.Ok y m d) (hn : Cal.num y m d = n) (f1 : 1 ≤ t.first) (f2 : t.first ≤ 12) (l1 : 1 ≤ t.last) (l2 : t.last ≤ 12) : seasB t n = (decide (t.first ≤ m) && decide (m ≤ t.last)) := by
  have hy : Cal.yr n = y := by rw [← hn]; exact Cal.yr_of hok
  unfold seasB
  rw [hy]
  obtain ⟨o1, o2, o3, o4, o5⟩ := hok
  unfold Cal.num at hn
  have cs := Cal.cum_succ y m o2 o3
  have cl := Cal.cum_succ y t.last l1 l2
  have e1 : (Cal.ys y + Cal.cum y t.first ≤ n) ↔ t.first ≤ m := by
    constructor
    · intro h
      rcases Int.lt_or_le m t.first with g | g
      · have := Cal.cum_mono y (m + 1) t.first (by omega) (by omega) (by omega); omega
      · exact g
    · intro g; have := Cal.cum_mono y t.first m f1 g (by omega); omega
  have e2 : (n ≤ Cal.ys y + Cal.cum y t.last + Cal.md y t.last - 1) ↔ m ≤ t.last := by
    constructor
    · intro h
      rcases Int.lt_or_le t.last m with g | g
      · have := Cal.cum_mono y (t.last + 1) m (by omega) (by omega) (by omega); omega
      · exact g
    · intro g; have := Cal.cum_mono y (m + 1) (t.last + 1) (by omega) (by omega) (by omega); omega
  unfold inB
  by_cases a : t.first ≤ m <;> by_cases b : m ≤ t.last
  · simp [a, b, e1.mpr a, e2.mpr b]
  · simp [a, b, e2]
  · simp [a, b, e1]
  · simp [a, b, e1]

theorem season_cases {t : Trf} {n y m d : Int} (hok : Cal.Ok y m d) (hn : Cal.num y m d = n) (f1 : 1 ≤ t.first) (f2 : t.first ≤ 12) (l1 : 1 ≤ t.last) (l2 : t.last ≤ 12) :
    (¬ t.first ≤ m ∧ seasB t n = false) ∨ (t.first ≤ m ∧ ¬ m ≤ t.last ∧ seasB t n = false) ∨ (t.first ≤ m ∧ m ≤ t.last ∧ seasB t n = true) := by
  rw [season_iff hok hn f1 f2 l1 l2]
  by_cases a : t.first ≤ m <;> by_cases b : m ≤ t.last <;> simp [a, b]

set_option maxRecDepth 1000000 in
set_option maxHeartbeats 2000000 in
theorem refClass_any (t : Trf) (day mi : Int) (w : World) (ht : badN t = 13) (h0 : 0 ≤ day) (h1 : day ≤ 36524) (m0 : 0 ≤ mi) (m1 : mi ≤ 1439) :
    Calls Try.prog 31 #[.agg #[.int .i64 t.z.off, .int .i64 t.z.f.m, .int .i64 t.z.f.w, .int .i64 t.z.f.d, .int .i64 t.z.f.h, .int .i64 t.z.t.m, .int .i64 t.z.t.w, .int .i64 t.z.t.d, .int .i64 t.z.t.h, .int .i64 t.days, .int .i64 t.gap, .int .i64 t.first, .int .i64 t.last, .string t.h0, .string t.h1, .string t.h2, .string t.h3, .int .i64 t.b0.x, .int .i64 t.b0.y, .int .i64 t.b0.z, .int .i64 t.b1.x, .int .i64 t.b1.y, .int .i64 t.b1.z, .int .i64 t.b2.x, .int .i64 t.b2.y, .int .i64 t.b2.z, .int .i64 t.d.x, .int .i64 t.d.y, .int .i64 t.d.z, .int .i64 t.np, .int .i64 t.nn, .int .i64 t.fix, .int .i64 t.min, .int .i64 t.tax], .int .i64 day, .int .i64 mi] w fun e w' => e = .returned (.int .i64 (clsOf t day (mi / 60))) ∧ Below w.heap.size w w' := by
  have hse : (inB t.first 1 t.last && decide (t.last ≤ 12)) = true := badN_good (t := t) (j := 2) (by omega)
  simp only [Bool.and_eq_true, decide_eq_true_eq, inB_iff] at hse
  have HSE : Hid (∀ y m d : Int, Cal.Ok y m d → Cal.num y m d = day → (¬ t.first ≤ m ∧ seasB t day = false) ∨ (t.first ≤ m ∧ ¬ m ≤ t.last ∧ seasB t day = false) ∨ (t.first ≤ m ∧ m ≤ t.last ∧ seasB t day = true)) := fun y m d a b => season_cases a b (by omega) (by omega) (by omega) (by omega)
  have dt := fun w1 => dated_any day w1 h0 h1
  have wd := fun w1 => refWeekday_any day w1 h0 (by omega)
  obtain ⟨hr, hhr⟩ : ∃ hr : Nat, mi / 60 = (hr : Int) := ⟨(mi / 60).toNat, by omega⟩
  have hr24 : hr < 24 := by omega
  have hr0 : (0 : Int) ≤ (hr : Int) := by omega
  have HC : Hid (clsOf t day (mi / 60) = Txt.byteAt (hrow t (wkB day) (seasB t day)) hr - 65) := by show _ = _; rw [hhr]; simp [clsOf]
  have HBY : Hid (∀ a b, (hrow t a b).size = 24 ∧ 65 ≤ Txt.byteAt (hrow t a b) hr ∧ Txt.byteAt (hrow t a b) hr ≤ 67) := fun a b => hours_byte (hrow_ok ht a b) hr24
  have l0 : hr < t.h0.size := by have : t.h0.size = 24 := (HBY.out false false).1; omega
  have l0' : (hr : Int) < (t.h0.size : Int) := by omega
  have g0 : 65 ≤ (t.h0[hr].toNat : Int) ∧ (t.h0[hr].toNat : Int) ≤ 67 := by have := (HBY.out false false).2; rw [show hrow t _ _ = t.h0 from rfl, Txt.byteAt_lt l0] at this; exact this
  have k0 : IntKind.u8.wrap ((t.h0[hr].toNat : Int) - 65) = (t.h0[hr].toNat : Int) - 65 := Go.IntWalk.u8_in _ (by omega)
  have E0 : Hid (Txt.byteAt (hrow t false false) hr = (t.h0[hr].toNat : Int)) := by show _ = _; rw [show hrow t _ _ = t.h0 from rfl, Txt.byteAt_lt l0]
  have l1 : hr < t.h1.size := by have : t.h1.size = 24 := (HBY.out true false).1; omega
  have l1' : (hr : Int) < (t.h1.size : Int) := by omega
  have g1 : 65 ≤ (t.h1[hr].toNat : Int) ∧ (t.h1[hr].toNat : Int) ≤ 67 := by have := (HBY.out true false).2; rw [show hrow t _ _ = t.h1 from rfl, Txt.byteAt_lt l1] at this; exact this
  have k1 : IntKind.u8.wrap ((t.h1[hr].toNat : Int) - 65) = (t.h1[hr].toNat : Int) - 65 := Go.IntWalk.u8_in _ (by omega)
  have E1 : Hid (Txt.byteAt (hrow t true false) hr = (t.h1[hr].toNat : Int)) := by show _ = _; rw [show hrow t _ _ = t.h1 from rfl, Txt.byteAt_lt l1]
  have l2 : hr < t.h2.size := by have : t.h2.size = 24 := (HBY.out false true).1; omega
  have l2' : (hr : Int) < (t.h2.size : Int) := by omega
  have g2 : 65 ≤ (t.h2[hr].toNat : Int) ∧ (t.h2[hr].toNat : Int) ≤ 67 := by have := (HBY.out false true).2; rw [show hrow t _ _ = t.h2 from rfl, Txt.byteAt_lt l2] at this; exact this
  have k2 : IntKind.u8.wrap ((t.h2[hr].toNat : Int) - 65) = (t.h2[hr].toNat : Int) - 65 := Go.IntWalk.u8_in _ (by omega)
  have E2 : Hid (Txt.byteAt (hrow t false true) hr = (t.h2[hr].toNat : Int)) := by show _ = _; rw [show hrow t _ _ = t.h2 from rfl, Txt.byteAt_lt l2]
  have l3 : hr < t.h3.size := by have : t.h3.size = 24 := (HBY.out true true).1; omega
  have l3' : (hr : Int) < (t.h3.size : Int) := by omega
  have g3 : 65 ≤ (t.h3[hr].toNat : Int) ∧ (t.h3[hr].toNat : Int) ≤ 67 := by have := (HBY.out true true).2; rw [show hrow t _ _ = t.h3 from rfl, Txt.byteAt_lt l3] at this; exact this
  have k3 : IntKind.u8.wrap ((t.h3[hr].toNat : Int) - 65) = (t.h3[hr].toNat : Int) - 65 := Go.IntWalk.u8_in _ (by omega)
  have E3 : Hid (Txt.byteAt (hrow t true true) hr = (t.h3[hr].toNat : Int)) := by show _ = _; rw [show hrow t _ _ = t.h3 from rfl, Txt.byteAt_lt l3]
  have HWK : Hid (wkB day = (decide (Zon.wd day = 6) || decide (Zon.wd day = 0))) := rfl
  obtain ⟨D, hD⟩ : ∃ D, D = Zon.wd day := ⟨_, rfl⟩
  rw [← hD] at wd HWK
  obtain ⟨C, hC⟩ : ∃ C, C = clsOf t day (mi / 60) := ⟨_, rfl⟩
  rw [← hC] at HC ⊢
  clear hD hC ht hse
  rcases (by omega : D = 0 ∨ (¬ D = 0 ∧ D = 6) ∨ (¬ D = 0 ∧ ¬ D = 6)) with q | ⟨q, q'⟩ | ⟨q, q'⟩
  · have b1 : (D == 0) = true := by simpa using q
    have hwk : wkB day = true := by rw [HWK.out, q]; rfl
    clear q
    rw [hwk] at HC
    clear hwk HWK
    go_enter Try.func31, Try.ntmps31
    go_wp2_with (first
      | (go_at_call 64; refine (dt _).mono ?_; rintro e w1 ⟨y, m, d, rfl, hok, hy, hnum, hb1⟩; obtain ⟨hc1, hf1⟩ := bcell hb1; have hs1 : w.heap.size < w1.heap.size := (by have := hb1.size; simp at this; omega); have HS := HSE.out y m d hok hnum; clear hok hy hnum; rcases HS with ⟨g, hs⟩ | ⟨g, g', hs⟩ | ⟨g, g', hs⟩)
      | (go_at_call 65; refine (wd _).mono ?_; rintro e w2 ⟨rfl, h2⟩; have h2' := h2.symm; subst h2'))
    all_goals
      go_ret
      exact ⟨ret_int (by rw [HC.out, hs]; first | rw [E0.out] | rw [E1.out] | rw [E2.out] | rw [E3.out]), below_more (below_then (below_more (Below.refl _ _) _) hb1) _⟩
  · have b1 : (D == 0) = false := by simpa using q
    have b2 : (D == 6) = true := by simpa using q'
    have hwk : wkB day = true := by rw [HWK.out, q']; rfl
    clear q q'
    rw [hwk] at HC
    clear hwk HWK
    go_enter Try.func31, Try.ntmps31
    go_wp2_with (first
      | (go_at_call 64; refine (dt _).mono ?_; rintro e w1 ⟨y, m, d, rfl, hok, hy, hnum, hb1⟩; obtain ⟨hc1, hf1⟩ := bcell hb1; have hs1 : w.heap.size < w1.heap.size := (by have := hb1.size; simp at this; omega); have HS := HSE.out y m d hok hnum; clear hok hy hnum; rcases HS with ⟨g, hs⟩ | ⟨g, g', hs⟩ | ⟨g, g', hs⟩)
      | (go_at_call 65; refine (wd _).mono ?_; rintro e w2 ⟨rfl, h2⟩; have h2' := h2.symm; subst h2'))
    all_goals
      go_ret
      exact ⟨ret_int (by rw [HC.out, hs]; first | rw [E0.out] | rw [E1.out] | rw [E2.out] | rw [E3.out]), below_more (below_then (below_more (Below.refl _ _) _) hb1) _⟩
  · have b1 : (D == 0) = false := by simpa using q
    have b2 : (D == 6) = false := by simpa using q'
    have hwk : wkB day = false := by rw [HWK.out]; simp [q, q']
    clear q q'
    rw [hwk] at HC
    clear hwk HWK
    go_enter Try.func31, Try.ntmps31
    go_wp2_with (first
      | (go_at_call 64; refine (dt _).mono ?_; rintro e w1 ⟨y, m, d, rfl, hok, hy, hnum, hb1⟩; obtain ⟨hc1, hf1⟩ := bcell hb1; have hs1 : w.heap.size < w1.heap.size := (by have := hb1.size; simp at this; omega); have HS := HSE.out y m d hok hnum; clear hok hy hnum; rcases HS with ⟨g, hs⟩ | ⟨g, g', hs⟩ | ⟨g, g', hs⟩)
      | (go_at_call 65; refine (wd _).mono ?_; rintro e w2 ⟨rfl, h2⟩; have h2' := h2.symm; subst h2'))
    all_goals
      go_ret
      exact ⟨ret_int (by rw [HC.out, hs]; first | rw [E0.out] | rw [E1.out] | rw [E2.out] | rw [E3.out]), below_more (below_then (below_more (Below.refl _ _) _) hb1) _⟩

end Go.Proofs.Ytjaffmmocbplaab
