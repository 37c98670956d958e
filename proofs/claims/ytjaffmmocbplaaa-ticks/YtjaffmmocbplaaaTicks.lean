/-
  Ticks: the law's walk and its row.
-/
import Derived.Test.YtjaffmmocbplaaaRows
import Derived.Test.YtjaffmmocbplaaaClockX
import Derived.Test.YtjaffmmocbplaaaClockS
import Derived.Test.YtjaffmmocbplaaaForm
namespace Go.Proofs.Ytjaffmmocbplaaa.ticks
open Go.ChangeShapes Go.WideShapes Go.ChangeAt Go.RowKit
set_option linter.unusedVariables false

theorem own : ownKnob Try.prog.godebug = none := by kernel_rfl
theorem laidOut : laidOutB Try.prog = true := by kernel_rfl

def ckD (z : Zon.Zn) (n : Int) : Int := if Zon.clockB z n then Zon.there z n / 1440 else 0
def ckM (z : Zon.Zn) (n : Int) : Int := if Zon.clockB z n then Zon.there z n % 1440 else 0
def ckE (z : Zon.Zn) (n : Int) : Int := if Zon.clockB z n then 0 else 3
theorem ck_any (z : Zon.Zn) (n : Int) (w : World) :
    Calls Try.prog 16 #[.agg #[.int .i64 z.off, .int .i64 z.f.m, .int .i64 z.f.w, .int .i64 z.f.d, .int .i64 z.f.h, .int .i64 z.t.m, .int .i64 z.t.w, .int .i64 z.t.d, .int .i64 z.t.h], .int .i64 n] w fun e w' => e = .returned (.tuple #[.int .i64 (ckD z n), .int .i64 (ckM z n), .int .i64 (ckE z n)]) ∧ Below w.heap.size w w' := by
  cases h : Zon.clockB z n
  · simpa [ckD, ckM, ckE, h] using Clock_no z n w h
  · simpa [ckD, ckM, ckE, h] using Clock_yes z n w h
theorem ck_cases (z : Zon.Zn) (n : Int) (hz : Zon.zoneB z = true) (h0 : 0 ≤ n) (h1 : n ≤ 52595999) :
    (ckE z n = 3 ∧ ckD z n = 0 ∧ ckM z n = 0 ∧ (n + z.off < 0 ∨ 52595999 < n + z.off + 60)) ∨
    (ckE z n = 0 ∧ 0 ≤ n + z.off ∧ n + z.off ≤ 52595999 ∧ 0 ≤ ckD z n ∧ ckD z n ≤ 36524 ∧ 0 ≤ ckM z n ∧ ckM z n ≤ 1439 ∧ (ckD z n * 1440 + ckM z n = n + z.off ∨ ckD z n * 1440 + ckM z n = n + z.off + 60)) := by
  have ht : Zon.there z n = n + z.off ∨ Zon.there z n = n + z.off + 60 := by unfold Zon.there; split <;> simp
  cases h : Zon.clockB z n
  · left
    refine ⟨by simp [ckE, h], by simp [ckD, h], by simp [ckM, h], ?_⟩
    simp only [Zon.clockB, hz, inB, Bool.true_and, Bool.and_eq_false_iff, decide_eq_false_iff_not] at h
    omega
  · right
    have e1 : ckD z n = Zon.there z n / 1440 := by simp [ckD, h]
    have e2 : ckM z n = Zon.there z n % 1440 := by simp [ckM, h]
    rw [e1, e2]
    refine ⟨by simp [ckE, h], ?_⟩
    simp only [Zon.clockB, hz, inB, Bool.true_and, Bool.and_eq_true, decide_eq_true_eq] at h
    omega
theorem ck_bad (z : Zon.Zn) (n : Int) (h : ¬ (Zon.zoneB z = true ∧ 0 ≤ n ∧ n ≤ 52595999)) : ckE z n = 3 := by
  have : Zon.clockB z n = false := by
    cases g : Zon.clockB z n
    · rfl
    · simp only [Zon.clockB, inB, Bool.and_eq_true, decide_eq_true_eq] at g
      exact absurd ⟨g.1.1.1, g.1.1.2⟩ h
  simp [ckE, this]

set_option maxHeartbeats 1000000 in
theorem walk_out (z : Zon.Zn) (n : Int) (w : World) (h : n < 0 ∨ 52595999 < n) :
    Calls Try.prog 6 #[.agg #[.int .i64 z.off, .int .i64 z.f.m, .int .i64 z.f.w, .int .i64 z.f.d, .int .i64 z.f.h, .int .i64 z.t.m, .int .i64 z.t.w, .int .i64 z.t.d, .int .i64 z.t.h], .int .i64 n] w fun e w' => e = .returned (.bool true) ∧ Below w.heap.size w w' := by
  have hE := ck_bad z n (by omega)
  rcases h with h | h
  · go_enter Try.func6, Try.ntmps6
    go_wp2_with (first
      | (go_at_call 16; refine (ck_any z _ _).mono ?_; rintro e w1 ⟨rfl, hb⟩)
      | (go_at_call 15; refine (num_any _ _).mono ?_; rintro e w4 ⟨rfl, rfl⟩))
    go_ret
    exact ⟨rfl, below_then (below_more (Below.refl _ _) _) hb⟩
  · go_enter Try.func6, Try.ntmps6
    go_wp2_with (first
      | (go_at_call 16; refine (ck_any z _ _).mono ?_; rintro e w1 ⟨rfl, hb⟩)
      | (go_at_call 15; refine (num_any _ _).mono ?_; rintro e w4 ⟨rfl, rfl⟩))
    go_ret
    exact ⟨rfl, below_then (below_more (Below.refl _ _) _) hb⟩

set_option maxHeartbeats 1000000 in
theorem walk_last (z : Zon.Zn) (n : Int) (w : World) (h : n = 52595999) :
    Calls Try.prog 6 #[.agg #[.int .i64 z.off, .int .i64 z.f.m, .int .i64 z.f.w, .int .i64 z.f.d, .int .i64 z.f.h, .int .i64 z.t.m, .int .i64 z.t.w, .int .i64 z.t.d, .int .i64 z.t.h], .int .i64 n] w fun e w' => e = .returned (.bool true) ∧ Below w.heap.size w w' := by
  have h1 : 52595999 ≤ n := by omega
  have h2 : (n == 52595999) = true := by simpa using h
  clear h
  go_enter Try.func6, Try.ntmps6
  go_wp2_with (first
    | (go_at_call 16; refine (ck_any z _ _).mono ?_; rintro e w1 ⟨rfl, hb⟩)
    | (go_at_call 15; refine (num_any _ _).mono ?_; rintro e w4 ⟨rfl, rfl⟩))
  go_ret
  exact ⟨rfl, below_then (below_more (Below.refl _ _) _) hb⟩

set_option maxHeartbeats 1000000 in
theorem walk_zone (z : Zon.Zn) (n : Int) (w : World) (h0 : 0 ≤ n) (h1 : n < 52595999) (hz : Zon.zoneB z = false) :
    Calls Try.prog 6 #[.agg #[.int .i64 z.off, .int .i64 z.f.m, .int .i64 z.f.w, .int .i64 z.f.d, .int .i64 z.f.h, .int .i64 z.t.m, .int .i64 z.t.w, .int .i64 z.t.d, .int .i64 z.t.h], .int .i64 n] w fun e w' => e = .returned (.bool true) ∧ Below w.heap.size w w' := by
  have hE := ck_bad z n (by simp [hz])
  go_enter Try.func6, Try.ntmps6
  go_wp2_with (first
      | (go_at_call 18; refine (zone_any z _).mono ?_; rintro e w1 ⟨rfl, hb⟩; obtain ⟨hc1, hf1⟩ := bcell hb; have hz1 : w.heap.size < w1.heap.size := by have := hb.size; simp at this; omega)
      | (go_at_call 19; refine (GoodZone_any z _).mono ?_; rintro e w2 ⟨rfl, hb2⟩; obtain ⟨hc2, hf2⟩ := bcell hb2; have hz2 : w.heap.size < w2.heap.size := by have := hb2.size; omega)
      | (go_at_call 16; have _ := hb3; refine (ck_any z _ _).mono ?_; rintro e w4 ⟨rfl, hb4⟩; obtain ⟨hc4, hf4⟩ := bcell hb4)
      | (go_at_call 16; refine (ck_any z _ _).mono ?_; rintro e w3 ⟨rfl, hb3⟩; obtain ⟨hc3, hf3⟩ := bcell hb3; have hz3 : w.heap.size < w3.heap.size := by have := hb3.size; omega)
      | (go_at_call 15; refine (num_any _ _).mono ?_; rintro e w5 ⟨rfl, rfl⟩))
  go_ret
  exact ⟨rfl, below_then (below_then (below_then (below_more (Below.refl _ _) _) hb) hb2) hb3⟩

set_option maxHeartbeats 2000000 in
theorem walk_in (z : Zon.Zn) (n : Int) (w : World) (h0 : 0 ≤ n) (h1 : n < 52595999) (hz : Zon.zoneB z = true) :
    Calls Try.prog 6 #[.agg #[.int .i64 z.off, .int .i64 z.f.m, .int .i64 z.f.w, .int .i64 z.f.d, .int .i64 z.f.h, .int .i64 z.t.m, .int .i64 z.t.w, .int .i64 z.t.d, .int .i64 z.t.h], .int .i64 n] w fun e w' => e = .returned (.bool true) ∧ Below w.heap.size w w' := by
  obtain ⟨⟨o1, o2⟩, _⟩ := Zon.zone_cases hz
  rcases ck_cases z n hz h0 (by omega) with ⟨hE, hD, hM, hs⟩ | ⟨hE, s0, s1, d0, d1, m0, m1, ht⟩
  · have g : (n + z.off < 0) ∨ (0 ≤ n + z.off ∧ 52595999 < n + z.off) ∨ (0 ≤ n + z.off ∧ n + z.off ≤ 52595999 ∧ 52595999 < n + z.off + 60) := by omega
    clear hs hD hM
    rcases g with g | ⟨g, g'⟩ | ⟨g, g', g''⟩
    all_goals
      go_enter Try.func6, Try.ntmps6
      go_wp2_with (first
        | (go_at_call 18; refine (zone_any z _).mono ?_; rintro e w1 ⟨rfl, hb⟩; obtain ⟨hc1, hf1⟩ := bcell hb; have hz1 : w.heap.size < w1.heap.size := by have := hb.size; simp at this; omega)
        | (go_at_call 19; refine (GoodZone_any z _).mono ?_; rintro e w2 ⟨rfl, hb2⟩; obtain ⟨hc2, hf2⟩ := bcell hb2; have hz2 : w.heap.size < w2.heap.size := by have := hb2.size; omega)
        | (go_at_call 16; have _ := hb3; refine (ck_any z _ _).mono ?_; rintro e w4 ⟨rfl, hb4⟩; obtain ⟨hc4, hf4⟩ := bcell hb4)
        | (go_at_call 16; refine (ck_any z _ _).mono ?_; rintro e w3 ⟨rfl, hb3⟩; obtain ⟨hc3, hf3⟩ := bcell hb3; have hz3 : w.heap.size < w3.heap.size := by have := hb3.size; omega)
        | (go_at_call 15; refine (num_any _ _).mono ?_; rintro e w5 ⟨rfl, rfl⟩))
      go_ret
      exact ⟨rfl, below_then (below_then (below_then (below_then (below_more (Below.refl _ _) _) hb) hb2) hb3) hb4⟩
  · have b1 : (n + z.off + 60 - n - z.off != 60) = false := by simp; omega
    have b2 : (n + z.off + 60 - n - z.off != 0) = true := by simp; omega
    rcases ck_cases z (n + 1) hz (by omega) (by omega) with ⟨hE', hD', hM', hs'⟩ | ⟨hE', s0', s1', d0', d1', m0', m1', ht'⟩
    · have g3 : 52595999 < n + z.off + 61 := by omega
      clear hs' hD' hM'
      rcases ht with ht | ht
      all_goals
        go_enter Try.func6, Try.ntmps6
        go_wp2_with (first
          | (go_at_call 18; refine (zone_any z _).mono ?_; rintro e w1 ⟨rfl, hb⟩; obtain ⟨hc1, hf1⟩ := bcell hb; have hz1 : w.heap.size < w1.heap.size := by have := hb.size; simp at this; omega)
          | (go_at_call 19; refine (GoodZone_any z _).mono ?_; rintro e w2 ⟨rfl, hb2⟩; obtain ⟨hc2, hf2⟩ := bcell hb2; have hz2 : w.heap.size < w2.heap.size := by have := hb2.size; omega)
          | (go_at_call 16; have _ := hb3; refine (ck_any z _ _).mono ?_; rintro e w4 ⟨rfl, hb4⟩; obtain ⟨hc4, hf4⟩ := bcell hb4)
          | (go_at_call 16; refine (ck_any z _ _).mono ?_; rintro e w3 ⟨rfl, hb3⟩; obtain ⟨hc3, hf3⟩ := bcell hb3; have hz3 : w.heap.size < w3.heap.size := by have := hb3.size; omega)
          | (go_at_call 15; refine (num_any _ _).mono ?_; rintro e w5 ⟨rfl, rfl⟩))
        go_ret
        exact ⟨rfl, below_then (below_then (below_then (below_then (below_more (Below.refl _ _) _) hb) hb2) hb3) hb4⟩
    · have b3 : (n + 1 + z.off - (n + z.off + 60) == 1) = false := by simp; omega
      have b4 : (n + 1 + z.off - (n + z.off + 60) == 61) = false := by simp; omega
      have b5 : (n + 1 + z.off - (n + z.off + 60) == -59) = true := by simp; omega
      have b6 : (n + 1 + z.off + 60 - (n + z.off + 60) == 1) = true := by simp; omega
      rcases ht with ht | ht <;> rcases ht' with ht' | ht'
      all_goals
        go_enter Try.func6, Try.ntmps6
        go_wp2_with (first
          | (go_at_call 18; refine (zone_any z _).mono ?_; rintro e w1 ⟨rfl, hb⟩; obtain ⟨hc1, hf1⟩ := bcell hb; have hz1 : w.heap.size < w1.heap.size := by have := hb.size; simp at this; omega)
          | (go_at_call 19; refine (GoodZone_any z _).mono ?_; rintro e w2 ⟨rfl, hb2⟩; obtain ⟨hc2, hf2⟩ := bcell hb2; have hz2 : w.heap.size < w2.heap.size := by have := hb2.size; omega)
          | (go_at_call 16; have _ := hb3; refine (ck_any z _ _).mono ?_; rintro e w4 ⟨rfl, hb4⟩; obtain ⟨hc4, hf4⟩ := bcell hb4)
          | (go_at_call 16; refine (ck_any z _ _).mono ?_; rintro e w3 ⟨rfl, hb3⟩; obtain ⟨hc3, hf3⟩ := bcell hb3; have hz3 : w.heap.size < w3.heap.size := by have := hb3.size; omega)
          | (go_at_call 15; refine (num_any _ _).mono ?_; rintro e w5 ⟨rfl, rfl⟩))
        go_ret
        exact ⟨rfl, below_then (below_then (below_then (below_then (below_more (Below.refl _ _) _) hb) hb2) hb3) hb4⟩

theorem walk (z : Zon.Zn) (n : Int) (wn : (Lit.int .i64 n).wf = true) (w : World) :
    Calls Try.prog 6 #[.agg #[.int .i64 z.off, .int .i64 z.f.m, .int .i64 z.f.w, .int .i64 z.f.d, .int .i64 z.f.h, .int .i64 z.t.m, .int .i64 z.t.w, .int .i64 z.t.d, .int .i64 z.t.h], .int .i64 n] w fun e w' => e = .returned (.bool true) ∧ Below w.heap.size w w' := by
  by_cases h : n < 0 ∨ 52595999 < n
  · exact walk_out z n w h
  · by_cases h2 : n = 52595999
    · exact walk_last z n w h2
    · cases hz : Zon.zoneB z
      · exact walk_zone z n w (by omega) (by omega) hz
      · exact walk_in z n w (by omega) (by omega) hz

/-! ### THE ROW's STEP -/
set_option maxRecDepth 100000 in
theorem lifted (os : Os) (started : os.Started) (H : Type) (enc : TypeId × Value → H) :
    ReturnsInHanded {} Try.checked os 6 .any (Rows.ticksSpec.pre6 enc Try.prog Try.f6 Rows.ticksRow.domain false) (Rows.ticksSpec.post enc Try.prog Try.f6 false true false false) := by
  refine returnsInHanded_of_change (C := Try.checked) own started (by kernel_rfl) Try.func6
    (ChangeSpec.witness6 (enc := enc) (C := Try.checked) false ⟨#[], #[.agg #[.int .i64 0, .int .i64 0, .int .i64 0, .int .i64 0, .int .i64 0, .int .i64 0, .int .i64 0, .int .i64 0, .int .i64 0], .int .i64 0], []⟩ 8 (by kernel_rfl) (by kernel_rfl) (by kernel_rfl) (by kernel_rfl)) ?_
  intro W base args ds gs before hval0 hW hcnd _
  have hval : ∀ (j : Nat) t v, Try.f6.params[j]? = some t → args[j]? = some v → Value.okWide Try.prog W .any base t v := hval0
  have hW' := hW
  obtain ⟨p, q, hA0, hV, rfl, hfz, hnd⟩ := hW
  have hA : DataW.TrodAll enc Try.prog W 0 (fun _ => true) true Try.f6.params.toList args.toList ds p := hA0
  rw [Try.params6] at hA hval
  obtain ⟨v0, vs0, d0, ds0, p0, q0, hargs, rfl, rfl, h0, r0⟩ := trodAll_cons hA
  obtain ⟨v1, vs1, d1, ds1, p1, q1, rfl, rfl, rfl, h1, r1⟩ := trodAll_cons r0
  obtain ⟨rfl, rfl, rfl⟩ := trodAll_nil r1
  obtain rfl : args = #[v0, v1] := by cases args; simp_all
  obtain ⟨rfl, rfl⟩ := trodVars_none hV
  have k0 := h0
  have lt0 : ∀ x ∈ p0, x.block < W.heap.size := by obtain ⟨m, hm⟩ := k0; exact DataW.trod_lt m _ _ _ hm
  obtain ⟨z, rfl⟩ := open_zone (hval 0 37 v0 rfl rfl) h0
  obtain ⟨a1, rfl, rfl, rfl, w1⟩ := open_int Try.underlying3 (hval 1 3 v1 rfl rfl) h1
  clear hA0 hval0
  refine (walk z a1 w1 W).mono fun e W' ⟨he, bel⟩ => ?_
  subst he
  exact ⟨_, rfl, _, _, _, [], _, [], hW', trodAll_mk1 (shut_bool Try.underlying4 _), (trodAll_cons_mk (Below.trod laidOut (by kernel_rfl) (of_decide_eq_true (by kernel_rfl)) k0 bel lt0) (trodAll_cons_mk (shut_int Try.underlying3 w1) trodAll_mk0)), rfl, bel.frame _, fun h => by cases h⟩

theorem over : Rows.ticksRow.holds Try.pinned (OpenSpec.ofChange Rows.ticksSpec) :=
  OpenClaim.holds_of_wide 6 Try.f6 rfl rfl rfl rfl rfl rfl rfl ⟨rfl, rfl, rfl, rfl, rfl⟩ rfl rfl rfl rfl rfl (by kernel_rfl) Try.func6 (by kernel_rfl)
    (of_decide_eq_true (by kernel_rfl)) (by unfold Func.isWrapper; first | (rw [if_pos (by decide +kernel)]; kernel_rfl) | (rw [if_neg (by decide +kernel)]; exact ⟨rfl, rfl⟩))
    (fun os started H enc _ => lifted os started H enc)

theorem proved : Rows.TicksSaid := over
#print axioms proved
end Go.Proofs.Ytjaffmmocbplaaa.ticks
namespace Go.Proofs.Ytjaffmmocbplaaa
theorem ticks_holds : Rows.TicksSaid := ticks.proved
end Go.Proofs.Ytjaffmmocbplaaa
