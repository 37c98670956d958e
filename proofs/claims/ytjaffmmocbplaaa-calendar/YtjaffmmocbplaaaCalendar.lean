/-
  Calendar: the law's walk and its row.
-/
import Derived.Test.YtjaffmmocbplaaaRows
import Derived.Test.YtjaffmmocbplaaaDateX
import Derived.WalkKit
import Derived.ProofKit
import Derived.OpenShut
namespace Go.Proofs.Ytjaffmmocbplaaa.calendar
open Go.ChangeShapes Go.WideShapes Go.ChangeAt Go.RowKit
set_option linter.unusedVariables false

theorem own : ownKnob Try.prog.godebug = none := by kernel_rfl

set_option maxHeartbeats 1000000 in
theorem walk (a0 : Int) (w0 : (Lit.int .i64 a0).wf = true) (w : World) :
    Calls Try.prog 4 #[.int .i64 a0] w fun e w' => e = .returned (.bool true) ∧ Below w.heap.size w w' := by
  by_cases h1 : 0 ≤ a0 ∧ a0 ≤ 36524
  · obtain ⟨h1a, h1b⟩ := h1
    obtain ⟨y, m, d, hok, hy, hn, hD⟩ : ∃ y m d, Cal.Ok y m d ∧ y ≤ 2099 ∧ Cal.num y m d = a0 ∧ ∀ w, Calls Try.prog 11 #[.int .i64 a0] w fun e w' => e = .returned (.tuple #[.int .i64 y, .int .i64 m, .int .i64 d, .int .i64 0]) ∧ w' = w := date_at a0 h1a h1b
    have hD1 : Cal.dayN y m d = a0 := (Cal.dayN_yes hok hy).trans hn
    have hE1 : Cal.dayE y m d = 0 := Cal.dayE_yes hok hy
    have hok' := hok
    obtain ⟨o1, o2, o3, o4, o5⟩ := hok'
    have mb := Cal.md_bd y m
    by_cases hl : a0 = 36524
    · have q := Cal.num_inj (y' := 2099) (m' := 12) (d' := 31) hok ⟨by omega, by omega, by omega, by omega, by decide⟩ (by rw [hn, hl]; decide)
      obtain ⟨rfl, rfl, rfl⟩ := q
      subst hl
      clear hn hok
      go_enter Try.func4, Try.ntmps4
      go_wp2_with (first
        | (go_at_call 11; refine (hD _).mono ?_; rintro e w1 ⟨rfl, rfl⟩)
        | (go_at_call 13; refine (Day_any _ _ _ _).mono ?_; rintro e w1 ⟨rfl, rfl⟩)
        | (go_at_call 15; refine (num_any _ _).mono ?_; rintro e w1 ⟨rfl, rfl⟩))
      go_ret
      exact ⟨rfl, Below.refl _ _⟩
    · by_cases hd : d < Cal.md y m
      · have q := Cal.next_day hok hd
        have hD2 : Cal.dayN y m (d + 1) = a0 + 1 := (Cal.dayN_yes q.1 hy).trans (q.2.trans (by rw [hn]))
        have hE2 : Cal.dayE y m (d + 1) = 0 := Cal.dayE_yes q.1 hy
        clear hn q
        go_enter Try.func4, Try.ntmps4
        go_wp2_with (first
          | (go_at_call 11; refine (hD _).mono ?_; rintro e w1 ⟨rfl, rfl⟩)
          | (go_at_call 13; refine (Day_any _ _ _ _).mono ?_; rintro e w1 ⟨rfl, rfl⟩)
          | (go_at_call 15; refine (num_any _ _).mono ?_; rintro e w1 ⟨rfl, rfl⟩))
        go_ret
        exact ⟨rfl, Below.refl _ _⟩
      · have hdm : d = Cal.md y m := by omega
        have hno : ¬ (Cal.Ok y m (d + 1) ∧ y ≤ 2099) := by unfold Cal.Ok; omega
        have hE2 : Cal.dayE y m (d + 1) = 3 := Cal.dayE_no hno
        clear hno
        have d28 : 28 ≤ d := by omega
        by_cases hm : m < 12
        · have q := Cal.next_month hok hdm hm
          have hD3 : Cal.dayN y (m + 1) 1 = a0 + 1 := (Cal.dayN_yes q.1 hy).trans (q.2.trans (by rw [hn]))
          have hE3 : Cal.dayE y (m + 1) 1 = 0 := Cal.dayE_yes q.1 hy
          clear hn q hdm
          go_enter Try.func4, Try.ntmps4
          go_wp2_with (first
            | (go_at_call 11; refine (hD _).mono ?_; rintro e w1 ⟨rfl, rfl⟩)
            | (go_at_call 13; refine (Day_any _ _ _ _).mono ?_; rintro e w1 ⟨rfl, rfl⟩)
            | (go_at_call 15; refine (num_any _ _).mono ?_; rintro e w1 ⟨rfl, rfl⟩))
          go_ret
          exact ⟨rfl, Below.refl _ _⟩
        · have q := Cal.next_year hok hdm (by omega)
          have hy2 : y + 1 ≤ 2099 := Cal.num_year q.1 (by rw [q.2, hn]; omega)
          have hD3 : Cal.dayN (y + 1) 1 1 = a0 + 1 := (Cal.dayN_yes q.1 hy2).trans (q.2.trans (by rw [hn]))
          have hE3 : Cal.dayE (y + 1) 1 1 = 0 := Cal.dayE_yes q.1 hy2
          clear hn q hdm
          go_enter Try.func4, Try.ntmps4
          go_wp2_with (first
            | (go_at_call 11; refine (hD _).mono ?_; rintro e w1 ⟨rfl, rfl⟩)
            | (go_at_call 13; refine (Day_any _ _ _ _).mono ?_; rintro e w1 ⟨rfl, rfl⟩)
            | (go_at_call 15; refine (num_any _ _).mono ?_; rintro e w1 ⟨rfl, rfl⟩))
          go_ret
          exact ⟨rfl, Below.refl _ _⟩
  · by_cases h2 : a0 < 0
    all_goals
      try (have h3 : 36524 < a0 := by omega)
      have hD := fun w => Date_no a0 w h1
      clear h1
      go_enter Try.func4, Try.ntmps4
      go_wp2_with (first
        | (go_at_call 11; refine (hD _).mono ?_; rintro e w1 ⟨rfl, rfl⟩)
        | (go_at_call 15; refine (num_any _ _).mono ?_; rintro e w1 ⟨rfl, rfl⟩))
      go_ret
      exact ⟨rfl, Below.refl _ _⟩

/-! ### THE ROW's STEP: WRITTEN OUT: LEAVE IT -/
set_option maxRecDepth 100000 in
theorem lifted (os : Os) (started : os.Started) (H : Type) (enc : TypeId × Value → H) :
    ReturnsInHanded {} Try.checked os 4 .any (Rows.calendarSpec.pre6 enc Try.prog Try.f4 Rows.calendarRow.domain false) (Rows.calendarSpec.post enc Try.prog Try.f4 false true false false) := by
  refine returnsInHanded_of_change (C := Try.checked) own started (by kernel_rfl) Try.func4
    (ChangeSpec.witness6 (enc := enc) (C := Try.checked) false ⟨#[], #[.int .i64 0], []⟩ 8 (by kernel_rfl) (by kernel_rfl) (by kernel_rfl) (by kernel_rfl)) ?_
  intro W base args ds gs before hval0 hW hcnd _
  have hval : ∀ (j : Nat) t v, Try.f4.params[j]? = some t → args[j]? = some v → Value.okWide Try.prog W .any base t v := hval0
  have hW' := hW
  obtain ⟨p, q, hA0, hV, rfl, hfz, hnd⟩ := hW
  have hA : DataW.TrodAll enc Try.prog W 0 (fun _ => true) true Try.f4.params.toList args.toList ds p := hA0
  rw [Try.params4] at hA hval
  obtain ⟨v0, vs0, d0, ds0, p0, q0, hargs, rfl, rfl, h0, r0⟩ := trodAll_cons hA
  obtain ⟨rfl, rfl, rfl⟩ := trodAll_nil r0
  obtain rfl : args = #[v0] := by cases args; simp_all
  obtain ⟨rfl, rfl⟩ := trodVars_none hV
  obtain ⟨a0, rfl, rfl, rfl, w0⟩ := open_int Try.underlying3 (hval 0 3 v0 rfl rfl) h0
  clear hA0 hval0
  simp only [List.append_nil] at hW'
  refine (walk a0 w0 W).mono fun e W' ⟨he, hg⟩ => ?_
  subst he
  exact ⟨_, rfl, _, _, _, [], _, [], hW', trodAll_mk1 (shut_bool Try.underlying4 _), (trodAll_cons_mk (shut_int Try.underlying3 w0) trodAll_mk0), rfl, hg.frame _, fun h => by cases h⟩

theorem over : Rows.calendarRow.holds Try.pinned (OpenSpec.ofChange Rows.calendarSpec) :=
  OpenClaim.holds_of_wide 4 Try.f4 rfl rfl rfl rfl rfl rfl rfl ⟨rfl, rfl, rfl, rfl, rfl⟩ rfl rfl rfl rfl rfl (by kernel_rfl) Try.func4 (by kernel_rfl)
    (of_decide_eq_true (by kernel_rfl)) (by unfold Func.isWrapper; first | (rw [if_pos (by decide +kernel)]; kernel_rfl) | (rw [if_neg (by decide +kernel)]; exact ⟨rfl, rfl⟩))
    (fun os started H enc _ => lifted os started H enc)

/-- ████ THE STATEMENT ████ -/
theorem proved : Rows.CalendarSaid :=
  over
#print axioms proved
end Go.Proofs.Ytjaffmmocbplaaa.calendar
namespace Go.Proofs.Ytjaffmmocbplaaa
theorem calendar_holds : Rows.CalendarSaid := calendar.proved
end Go.Proofs.Ytjaffmmocbplaaa
