/-
  Meters: the law's walk and its row.
-/
import Derived.Test.YtjaffmmocbplaaaRows
import Derived.Test.YtjaffmmocbplaaaRrX
import Derived.Test.YtjaffmmocbplaaaRowZ
import Derived.ProofKit
import Derived.OpenShut
import Derived.ShutString
namespace Go.Proofs.Ytjaffmmocbplaaa.meters
open Go.ChangeShapes Go.WideShapes Go.ChangeAt Go.RowKit
open Go.ChangeMaps (open_string shut_string)
set_option linter.unusedVariables false
attribute [local go_sem ↓] Go.wp_at_zero Go.wp_at_succ

theorem own : ownKnob Try.prog.godebug = none := by kernel_rfl
theorem laidOut : laidOutB Try.prog = true := by kernel_rfl

/-- what both answer, as data -/
def S0 (t : ByteArray) (n : Nat) : Int := if rErr t n = 0 then rStep t else 0
def S1 (t : ByteArray) (n : Nat) : Int := if rErr t n = 0 then rStart t else 0
def A0 (t : ByteArray) (n : Nat) : Int := if rErr t n = 0 then 0 else rAt t n
def LL (t : ByteArray) (n : Nat) : List Txt.Val := if rErr t n = 0 then rL t n else []
theorem as_data {t : ByteArray} {n : Nat} {e : Ending} {w : World} (h : RdPost t n e w) : ∃ v, e = .returned (.tuple #[.agg #[.int .i64 (S0 t n), .int .i64 (S1 t n), v], .int .i64 (rErr t n), .int .i64 (A0 t n)]) ∧ VRow w v (LL t n) := by
  rcases h with ⟨h0, v, rfl, hv⟩ | ⟨h0, rfl⟩
  · refine ⟨v, ?_, ?_⟩
    · unfold S0 S1 A0; rw [if_pos h0, if_pos h0, if_pos h0, h0]
    · unfold LL; rw [if_pos h0]; exact hv
  · refine ⟨.slice none 0 0, ?_, ?_⟩
    · unfold S0 S1 A0; rw [if_neg h0, if_neg h0, if_neg h0]
    · unfold LL; rw [if_neg h0]; exact VRow.nil w
theorem LL_len (t : ByteArray) (n : Nat) : (LL t n).length * 24 ≤ 140737488351232 := by
  unfold LL; split
  · rename_i h
    have hv : meterB (rStep t) (rStart t) (rL t n) = true := by
      cases g : meterB (rStep t) (rStart t) (rL t n)
      · exfalso; unfold rErr at h; rw [g] at h
        split at h
        · omega
        · split at h
          · omega
          · simp at h
      · rfl
    have := (meterB_all hv).2
    omega
  · simp

theorem refReadMeter_all (t : ByteArray) (n : Nat) (hn : Ends t n) (w : World) (ht : t.size ≤ maxLen) :
    Calls Try.prog 21 #[.string t] w fun e w' => RdPost t n e w' ∧ Below w.heap.size w w' := by
  by_cases h1 : 8000 < t.size
  · obtain ⟨a, b⟩ := rd_long (n := n) h1
    refine (refReadMeter_long t w h1 ht).mono ?_
    rintro e w' ⟨rfl, hb⟩
    exact ⟨.inr ⟨by omega, by rw [a, b]⟩, hb⟩
  · exact refReadMeter_short t n hn w (by omega)

set_option maxRecDepth 1000000 in
set_option maxHeartbeats 2000000 in
theorem walk (t : ByteArray) (ht : t.size ≤ maxLen) (w : World) :
    Calls Try.prog 7 #[.string t] w fun e w' => e = .returned (.bool true) ∧ Below w.heap.size w w' := by
  obtain ⟨n, hn⟩ := ends_ex t
  have rd : ∀ w, Calls Try.prog 20 #[.string t] w fun e w' => ∃ v, e = .returned (.tuple #[.agg #[.int .i64 (S0 t n), .int .i64 (S1 t n), v], .int .i64 (rErr t n), .int .i64 (A0 t n)]) ∧ VRow w' v (LL t n) ∧ Below w.heap.size w w' := fun w => (ReadMeter_all t n hn w ht).mono fun e w' ⟨h, hb⟩ => by
    obtain ⟨v, he, hv⟩ := as_data h; exact ⟨v, he, hv, hb⟩
  have rr : ∀ w, Calls Try.prog 21 #[.string t] w fun e w' => ∃ v, e = .returned (.tuple #[.agg #[.int .i64 (S0 t n), .int .i64 (S1 t n), v], .int .i64 (rErr t n), .int .i64 (A0 t n)]) ∧ VRow w' v (LL t n) ∧ Below w.heap.size w w' := fun w => (refReadMeter_all t n hn w ht).mono fun e w' ⟨h, hb⟩ => by
    obtain ⟨v, he, hv⟩ := as_data h; exact ⟨v, he, hv, hb⟩
  have hL := LL_len t n
  obtain ⟨L, hLe⟩ : ∃ L, L = LL t n := ⟨_, rfl⟩
  obtain ⟨E, hE⟩ : ∃ E, E = rErr t n := ⟨_, rfl⟩
  obtain ⟨A, hA⟩ : ∃ A, A = A0 t n := ⟨_, rfl⟩
  obtain ⟨s0, hs0⟩ : ∃ s0, s0 = S0 t n := ⟨_, rfl⟩
  obtain ⟨s1, hs1⟩ : ∃ s1, s1 = S1 t n := ⟨_, rfl⟩
  rw [← hLe, ← hE, ← hA, ← hs0, ← hs1] at rd rr
  rw [← hLe] at hL
  clear hLe hE hA hs0 hs1 hn
  have rds := fun W v (V : VRow W v L) => reads_any s0 s1 v L W V hL
  have sms := fun W v v' (V : VRow W v L) (V' : VRow W v' L) => sameMeter_any s0 s1 v v' L W V V' hL
  unfold maxLen at ht
  go_enter Try.func7, Try.ntmps7
  go_wp2_with (first
    | (go_at_call 20; refine (rd _).mono ?_; rintro e w1 ⟨v1, rfl, V1, hb1⟩; obtain ⟨a1, cap1, rfl⟩ := V1.form)
    | (go_at_call 21; refine (rr _).mono ?_; rintro e w2 ⟨v2, rfl, V2, hb2⟩; obtain ⟨a2, cap2, rfl⟩ := V2.form; obtain ⟨hc2, hf2⟩ := bcell hb2; have hz2 : w1.heap.size < w2.heap.size := (by have := hb2.size; simp at this; omega)))
  have m0 : w2.cell? ⟨w1.heap.size, 0, none⟩ = some (.int .i64 s0) := by simp [go_sem, hc2]
  have m1 : w2.cell? ⟨w1.heap.size, 1, none⟩ = some (.int .i64 s1) := by simp [go_sem, hc2]
  have m2 : w2.cell? ⟨w1.heap.size, 2, none⟩ = some (.slice a1 L.length cap1) := by simp [go_sem, hc2]
  have B2 : Below w1.heap.size w1 w2 := below_then (below_more (Below.refl _ _) _) hb2
  have V1' := V1.below B2
  have BW := below_then (below_then (Below.refl _ _) hb1) B2
  clear hc2 hf2 hb2
  obtain ⟨W, hW⟩ : ∃ W, W = w2.alloc (.cells #[.int .i64 s0, .int .i64 s1, .slice a2 L.length cap2] 55) := ⟨_, rfl⟩
  have BM : Below w2.heap.size w2 W := by rw [hW]; exact below_more (Below.refl _ _) _
  have n0 : W.cell? ⟨w2.heap.size, 0, none⟩ = some (.int .i64 s0) := by rw [hW]; simp [go_sem]
  have n1 : W.cell? ⟨w2.heap.size, 1, none⟩ = some (.int .i64 s1) := by rw [hW]; simp [go_sem]
  have n2 : W.cell? ⟨w2.heap.size, 2, none⟩ = some (.slice a2 L.length cap2) := by rw [hW]; simp [go_sem]
  have p0 : W.cell? ⟨w1.heap.size, 0, none⟩ = some (.int .i64 s0) := vcell_below BM hz2 m0
  have p1 : W.cell? ⟨w1.heap.size, 1, none⟩ = some (.int .i64 s1) := vcell_below BM hz2 m1
  have p2 : W.cell? ⟨w1.heap.size, 2, none⟩ = some (.slice a1 L.length cap1) := vcell_below BM hz2 m2
  have hzW : w2.heap.size < W.heap.size := by rw [hW]; simp
  have hzW1 : w1.heap.size < W.heap.size := by omega
  have U1 := V1'.below BM
  have U2 := V2.below BM
  have BWW := below_then BW BM
  rw [← hW]
  clear hW m0 m1 m2 V1 V1' V2
  go_region_held3 (fun w' => w'.cell? ⟨w1.heap.size, 0, none⟩ = some (.int .i64 s0) ∧ w'.cell? ⟨w1.heap.size, 1, none⟩ = some (.int .i64 s1) ∧ w'.cell? ⟨w1.heap.size, 2, none⟩ = some (.slice a1 L.length cap1) ∧ w'.cell? ⟨w2.heap.size, 0, none⟩ = some (.int .i64 s0) ∧ w'.cell? ⟨w2.heap.size, 1, none⟩ = some (.int .i64 s1) ∧ w'.cell? ⟨w2.heap.size, 2, none⟩ = some (.slice a2 L.length cap2))
    (first | (simp [go_sem, n0, n1, n2, p0, p1, p2]; done) | (simp [hc4, hc3, hzW, hzW1, hy3, hx3, n0, n1, n2, p0, p1, p2]; done) | (simp [hc3, hzW, hzW1, n0, n1, n2, p0, p1, p2]; done))
    (first
      | ((go_at_call 23; refine (rds _ _ (U1.below (Below.drew (Below.refl _ _)))).mono ?_; rintro e w3 ⟨v3, rfl, V3, hb3'⟩; have hb3 : Below W.heap.size W w3 := below_then (Below.drew (Below.refl _ _)) hb3'; clear hb3'; obtain ⟨a3, cap3, rfl⟩ := V3.form; obtain ⟨hc3, hf3⟩ := bcell hb3; have hy3 : w1.heap.size < w3.heap.size := (by have := hb3.size; omega); have hx3 : w2.heap.size < w3.heap.size := (by have := hb3.size; omega)))
      | ((go_at_call 22; refine (sms _ _ _ V3 (U2.below hb3)).mono ?_; rintro e w4 ⟨rfl, hb4⟩; obtain ⟨hc4, hf4⟩ := bcell hb4))
      | ((go_at_call 15; refine (num_any _ _).mono ?_; rintro e w5 ⟨rfl, rfl⟩)))
  all_goals
    go_wp2_with fail
    go_ret
    exact ⟨rfl, below_then (below_then BWW hb3) hb4⟩

/-! ### THE ROW's STEP -/
set_option maxRecDepth 100000 in
theorem lifted (os : Os) (started : os.Started) (H : Type) (enc : TypeId × Value → H) :
    ReturnsInHanded {} Try.checked os 7 .any (Rows.metersSpec.pre6 enc Try.prog Try.f7 Rows.metersRow.domain false) (Rows.metersSpec.post enc Try.prog Try.f7 false true false false) := by
  refine returnsInHanded_of_change (C := Try.checked) own started (by kernel_rfl) Try.func7
    (ChangeSpec.witness6 (enc := enc) (C := Try.checked) false ⟨#[], #[.string ByteArray.empty], []⟩ 8 (by kernel_rfl) (by kernel_rfl) (by kernel_rfl) (by kernel_rfl)) ?_
  intro W base args ds gs before hval0 hW hcnd _
  have hval : ∀ (j : Nat) t v, Try.f7.params[j]? = some t → args[j]? = some v → Value.okWide Try.prog W .any base t v := hval0
  have hW' := hW
  obtain ⟨p, q, hA0, hV, rfl, hfz, hnd⟩ := hW
  have hA : DataW.TrodAll enc Try.prog W 0 (fun _ => true) true Try.f7.params.toList args.toList ds p := hA0
  rw [Try.params7] at hA hval
  obtain ⟨v0, vs0, d0, ds0, p0, q0, hargs, rfl, rfl, h0, r0⟩ := trodAll_cons hA
  obtain ⟨rfl, rfl, rfl⟩ := trodAll_nil r0
  obtain rfl : args = #[v0] := by cases args; simp_all
  obtain ⟨rfl, rfl⟩ := trodVars_none hV
  obtain ⟨s, rfl, rfl, rfl, hs⟩ := open_string Try.underlying9 (hval 0 9 v0 rfl rfl) h0
  clear hA0 hval0
  refine (walk s hs W).mono fun e W' ⟨he, bel⟩ => ?_
  subst he
  exact ⟨_, rfl, _, _, _, [], _, [], hW', trodAll_mk1 (shut_bool Try.underlying4 _), (trodAll_cons_mk (shut_string Try.underlying9 hs) trodAll_mk0), rfl, bel.frame _, fun h => by cases h⟩

theorem over : Rows.metersRow.holds Try.pinned (OpenSpec.ofChange Rows.metersSpec) :=
  OpenClaim.holds_of_wide 7 Try.f7 rfl rfl rfl rfl rfl rfl rfl ⟨rfl, rfl, rfl, rfl, rfl⟩ rfl rfl rfl rfl rfl (by kernel_rfl) Try.func7 (by kernel_rfl)
    (of_decide_eq_true (by kernel_rfl)) (by unfold Func.isWrapper; first | (rw [if_pos (by decide +kernel)]; kernel_rfl) | (rw [if_neg (by decide +kernel)]; exact ⟨rfl, rfl⟩))
    (fun os started H enc _ => lifted os started H enc)

theorem proved : Rows.MetersSaid := over
#print axioms proved
end Go.Proofs.Ytjaffmmocbplaaa.meters
namespace Go.Proofs.Ytjaffmmocbplaaa
theorem meters_holds : Rows.MetersSaid := meters.proved
end Go.Proofs.Ytjaffmmocbplaaa
