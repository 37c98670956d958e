/-
  The program's with (made by tools/genper.py).
-/
import Derived.Test.YtjaffmmocbplaaaDoorPerW
namespace Go.Proofs.YtjaffmmocbplaaaDoor
open Go.RowKit
set_option linter.unusedVariables false
attribute [local go_sem ↓] Go.wp_at_zero Go.wp_at_succ

set_option maxRecDepth 1000000 in
set_option maxHeartbeats 2000000 in
theorem with_any (p : Per) (v : Txt.Val) (c step : Int) (w : World) (k : Nat) (hk : k ≤ 1000) (hp : okP p k) (hi : 0 ≤ v.i ∧ v.i ≤ 999999999) (ho : 0 ≤ v.o ∧ v.o ≤ 999999999) (hc : c = 0 ∨ c = 1 ∨ c = 2) (hs : step = 15 ∨ step = 30 ∨ step = 60) :
    Calls Tryd.prog 90 #[.agg #[.int .i64 p.i0, .int .i64 p.i1, .int .i64 p.i2, .int .i64 p.o, .int .i64 p.pk], .agg #[.int .i64 v.i, .int .i64 v.o, .bool v.m], .int .i64 c, .int .i64 step] w fun e w' => e = .returned (.agg #[.int .i64 (addV p v c step).i0, .int .i64 (addV p v c step).i1, .int .i64 (addV p v c step).i2, .int .i64 (addV p v c step).o, .int .i64 (addV p v c step).pk]) ∧ Below w.heap.size w w' := by
  have hpw := pw_bd hi hs
  have hs0 : ¬ step = 0 := by omega
  have ht : (60 * v.i).tdiv step = pw v step := Int.tdiv_eq_ediv_of_nonneg (by omega)
  have HP : Hid (addV p v c step = ⟨if c = 0 then p.i0 + v.i else p.i0, if c = 1 then p.i1 + v.i else p.i1, if c = 2 then p.i2 + v.i else p.i2, p.o + v.o, if p.pk < pw v step then pw v step else p.pk⟩) := rfl
  obtain ⟨P, hP⟩ : ∃ P, P = pw v step := ⟨_, rfl⟩
  obtain ⟨Q, hQ⟩ : ∃ Q, Q = addV p v c step := ⟨_, rfl⟩
  rw [← hP] at hpw ht HP
  rw [← hQ] at HP ⊢
  simp only [okP] at hp
  obtain ⟨⟨p1, p2⟩, ⟨p3, p4⟩, ⟨p5, p6⟩, ⟨p7, p8⟩, p9, p10⟩ := hp
  clear hP hQ hs
  rcases hc with rfl | rfl | rfl
  all_goals
    by_cases hm : p.pk < P
    all_goals
      go_enter Tryd.func90, Tryd.ntmps90
      go_wp2_with fail
      go_region
      all_goals
        go_wp2_with fail
        refine bodyPost_ret (v := .agg #[.int .i64 Q.i0, .int .i64 Q.i1, .int .i64 Q.i2, .int .i64 Q.o, .int .i64 Q.pk]) (by rw [HP.out]; simp [results, Tryd.results90, go_sem, hm] <;> omega) rfl ⟨rfl, ?_⟩
        repeat (first | exact Below.refl _ _ | refine Below.setCell ?_ (by first | omega | (simp; done) | (simp; omega)) _ | refine Below.drew ?_ | refine below_drewN ?_ _ | refine below_more ?_ _)

end Go.Proofs.YtjaffmmocbplaaaDoor
