/-
  ReadMeter: the document's.
-/
import Derived.Test.YtjaffmmocbplaabGreatDoorJ08
import Derived.Test.YtjaffmmocbplaabGreatDoorJRdX
import Derived.Deep.RegionHeld3
import Derived.Deep.DrawnRows
namespace Go.Proofs.YtjaffmmocbplaabGreatDoor
open Go.RowKit
set_option linter.unusedVariables false
attribute [local go_sem ↓] Go.wp_at_zero Go.wp_at_succ

/-- what ReadMeter answers, n values read -/
def RdPost (t : ByteArray) (n : Nat) (e : Ending) (w' : World) : Prop :=
  (rErr t n = 0 ∧ ∃ v, e = .returned (.tuple #[.agg #[.int .i64 (rStep t), .int .i64 (rStart t), v], .int .i64 0, .int .i64 0]) ∧ VRow w' v (rL t n)) ∨
  (¬ rErr t n = 0 ∧ e = .returned (.tuple #[.agg #[.int .i64 0, .int .i64 0, .slice none 0 0], .int .i64 (rErr t n), .int .i64 (rAt t n)]))

theorem rd_long {t : ByteArray} {n : Nat} (h : 8000 < t.size) : rErr t n = 1 ∧ rAt t n = 0 := by simp [rErr, rAt, h]
theorem rd_bad {t : ByteArray} {n : Nat} (h : t.size ≤ 8000) (hb : (tailS t (rdS t n)).2.2.bad = true) : rErr t n = 2 ∧ rAt t n = (tailS t (rdS t n)).2.2.pos := by
  have : ¬ 8000 < t.size := by omega
  simp [rErr, rAt, this, hb]
theorem rd_range {t : ByteArray} {n : Nat} (h : t.size ≤ 8000) (hb : (tailS t (rdS t n)).2.2.bad = false) (hv : meterB (rStep t) (rStart t) (rL t n) = false) : rErr t n = 3 ∧ rAt t n = 0 := by
  have : ¬ 8000 < t.size := by omega
  simp [rErr, rAt, this, hb, hv]
theorem rd_sum {t : ByteArray} {n : Nat} (h : t.size ≤ 8000) (hb : (tailS t (rdS t n)).2.2.bad = false) (hv : meterB (rStep t) (rStart t) (rL t n) = true) (hc : ¬ ((tailS t (rdS t n)).1 = (n : Int) ∧ (tailS t (rdS t n)).2.1 = sumL (rL t n))) : rErr t n = 4 ∧ rAt t n = (rdS t n).pos := by
  have : ¬ 8000 < t.size := by omega
  simp only [rErr, rAt, this, hb, hv, if_false, Bool.false_eq_true, Bool.true_eq_false, hc]
  exact ⟨trivial, trivial⟩
theorem rd_ok {t : ByteArray} {n : Nat} (h : t.size ≤ 8000) (hb : (tailS t (rdS t n)).2.2.bad = false) (hv : meterB (rStep t) (rStart t) (rL t n) = true) (hc : (tailS t (rdS t n)).1 = (n : Int)) (hs : (tailS t (rdS t n)).2.1 = sumL (rL t n)) : rErr t n = 0 := by
  have : ¬ 8000 < t.size := by omega
  simp [rErr, this, hb, hv, hc, hs]

theorem ReadMeter_all (t : ByteArray) (n : Nat) (hn : Ends t n) (w : World) (ht : t.size ≤ maxLen) :
    Calls Tryz.prog 7 #[.string t] w fun e w' => RdPost t n e w' ∧ Below w.heap.size w w' := by
  by_cases h1 : 8000 < t.size
  · obtain ⟨a, b⟩ := rd_long (n := n) h1
    refine (ReadMeter_long t w h1 ht).mono ?_
    rintro e w' ⟨rfl, hb⟩
    exact ⟨.inr ⟨by omega, by rw [a, b]⟩, hb⟩
  · have h1' : t.size ≤ 8000 := by omega
    cases hbad : (tailS t (rdS t n)).2.2.bad
    case true =>
      obtain ⟨a, b⟩ := rd_bad (n := n) h1' hbad
      refine (ReadMeter_bad t n hn w h1' hbad).mono ?_
      rintro e w' ⟨rfl, hb⟩
      exact ⟨.inr ⟨by omega, by rw [a, b]⟩, hb⟩
    case false =>
      cases hv : meterB (rStep t) (rStart t) (rL t n)
      case false =>
        obtain ⟨a, b⟩ := rd_range (n := n) h1' hbad hv
        refine (ReadMeter_range t n hn w h1' hbad hv).mono ?_
        rintro e w' ⟨rfl, hb⟩
        exact ⟨.inr ⟨by omega, by rw [a, b]⟩, hb⟩
      case true =>
        by_cases hc : (tailS t (rdS t n)).1 = (n : Int)
        · by_cases hs : (tailS t (rdS t n)).2.1 = sumL (rL t n)
          · refine (ReadMeter_ok t n hn w h1' hbad hv hc hs).mono ?_
            rintro e w' ⟨v, rfl, hr, hb⟩
            exact ⟨.inl ⟨rd_ok h1' hbad hv hc hs, v, rfl, hr⟩, hb⟩
          · obtain ⟨a, b⟩ := rd_sum (n := n) h1' hbad hv (fun q => hs q.2)
            refine (ReadMeter_sum t n hn w h1' hbad hv hc hs).mono ?_
            rintro e w' ⟨rfl, hb⟩
            exact ⟨.inr ⟨by omega, by rw [a, b]⟩, hb⟩
        · obtain ⟨a, b⟩ := rd_sum (n := n) h1' hbad hv (fun q => hc q.1)
          refine (ReadMeter_count t n hn w h1' hbad hv hc).mono ?_
          rintro e w' ⟨rfl, hb⟩
          exact ⟨.inr ⟨by omega, by rw [a, b]⟩, hb⟩

set_option maxHeartbeats 1000000 in
theorem refReadMeter_long (t : ByteArray) (w : World) (ht : 8000 < t.size) (ht' : t.size ≤ maxLen) :
    Calls Tryz.prog 11 #[.string t] w fun e w' => e = .returned (.tuple #[.agg #[.int .i64 0, .int .i64 0, .slice none 0 0], .int .i64 1, .int .i64 0]) ∧ Below w.heap.size w w' := by
  unfold maxLen at ht'
  have h1 : (8000 : Int) < (t.size : Int) := by omega
  go_enter Tryz.func11, Tryz.ntmps11
  go_wp2_with fail
  refine bodyPost_ret (v := .tuple #[.agg #[.int .i64 0, .int .i64 0, .slice none 0 0], .int .i64 1, .int .i64 0]) (by simp [results, Tryz.results11, go_sem]) rfl ⟨rfl, ?_⟩
  repeat (first | exact Below.refl _ _ | refine Below.setCell ?_ (by simp) _ | refine below_more ?_ _)

/-- how far the pen is from the end: for a loop's measure -/
def leftP (n b : Nat) (w : World) : Nat :=
  match w.cell? ⟨b, 2, none⟩ with
  | some (.int _ d) => if d < 0 then (match w.cell? ⟨b, 1, none⟩ with
    | some (.int _ p) => n + 1 - p.toNat
    | _ => 0) else 0
  | _ => 0
theorem leftP_at {w : World} {b : Nat} {t : ByteArray} {s : Txt.Sc} (h : PenAt w b t s) : leftP t.size b w = if s.bad then 0 else t.size + 1 - s.pos := by
  unfold leftP; rw [h.c2, h.c1]; cases hb : s.bad <;> simp [badI, hb]
  omega

end Go.Proofs.YtjaffmmocbplaabGreatDoor
