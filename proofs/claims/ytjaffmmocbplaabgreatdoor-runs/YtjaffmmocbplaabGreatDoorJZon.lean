/-
  The clock, as plain mathematics: rules, zones, the moments of summer time. Nothing of the program is imported here.
-/
import Derived.Test.YtjaffmmocbplaabGreatDoorJ01
namespace Go.Proofs.YtjaffmmocbplaabGreatDoor.Zon
set_option linter.unusedVariables false

structure Rul where
  m : Int
  w : Int
  d : Int
  h : Int
structure Zn where
  off : Int
  f : Rul
  t : Rul

def ruleB (r : Rul) : Bool := inB r.m 1 12 && inB r.w 1 5 && inB r.d 0 6 && inB r.h 0 23
def noneB (r : Rul) : Bool := decide (r.m = 0) && decide (r.w = 0) && decide (r.d = 0) && decide (r.h = 0)
def zoneB (z : Zn) : Bool := inB z.off (-720) 720 && ((noneB z.f && noneB z.t) || (ruleB z.f && ruleB z.t && decide (z.f.m ≠ z.t.m)))

theorem ruleB_iff {r : Rul} : ruleB r = true ↔ (1 ≤ r.m ∧ r.m ≤ 12) ∧ (1 ≤ r.w ∧ r.w ≤ 5) ∧ (0 ≤ r.d ∧ r.d ≤ 6) ∧ (0 ≤ r.h ∧ r.h ≤ 23) := by
  simp [ruleB, inB_iff, and_assoc]
theorem noneB_iff {r : Rul} : noneB r = true ↔ r.m = 0 ∧ r.w = 0 ∧ r.d = 0 ∧ r.h = 0 := by simp [noneB, and_assoc]

/-- a weekday -/
def wd (n : Int) : Int := (n + 6) % 7
/-- how many days behind the first of a month the first such weekday lies -/
def r0 (first d : Int) : Int := (d - wd first + 7) % 7
/-- the day of a rule, counted from the first of its month: as the program reckons it -/
def dm (first d w len : Int) : Int := if len < 1 + r0 first d + (w - 1) * 7 then 1 + r0 first d + (w - 1) * 7 - 7 else 1 + r0 first d + (w - 1) * 7
/-- the moment of a rule in a year -/
def mom (r : Rul) (y : Int) : Int := (Cal.ys y + Cal.cum y r.m + dm (Cal.ys y + Cal.cum y r.m) r.d r.w (Cal.md y r.m) - 1) * 1440 + r.h * 60
/-- summer time on at a minute of standard time -/
def sumB (z : Zn) (s : Int) : Bool :=
  if noneB z.f && noneB z.t then false
  else if z.f.m < z.t.m then decide (mom z.f (Cal.yr (s / 1440)) ≤ s) && decide (s < mom z.t (Cal.yr (s / 1440)))
  else decide (s < mom z.t (Cal.yr (s / 1440))) || decide (mom z.f (Cal.yr (s / 1440)) ≤ s)
/-- what the clock shows there -/
def there (z : Zn) (n : Int) : Int := if sumB z (n + z.off) then n + z.off + 60 else n + z.off
def clockB (z : Zn) (n : Int) : Bool := zoneB z && inB n 0 52595999 && inB (n + z.off) 0 52595999 && decide (there z n ≤ 52595999)

theorem r0_bd (first d : Int) : 0 ≤ r0 first d ∧ r0 first d ≤ 6 := by unfold r0; omega
theorem dm_bd (first d w len : Int) (h1 : 1 ≤ w) (h2 : w ≤ 5) (h3 : 28 ≤ len) : 1 ≤ dm first d w len ∧ dm first d w len ≤ 35 := by
  have := r0_bd first d; unfold dm; split <;> omega

/-- the document's way: the days of the month one by one; how many such weekdays have been met ahead of day k, and where it stands then -/
def cnt (r k : Int) : Int := (k + 6 - r) / 7
def pos (first r w k : Int) : Int := if cnt r k = 0 then first else first + r + 7 * ((if cnt r k ≤ w then cnt r k else w) - 1)
theorem hit_iff (first d k : Int) (h0 : 0 ≤ first) (hd : 0 ≤ d) (hd' : d ≤ 6) (hk : 0 ≤ k) : wd (first + k) = d ↔ (k - r0 first d) % 7 = 0 := by
  unfold r0 wd; omega
theorem cnt_zero (r : Int) (h : 0 ≤ r) (h' : r ≤ 6) : cnt r 0 = 0 := by unfold cnt; omega
theorem cnt_bd (r k : Int) (h : 0 ≤ r) (h' : r ≤ 6) (hk : 0 ≤ k) (hk' : k ≤ 31) : 0 ≤ cnt r k ∧ cnt r k ≤ 5 := by unfold cnt; omega
theorem cnt_hit (r k : Int) (h : 0 ≤ r) (h' : r ≤ 6) (hk : 0 ≤ k) (g : (k - r) % 7 = 0) : cnt r (k + 1) = cnt r k + 1 := by unfold cnt; omega
theorem cnt_miss (r k : Int) (h : 0 ≤ r) (h' : r ≤ 6) (hk : 0 ≤ k) (g : ¬ (k - r) % 7 = 0) : cnt r (k + 1) = cnt r k := by unfold cnt; omega
theorem pos_zero (first r w : Int) (h : 0 ≤ r) (h' : r ≤ 6) : pos first r w 0 = first := by unfold pos; rw [if_pos (cnt_zero r h h')]
theorem pos_hit (first r w k : Int) (h : 0 ≤ r) (h' : r ≤ 6) (hk : 0 ≤ k) (g : (k - r) % 7 = 0) (hw : cnt r k + 1 ≤ w) : pos first r w (k + 1) = first + k := by
  have e := cnt_hit r k h h' hk g
  have c0 : 0 ≤ cnt r k := by unfold cnt; omega
  have c1 : k = r + 7 * cnt r k := by unfold cnt; omega
  unfold pos; rw [e, if_neg (by omega), if_pos hw]; omega
theorem pos_over (first r w k : Int) (h : 0 ≤ r) (h' : r ≤ 6) (hk : 0 ≤ k) (g : (k - r) % 7 = 0) (h1 : 1 ≤ w) (hw : ¬ cnt r k + 1 ≤ w) : pos first r w (k + 1) = pos first r w k := by
  have e := cnt_hit r k h h' hk g
  have c0 : 0 ≤ cnt r k := by unfold cnt; omega
  unfold pos; rw [e, if_neg (by omega), if_neg (by omega)]; (repeat' split) <;> omega
theorem pos_miss (first r w k : Int) (h : 0 ≤ r) (h' : r ≤ 6) (hk : 0 ≤ k) (g : ¬ (k - r) % 7 = 0) : pos first r w (k + 1) = pos first r w k := by
  have e := cnt_miss r k h h' hk g
  unfold pos; rw [e]
theorem pos_end (first d w len : Int) (h1 : 1 ≤ w) (h2 : w ≤ 5) (h3 : 28 ≤ len) (h4 : len ≤ 31) : pos first (r0 first d) w len = first + dm first d w len - 1 := by
  have := r0_bd first d
  unfold pos dm cnt
  have c : (len + 6 - r0 first d) / 7 = 4 ∨ (len + 6 - r0 first d) / 7 = 5 := by omega
  rw [if_neg (by omega)]
  rcases c with c | c <;> rw [c] <;> (repeat' split) <;> omega
theorem pos_bd (first r w k : Int) (h : 0 ≤ r) (h' : r ≤ 6) (hk : 0 ≤ k) (hk' : k ≤ 31) (h1 : 1 ≤ w) (h2 : w ≤ 5) : first ≤ pos first r w k ∧ pos first r w k ≤ first + 34 := by
  have := cnt_bd r k h h' hk hk'
  unfold pos; (repeat' split) <;> omega

theorem mom_bd (r : Rul) (y : Int) (hr : ruleB r = true) (h1 : 2000 ≤ y) (h2 : y ≤ 2099) : 0 ≤ mom r y ∧ mom r y ≤ 60000000 := by
  obtain ⟨⟨a, b⟩, ⟨c, d⟩, _, ⟨e, f⟩⟩ := ruleB_iff.mp hr
  have := Cal.ys_bd y h1 (by omega); have := Cal.cum_bd y r.m a (by omega); have := Cal.md_bd y r.m
  have := dm_bd (Cal.ys y + Cal.cum y r.m) r.d r.w (Cal.md y r.m) c d (by omega)
  unfold mom; omega
theorem zone_cases {z : Zn} (h : zoneB z = true) : (-720 ≤ z.off ∧ z.off ≤ 720) ∧ ((noneB z.f = true ∧ noneB z.t = true) ∨ ((noneB z.f && noneB z.t) = false ∧ noneB z.f = false ∧ ruleB z.f = true ∧ ruleB z.t = true ∧ z.f.m ≠ z.t.m)) := by
  simp only [zoneB, Bool.and_eq_true, Bool.or_eq_true, decide_eq_true_eq, inB_iff] at h
  refine ⟨h.1, ?_⟩
  rcases h.2 with g | g
  · exact .inl g
  · have a := ruleB_iff.mp g.1.1
    have b : noneB z.f = false := by
      cases hb : noneB z.f with
      | false => rfl
      | true => have := noneB_iff.mp hb; omega
    exact .inr ⟨by simp [b], b, g.1.1, g.1.2, g.2⟩
end Go.Proofs.YtjaffmmocbplaabGreatDoor.Zon
