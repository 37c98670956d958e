/-
  RowW, Zon in one text.
-/
import Derived.Test.YtjaffmmocbplaabDoorJ05
import Derived.Test.YtjaffmmocbplaabDoorCal
namespace Go.Proofs.YtjaffmmocbplaabDoor
open Go.RowKit
set_option linter.unusedVariables false

/-- a slice of values reads as the list l -/
def VRow (w : World) (v : Value) (l : List Txt.Val) : Prop :=
  ∃ a cap, v = .slice a l.length cap ∧ (l = [] ∨ ∃ b off, a = some ⟨b, off, none⟩ ∧ l.length ≤ cap ∧
    ∀ i x, l[i]? = some x → w.cell? ⟨b, off + i * 3, none⟩ = some (.int .i64 x.i) ∧ w.cell? ⟨b, off + i * 3 + 1, none⟩ = some (.int .i64 x.o) ∧ w.cell? ⟨b, off + i * 3 + 2, none⟩ = some (.bool x.m))
theorem vcell_below {B : Nat} {w w' : World} (h : Below B w w') {b o : Nat} (hb : b < B) {v : Value} (e : w.cell? ⟨b, o, none⟩ = some v) : w'.cell? ⟨b, o, none⟩ = some v := (h.cell (p := ⟨b, o, none⟩) hb).trans e
theorem VRow.below {w w' : World} {v : Value} {l : List Txt.Val} (h : VRow w v l) (hb : Below w.heap.size w w') : VRow w' v l := by
  obtain ⟨a, cap, hv, h⟩ := h
  refine ⟨a, cap, hv, ?_⟩
  rcases h with h | ⟨b, off, ha, hc, h⟩
  · exact .inl h
  · refine .inr ⟨b, off, ha, hc, fun i x hx => ?_⟩
    obtain ⟨h1, h2, h3⟩ := h i x hx
    have hlt : b < w.heap.size := World.block_lt_of_cell? w ⟨b, off + i * 3, none⟩ h1
    exact ⟨vcell_below hb hlt h1, vcell_below hb hlt h2, vcell_below hb hlt h3⟩
theorem VRow.at {w : World} {a : Option Addr} {n cap : Nat} {l : List Txt.Val} (h : VRow w (.slice a n cap) l) {k : Nat} {x : Txt.Val} (hx : l[k]? = some x) :
    ∃ b off, a = some ⟨b, off, none⟩ ∧ n ≤ cap ∧ b < w.heap.size ∧ w.cell? ⟨b, off + k * 3, none⟩ = some (.int .i64 x.i) ∧ w.cell? ⟨b, off + k * 3 + 1, none⟩ = some (.int .i64 x.o) ∧ w.cell? ⟨b, off + k * 3 + 2, none⟩ = some (.bool x.m) := by
  obtain ⟨a', cap', hv, h⟩ := h
  cases hv
  rcases h with rfl | ⟨b, off, rfl, hc, h⟩
  · simp at hx
  · obtain ⟨h1, h2, h3⟩ := h k x hx
    exact ⟨b, off, rfl, hc, World.block_lt_of_cell? w ⟨b, off + k * 3, none⟩ h1, h1, h2, h3⟩
theorem VRow.len {w : World} {a : Option Addr} {n cap : Nat} {l : List Txt.Val} (h : VRow w (.slice a n cap) l) : n = l.length := by
  obtain ⟨a', cap', hv, h⟩ := h; cases hv; rfl
theorem VRow.form {w : World} {v : Value} {l : List Txt.Val} (h : VRow w v l) : ∃ a cap, v = .slice a l.length cap := by
  obtain ⟨a', cap', hv, h⟩ := h; exact ⟨a', cap', hv⟩
theorem VRow.nil (w : World) : VRow w (.slice none 0 0) [] := ⟨none, 0, rfl, .inl rfl⟩
theorem vcs_get (l : List Txt.Val) : ∀ i x, l[i]? = some x → (vcs l)[i * 3]? = some (.int .i64 x.i) ∧ (vcs l)[i * 3 + 1]? = some (.int .i64 x.o) ∧ (vcs l)[i * 3 + 2]? = some (.bool x.m) := by
  induction l with
  | nil => intro i x h; simp at h
  | cons y l ih =>
    intro i x h
    have e : vcs (y :: l) = .int .i64 y.i :: .int .i64 y.o :: .bool y.m :: vcs l := rfl
    rw [e]
    cases i with
    | zero => simp at h; subst h; simp
    | succ i =>
      simp at h
      obtain ⟨h1, h2, h3⟩ := ih i x h
      have e1 : (i + 1) * 3 = i * 3 + 1 + 1 + 1 := by omega
      have e2 : (i + 1) * 3 + 1 = i * 3 + 1 + 1 + 1 + 1 := by omega
      have e3 : (i + 1) * 3 + 2 = i * 3 + 2 + 1 + 1 + 1 := by omega
      rw [e1]
      refine ⟨by simpa using h1, ?_, ?_⟩
      · rw [show i * 3 + 1 + 1 + 1 + 1 = (i * 3 + 1) + 1 + 1 + 1 by omega]; simpa using h2
      · rw [show i * 3 + 1 + 1 + 1 + 2 = (i * 3 + 2) + 1 + 1 + 1 by omega]; simpa using h3
theorem VRow.of_own {w : World} {base : Nat} {e : TypeId} {v : Value} {n : Nat} {l : List Txt.Val} (h : w.ownsRow base e 3 v n (vcs l)) (hn : l.length = n) : VRow w v l := by
  by_cases h0 : n = 0
  · obtain ⟨a, cap, rfl⟩ := own_slice h
    subst h0
    have : l = [] := List.eq_nil_of_length_eq_zero hn
    subst this
    exact ⟨a, cap, rfl, .inl rfl⟩
  · obtain ⟨g, cap, rfl, hb, hlt⟩ := h.form (by omega)
    have hcap : n ≤ cap := by
      rcases h.2 with ⟨h1, _⟩ | ⟨g', cap', cur, hv, _, _, hc, _⟩
      · cases h1
      · cases hv; exact hc
    subst hn
    refine ⟨some ⟨g, 0, none⟩, cap, rfl, .inr ⟨g, 0, rfl, hcap, fun i x hx => ?_⟩⟩
    have hi : i < l.length := by
      rcases Nat.lt_or_ge i l.length with q | q
      · exact q
      · rw [List.getElem?_eq_none q] at hx; cases hx
    obtain ⟨h1, h2, h3⟩ := vcs_get l i x hx
    simp only [Nat.zero_add]
    exact ⟨by rw [h.cellAt _ (by omega)]; exact h1, by rw [h.cellAt _ (by omega)]; exact h2, by rw [h.cellAt _ (by omega)]; exact h3⟩

/-! what is asked of values -/
def valB (x : Txt.Val) : Bool := if x.m then decide (x.i = 0) && decide (x.o = 0) else inB x.i 0 999999999 && inB x.o 0 999999999
def meterB (step start : Int) (l : List Txt.Val) : Bool :=
  (decide (step = 15) || decide (step = 30) || decide (step = 60)) && inB l.length 1 200 && inB start 0 (52596000 - step * l.length) && decide (start % step = 0) && l.all valB
def sumL (l : List Txt.Val) : Int := l.foldl (fun s x => (s + x.i + x.o) % 10000) 0
theorem sumL_snoc (l : List Txt.Val) (x : Txt.Val) : sumL (l ++ [x]) = (sumL l + x.i + x.o) % 10000 := by simp [sumL]
theorem sumL_bd (l : List Txt.Val) : 0 ≤ sumL l ∧ sumL l < 10000 := by
  suffices h : ∀ (l : List Txt.Val) (s : Int), 0 ≤ s ∧ s < 10000 → 0 ≤ l.foldl (fun s x => (s + x.i + x.o) % 10000) s ∧ l.foldl (fun s x => (s + x.i + x.o) % 10000) s < 10000 from h l 0 (by omega)
  intro l
  induction l with
  | nil => intro s h; exact h
  | cons x l ih => intro s h; exact ih _ (by show 0 ≤ (s + x.i + x.o) % 10000 ∧ (s + x.i + x.o) % 10000 < 10000; omega)
theorem valB_bd {x : Txt.Val} (h : valB x = true) : (0 ≤ x.i ∧ x.i ≤ 999999999) ∧ (0 ≤ x.o ∧ x.o ≤ 999999999) := by
  unfold valB at h
  split at h
  · simp at h; omega
  · simp [inB_iff] at h; exact h
theorem all_take_succ {l : List Txt.Val} {k : Nat} {x : Txt.Val} (hx : l[k]? = some x) : (l.take (k + 1)).all valB = ((l.take k).all valB && valB x) := by
  rw [List.take_add_one, hx]; simp
theorem all_of_false {l : List Txt.Val} {k : Nat} {x : Txt.Val} (hx : l[k]? = some x) (h : valB x = false) : l.all valB = false := by
  rw [List.all_eq_false]
  exact ⟨x, List.mem_of_getElem? hx, by simp [h]⟩

set_option maxHeartbeats 400000 in
theorem validValue_any (x : Txt.Val) (w : World) :
    Calls Tryd.prog 52 #[.agg #[.int .i64 x.i, .int .i64 x.o, .bool x.m]] w fun e w' => e = .returned (.bool (valB x)) ∧ Below w.heap.size w w' := by
  cases hm : x.m
  case true =>
    by_cases hi : x.i = 0
    · have hiB : (x.i == 0) = true := by simpa using hi
      go_enter Tryd.func52, Tryd.ntmps52
      go_wp2_with fail
      go_ret
      exact ⟨ret_bool (by simp [valB, hm, hi] <;> rfl), below_more (Below.refl _ _) _⟩
    · have hiB : (x.i == 0) = false := by simpa using hi
      go_enter Tryd.func52, Tryd.ntmps52
      go_wp2_with fail
      go_ret
      exact ⟨ret_bool (by simp [valB, hm, hi]), below_more (Below.refl _ _) _⟩
  case false =>
    cases hi : inB x.i 0 999999999
    all_goals
      go_enter Tryd.func52, Tryd.ntmps52
      go_wp2_with (go_at_call 45; refine (within_any _ _ _ _).mono ?_; rintro e w' ⟨rfl, rfl⟩)
      go_ret
      exact ⟨ret_bool (by simp [valB, hm, hi]), below_more (Below.refl _ _) _⟩

set_option maxHeartbeats 1000000 in
theorem checkSum_any (v : Value) (l : List Txt.Val) (w : World) (h : VRow w v l) (hv : l.all valB = true) (hl : l.length ≤ 100000) :
    Calls Tryd.prog 29 #[v] w fun e w' => e = .returned (.int .i64 (sumL l)) ∧ ∃ n, w' = w.drewN n := by
  obtain ⟨a, cap, rfl⟩ := h.form
  go_enter Tryd.func29, Tryd.ntmps29
  go_wp2_with fail
  go_loopw [3, 4] (fun s i wr => ∃ k n : Nat, i = .int .i64 k ∧ k ≤ l.length ∧ s = .int .i64 (sumL (l.take k)) ∧ wr = w.drewN n) (fun _ i _ => l.length - (intOf i).toNat)
  case atStart => exact ⟨0, 0, rfl, by omega, rfl, rfl⟩
  case round =>
    obtain ⟨k, n, rfl, hk, rfl, rfl⟩ := hrel
    have sb := sumL_bd (l.take k)
    by_cases hlt : k < l.length
    · have hlt' : (k : Int) < (l.length : Int) := by omega
      have hk0 : (0 : Int) ≤ (k : Int) := by omega
      obtain ⟨x, hx⟩ : ∃ x, l[k]? = some x := ⟨l[k], List.getElem?_eq_getElem hlt⟩
      obtain ⟨b, off, rfl, hcap, hblt, c0, c1, c2⟩ := h.at hx
      have hcap' : (l.length : Int) ≤ (cap : Int) := by omega
      have vb := valB_bd (List.all_eq_true.mp hv x (List.mem_of_getElem? hx))
      have HS : Hid (sumL (l.take (k + 1)) = (sumL (l.take k) + x.i + x.o) % 10000) := by show _ = _; rw [List.take_add_one, hx]; exact sumL_snoc _ _
      clear hx h hv
      go_wp2_with fail
      go_quiet (fail)
      go_wp2_with fail
      go_roundw
      case rel => exact ⟨k + 1, _, by go_num, by omega, by rw [HS.out], rfl⟩
      case measure => simp [intOf]; omega
    · have hlt' : ¬ (k : Int) < (l.length : Int) := by omega
      go_wp2_with fail
      go_ret
      exact ⟨ret_int (by rw [List.take_of_length_le (by omega)]), _, rfl⟩

end Go.Proofs.YtjaffmmocbplaabDoor

namespace Go.Proofs.YtjaffmmocbplaabDoor.Zon
set_option linter.unusedVariables false

structure Rul where
  m : Int
  w : Int
  d : Int
  h : Int
structure Zn where
  off : Int
  f : Rul
  t : Rul

def ruleB (r : Rul) : Bool := inB r.m 1 12 && inB r.w 1 5 && inB r.d 0 6 && inB r.h 0 23
def noneB (r : Rul) : Bool := decide (r.m = 0) && decide (r.w = 0) && decide (r.d = 0) && decide (r.h = 0)
def zoneB (z : Zn) : Bool := inB z.off (-720) 720 && ((noneB z.f && noneB z.t) || (ruleB z.f && ruleB z.t && decide (z.f.m ≠ z.t.m)))

theorem ruleB_iff {r : Rul} : ruleB r = true ↔ (1 ≤ r.m ∧ r.m ≤ 12) ∧ (1 ≤ r.w ∧ r.w ≤ 5) ∧ (0 ≤ r.d ∧ r.d ≤ 6) ∧ (0 ≤ r.h ∧ r.h ≤ 23) := by
  simp [ruleB, inB_iff, and_assoc]
theorem noneB_iff {r : Rul} : noneB r = true ↔ r.m = 0 ∧ r.w = 0 ∧ r.d = 0 ∧ r.h = 0 := by simp [noneB, and_assoc]

/-- a weekday -/
def wd (n : Int) : Int := (n + 6) % 7
/-- how many days behind the first of a month the first such weekday lies -/
def r0 (first d : Int) : Int := (d - wd first + 7) % 7
/-- the day of a rule, counted from the first of its month: as the program reckons it -/
def dm (first d w len : Int) : Int := if len < 1 + r0 first d + (w - 1) * 7 then 1 + r0 first d + (w - 1) * 7 - 7 else 1 + r0 first d + (w - 1) * 7
/-- the moment of a rule in a year -/
def mom (r : Rul) (y : Int) : Int := (Cal.ys y + Cal.cum y r.m + dm (Cal.ys y + Cal.cum y r.m) r.d r.w (Cal.md y r.m) - 1) * 1440 + r.h * 60
/-- summer time on at a minute of standard time -/
def sumB (z : Zn) (s : Int) : Bool :=
  if noneB z.f && noneB z.t then false
  else if z.f.m < z.t.m then decide (mom z.f (Cal.yr (s / 1440)) ≤ s) && decide (s < mom z.t (Cal.yr (s / 1440)))
  else decide (s < mom z.t (Cal.yr (s / 1440))) || decide (mom z.f (Cal.yr (s / 1440)) ≤ s)
/-- what the clock shows there -/
def there (z : Zn) (n : Int) : Int := if sumB z (n + z.off) then n + z.off + 60 else n + z.off
def clockB (z : Zn) (n : Int) : Bool := zoneB z && inB n 0 52595999 && inB (n + z.off) 0 52595999 && decide (there z n ≤ 52595999)

theorem r0_bd (first d : Int) : 0 ≤ r0 first d ∧ r0 first d ≤ 6 := by unfold r0; omega
theorem dm_bd (first d w len : Int) (h1 : 1 ≤ w) (h2 : w ≤ 5) (h3 : 28 ≤ len) : 1 ≤ dm first d w len ∧ dm first d w len ≤ 35 := by
  have := r0_bd first d; unfold dm; split <;> omega

/-- the document's way: the days of the month one by one; how many such weekdays have been met ahead of day k, and where it stands then -/
def cnt (r k : Int) : Int := (k + 6 - r) / 7
def pos (first r w k : Int) : Int := if cnt r k = 0 then first else first + r + 7 * ((if cnt r k ≤ w then cnt r k else w) - 1)
theorem hit_iff (first d k : Int) (h0 : 0 ≤ first) (hd : 0 ≤ d) (hd' : d ≤ 6) (hk : 0 ≤ k) : wd (first + k) = d ↔ (k - r0 first d) % 7 = 0 := by
  unfold r0 wd; omega
theorem cnt_zero (r : Int) (h : 0 ≤ r) (h' : r ≤ 6) : cnt r 0 = 0 := by unfold cnt; omega
theorem cnt_bd (r k : Int) (h : 0 ≤ r) (h' : r ≤ 6) (hk : 0 ≤ k) (hk' : k ≤ 31) : 0 ≤ cnt r k ∧ cnt r k ≤ 5 := by unfold cnt; omega
theorem cnt_hit (r k : Int) (h : 0 ≤ r) (h' : r ≤ 6) (hk : 0 ≤ k) (g : (k - r) % 7 = 0) : cnt r (k + 1) = cnt r k + 1 := by unfold cnt; omega
theorem cnt_miss (r k : Int) (h : 0 ≤ r) (h' : r ≤ 6) (hk : 0 ≤ k) (g : ¬ (k - r) % 7 = 0) : cnt r (k + 1) = cnt r k := by unfold cnt; omega
theorem pos_zero (first r w : Int) (h : 0 ≤ r) (h' : r ≤ 6) : pos first r w 0 = first := by unfold pos; rw [if_pos (cnt_zero r h h')]
theorem pos_hit (first r w k : Int) (h : 0 ≤ r) (h' : r ≤ 6) (hk : 0 ≤ k) (g : (k - r) % 7 = 0) (hw : cnt r k + 1 ≤ w) : pos first r w (k + 1) = first + k := by
  have e := cnt_hit r k h h' hk g
  have c0 : 0 ≤ cnt r k := by unfold cnt; omega
  have c1 : k = r + 7 * cnt r k := by unfold cnt; omega
  unfold pos; rw [e, if_neg (by omega), if_pos hw]; omega
theorem pos_over (first r w k : Int) (h : 0 ≤ r) (h' : r ≤ 6) (hk : 0 ≤ k) (g : (k - r) % 7 = 0) (h1 : 1 ≤ w) (hw : ¬ cnt r k + 1 ≤ w) : pos first r w (k + 1) = pos first r w k := by
  have e := cnt_hit r k h h' hk g
  have c0 : 0 ≤ cnt r k := by unfold cnt; omega
  unfold pos; rw [e, if_neg (by omega), if_neg (by omega)]; (repeat' split) <;> omega
theorem pos_miss (first r w k : Int) (h : 0 ≤ r) (h' : r ≤ 6) (hk : 0 ≤ k) (g : ¬ (k - r) % 7 = 0) : pos first r w (k + 1) = pos first r w k := by
  have e := cnt_miss r k h h' hk g
  unfold pos; rw [e]
theorem pos_end (first d w len : Int) (h1 : 1 ≤ w) (h2 : w ≤ 5) (h3 : 28 ≤ len) (h4 : len ≤ 31) : pos first (r0 first d) w len = first + dm first d w len - 1 := by
  have := r0_bd first d
  unfold pos dm cnt
  have c : (len + 6 - r0 first d) / 7 = 4 ∨ (len + 6 - r0 first d) / 7 = 5 := by omega
  rw [if_neg (by omega)]
  rcases c with c | c <;> rw [c] <;> (repeat' split) <;> omega
theorem pos_bd (first r w k : Int) (h : 0 ≤ r) (h' : r ≤ 6) (hk : 0 ≤ k) (hk' : k ≤ 31) (h1 : 1 ≤ w) (h2 : w ≤ 5) : first ≤ pos first r w k ∧ pos first r w k ≤ first + 34 := by
  have := cnt_bd r k h h' hk hk'
  unfold pos; (repeat' split) <;> omega

theorem mom_bd (r : Rul) (y : Int) (hr : ruleB r = true) (h1 : 2000 ≤ y) (h2 : y ≤ 2099) : 0 ≤ mom r y ∧ mom r y ≤ 60000000 := by
  obtain ⟨⟨a, b⟩, ⟨c, d⟩, _, ⟨e, f⟩⟩ := ruleB_iff.mp hr
  have := Cal.ys_bd y h1 (by omega); have := Cal.cum_bd y r.m a (by omega); have := Cal.md_bd y r.m
  have := dm_bd (Cal.ys y + Cal.cum y r.m) r.d r.w (Cal.md y r.m) c d (by omega)
  unfold mom; omega
theorem zone_cases {z : Zn} (h : zoneB z = true) : (-720 ≤ z.off ∧ z.off ≤ 720) ∧ ((noneB z.f = true ∧ noneB z.t = true) ∨ ((noneB z.f && noneB z.t) = false ∧ noneB z.f = false ∧ ruleB z.f = true ∧ ruleB z.t = true ∧ z.f.m ≠ z.t.m)) := by
  simp only [zoneB, Bool.and_eq_true, Bool.or_eq_true, decide_eq_true_eq, inB_iff] at h
  refine ⟨h.1, ?_⟩
  rcases h.2 with g | g
  · exact .inl g
  · have a := ruleB_iff.mp g.1.1
    have b : noneB z.f = false := by
      cases hb : noneB z.f with
      | false => rfl
      | true => have := noneB_iff.mp hb; omega
    exact .inr ⟨by simp [b], b, g.1.1, g.1.2, g.2⟩
end Go.Proofs.YtjaffmmocbplaabDoor.Zon
