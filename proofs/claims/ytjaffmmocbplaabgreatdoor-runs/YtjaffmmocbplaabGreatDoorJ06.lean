/-
  PerM, ClockW in one text.
-/
import Derived.Test.YtjaffmmocbplaabGreatDoorJ05
import Derived.Test.YtjaffmmocbplaabGreatDoorJFilM
import Derived.Test.YtjaffmmocbplaabGreatDoorJ02
import Derived.Test.YtjaffmmocbplaabGreatDoorJZon
namespace Go.Proofs.YtjaffmmocbplaabGreatDoor
open Txt (Val)
set_option linter.unusedVariables false

structure Per where
  i0 : Int
  i1 : Int
  i2 : Int
  o : Int
  pk : Int
def pw (v : Val) (step : Int) : Int := 60 * v.i / step
def addV (p : Per) (v : Val) (c step : Int) : Per :=
  ⟨if c = 0 then p.i0 + v.i else p.i0, if c = 1 then p.i1 + v.i else p.i1, if c = 2 then p.i2 + v.i else p.i2, p.o + v.o, if p.pk < pw v step then pw v step else p.pk⟩
def per0 : Per := ⟨0, 0, 0, 0, 0⟩
/-- the periods that are done, the one under way, the day behind it -/
structure PSt where
  dn : List Per
  p : Per
  en : Int
def pushF (days day : Int) : Nat → PSt → PSt
  | 0, s => s
  | f + 1, s => if 1 ≤ days ∧ s.en ≤ day then pushF days day f ⟨s.dn ++ [s.p], per0, s.en + days⟩ else s
def pushP (days day : Int) (s : PSt) : PSt := pushF days day (day + 1 - s.en).toNat s
theorem pushF_eq (days day : Int) : ∀ (f g : Nat) (s : PSt), (day + 1 - s.en).toNat ≤ f → (day + 1 - s.en).toNat ≤ g → pushF days day f s = pushF days day g s
  | 0, 0, s, _, _ => rfl
  | 0, g + 1, s, h, _ => by show s = (if _ then _ else _); rw [if_neg (by omega)]
  | f + 1, 0, s, _, h => by show (if _ then _ else _) = s; rw [if_neg (by omega)]
  | f + 1, g + 1, s, h1, h2 => by
    show (if _ then _ else _) = (if _ then _ else _)
    by_cases c : 1 ≤ days ∧ s.en ≤ day
    · rw [if_pos c, if_pos c]; exact pushF_eq days day f g _ (by simp only; omega) (by simp only; omega)
    · rw [if_neg c, if_neg c]
theorem push_go {days day : Int} {s : PSt} (h : 1 ≤ days) (h' : s.en ≤ day) : pushP days day s = pushP days day ⟨s.dn ++ [s.p], per0, s.en + days⟩ := by
  unfold pushP
  rw [show (day + 1 - s.en).toNat = (day - s.en).toNat + 1 by omega]
  show (if _ then _ else _) = _
  rw [if_pos ⟨h, h'⟩]
  exact pushF_eq days day _ _ _ (by simp only; omega) (by simp only; omega)
theorem push_stop {days day : Int} {s : PSt} (h' : ¬ s.en ≤ day) : pushP days day s = s := by
  unfold pushP; rw [show (day + 1 - s.en).toNat = 0 by omega]; rfl

def seasB (t : Trf) (day : Int) : Bool := inB day (Cal.ys (Cal.yr day) + Cal.cum (Cal.yr day) t.first) (Cal.ys (Cal.yr day) + Cal.cum (Cal.yr day) t.last + Cal.md (Cal.yr day) t.last - 1)
def wkB (day : Int) : Bool := decide (Zon.wd day = 6) || decide (Zon.wd day = 0)
def hrow (t : Trf) (wk se : Bool) : ByteArray := if wk then (if se then t.h3 else t.h1) else (if se then t.h2 else t.h0)
def clsOf (t : Trf) (day hour : Int) : Int := Txt.byteAt (hrow t (wkB day) (seasB t day)) hour.toNat - 65
theorem hours_byte {u : ByteArray} (h : hoursB u = true) {k : Nat} (hk : k < 24) : u.size = 24 ∧ 65 ≤ Txt.byteAt u k ∧ Txt.byteAt u k ≤ 67 := by
  simp only [hoursB, Bool.and_eq_true, decide_eq_true_eq] at h
  refine ⟨h.1, ?_⟩
  have hk' : k < u.size := by omega
  rw [Txt.byteAt_lt hk']
  have := List.all_eq_true.mp h.2 u[k] (by
    have : u[k] = u.data.toList[k]'(by simpa using hk') := by rfl
    rw [this]; exact List.getElem_mem _)
  exact clsB_bd this
theorem hrow_ok {t : Trf} (h : badN t = 13) (wk se : Bool) : hoursB (hrow t wk se) = true := by
  have h0 : hoursB t.h0 = true := badN_good (t := t) (j := 3) (by omega)
  have h1 : hoursB t.h1 = true := badN_good (t := t) (j := 4) (by omega)
  have h2 : hoursB t.h2 = true := badN_good (t := t) (j := 5) (by omega)
  have h3 : hoursB t.h3 = true := badN_good (t := t) (j := 6) (by omega)
  unfold hrow; cases wk <;> cases se <;> assumption
theorem clsOf_bd {t : Trf} (h : badN t = 13) {day hour : Int} (h0 : 0 ≤ hour) (h1 : hour ≤ 23) : 0 ≤ clsOf t day hour ∧ clsOf t day hour ≤ 2 := by
  have := hours_byte (hrow_ok h (wkB day) (seasB t day)) (k := hour.toNat) (by omega)
  unfold clsOf; omega

def dayAt (t : Trf) (step start : Int) (i : Nat) : Int := Zon.there t.z (start + i * step) / 1440
def minAt (t : Trf) (step start : Int) (i : Nat) : Int := Zon.there t.z (start + i * step) % 1440
def begP (t : Trf) (step start : Int) (s : PSt) (i : Nat) : PSt := if i = 0 then ⟨s.dn, s.p, dayAt t step start i + t.days⟩ else s
def stepP (t : Trf) (step start : Int) (l : List Val) (s : PSt) (i : Nat) : PSt :=
  ⟨(pushP t.days (dayAt t step start i) (begP t step start s i)).dn, addV (pushP t.days (dayAt t step start i) (begP t step start s i)).p (Fil.vAt l i) (clsOf t (dayAt t step start i) (minAt t step start i / 60)) step, (pushP t.days (dayAt t step start i) (begP t step start s i)).en⟩
def runP (t : Trf) (step start : Int) (l : List Val) : Nat → PSt
  | 0 => ⟨[], per0, 0⟩
  | k + 1 => stepP t step start l (runP t step start l k) k
def perL (t : Trf) (step start : Int) (l : List Val) : List Per := (runP t step start l l.length).dn ++ [(runP t step start l l.length).p]

/-- what holds of a period behind k values -/
def okP (p : Per) (k : Nat) : Prop := (0 ≤ p.i0 ∧ p.i0 ≤ k * 999999999) ∧ (0 ≤ p.i1 ∧ p.i1 ≤ k * 999999999) ∧ (0 ≤ p.i2 ∧ p.i2 ≤ k * 999999999) ∧ (0 ≤ p.o ∧ p.o ≤ k * 999999999) ∧ (0 ≤ p.pk ∧ p.pk ≤ 4000000000)
theorem okP_zero (k : Nat) : okP per0 k := by simp only [okP, per0]; omega
theorem okP_more {p : Per} {k : Nat} (h : okP p k) : okP p (k + 1) := by simp only [okP] at h ⊢; omega
theorem pw_bd {v : Val} {step : Int} (h : 0 ≤ v.i ∧ v.i ≤ 999999999) (hs : step = 15 ∨ step = 30 ∨ step = 60) : 0 ≤ pw v step ∧ pw v step ≤ 4000000000 := by
  unfold pw; rcases hs with rfl | rfl | rfl <;> omega
theorem okP_add {p : Per} {k : Nat} {v : Val} {c step : Int} (h : okP p k) (hi : 0 ≤ v.i ∧ v.i ≤ 999999999) (ho : 0 ≤ v.o ∧ v.o ≤ 999999999) (hs : step = 15 ∨ step = 30 ∨ step = 60) : okP (addV p v c step) (k + 1) := by
  have := pw_bd hi hs
  simp only [okP, addV] at h ⊢
  refine ⟨?_, ?_, ?_, ?_, ?_⟩ <;> (try split) <;> omega
theorem push_ok {days day : Int} {k : Nat} (hd : 1 ≤ days) (hd2 : days ≤ 31) : ∀ (n : Nat) (s : PSt), (day + 1 - s.en).toNat ≤ n → okP s.p k → okP (pushP days day s).p k ∧ s.en ≤ (pushP days day s).en ∧ ((pushP days day s).en ≤ day + 31 ∨ pushP days day s = s) ∧ (pushP days day s).dn.length + s.en ≤ s.dn.length + (pushP days day s).en ∧ day < (pushP days day s).en
  | n, s, hn, h => by
    by_cases g : s.en ≤ day
    · cases n with
      | zero => omega
      | succ n =>
        rw [push_go hd g]
        obtain ⟨a, b, c, d, e⟩ := push_ok (day := day) (k := k) hd hd2 n ⟨s.dn ++ [s.p], per0, s.en + days⟩ (by simp only; omega) (okP_zero k)
        simp only at b c d e
        refine ⟨a, by omega, ?_, by simp only [List.length_append, List.length_singleton] at d; omega, e⟩
        left
        rcases c with c | c
        · exact c
        · rw [c]; simp only; omega
    · rw [push_stop g]; exact ⟨h, Int.le_refl _, .inr rfl, by omega, by omega⟩
end Go.Proofs.YtjaffmmocbplaabGreatDoor

namespace Go.Proofs.YtjaffmmocbplaabGreatDoor
open Go.RowKit
set_option linter.unusedVariables false

set_option maxHeartbeats 400000 in
theorem weekday_any (n : Int) (w : World) (h0 : 0 ≤ n) (h1 : n ≤ 100000) :
    Calls Tryz.prog 110 #[.int .i64 n] w fun e w' => e = .returned (.int .i64 (Zon.wd n)) ∧ w' = w := by
  go_enter Tryz.func110, Tryz.ntmps110
  go_wp2
  go_ret
  exact ⟨ret_int (by unfold Zon.wd; rfl), rfl⟩

set_option maxHeartbeats 400000 in
theorem validRule_any (r : Zon.Rul) (w : World) :
    Calls Tryz.prog 84 #[.agg #[.int .i64 r.m, .int .i64 r.w, .int .i64 r.d, .int .i64 r.h]] w fun e w' => e = .returned (.bool (Zon.ruleB r)) ∧ Below w.heap.size w w' := by
  cases h1 : inB r.m 1 12
  case true =>
    cases h2 : inB r.w 1 5
    case true =>
      cases h3 : inB r.d 0 6
      all_goals
        go_enter Tryz.func84, Tryz.ntmps84
        go_wp2_with (go_at_call 54; refine (within_any _ _ _ _).mono ?_; rintro e w' ⟨rfl, rfl⟩)
        go_ret
        exact ⟨by simp [Zon.ruleB, h1, h2, h3], (Below.refl _ _).alloc (Nat.le_refl _) _⟩
    case false =>
      go_enter Tryz.func84, Tryz.ntmps84
      go_wp2_with (go_at_call 54; refine (within_any _ _ _ _).mono ?_; rintro e w' ⟨rfl, rfl⟩)
      go_ret
      exact ⟨by simp [Zon.ruleB, h1, h2], (Below.refl _ _).alloc (Nat.le_refl _) _⟩
  case false =>
    go_enter Tryz.func84, Tryz.ntmps84
    go_wp2_with (go_at_call 54; refine (within_any _ _ _ _).mono ?_; rintro e w' ⟨rfl, rfl⟩)
    go_ret
    exact ⟨by simp [Zon.ruleB, h1], (Below.refl _ _).alloc (Nat.le_refl _) _⟩

set_option maxHeartbeats 400000 in
theorem hasSummer_any (z : Zon.Zn) (w : World) :
    Calls Tryz.prog 83 #[.agg #[.int .i64 z.off, .int .i64 z.f.m, .int .i64 z.f.w, .int .i64 z.f.d, .int .i64 z.f.h, .int .i64 z.t.m, .int .i64 z.t.w, .int .i64 z.t.d, .int .i64 z.t.h]] w fun e w' => e = .returned (.bool (!(Zon.noneB z.f && Zon.noneB z.t))) ∧ Below w.heap.size w w' := by
  go_enter Tryz.func83, Tryz.ntmps83
  go_wp2_with fail
  all_goals
    go_ret
    exact ⟨by simp [Zon.noneB, *], ((Below.refl _ _).alloc (Nat.le_refl _) _).alloc (by simp) _⟩

set_option maxHeartbeats 800000 in
theorem validZone_any (z : Zon.Zn) (w : World) :
    Calls Tryz.prog 61 #[.agg #[.int .i64 z.off, .int .i64 z.f.m, .int .i64 z.f.w, .int .i64 z.f.d, .int .i64 z.f.h, .int .i64 z.t.m, .int .i64 z.t.w, .int .i64 z.t.d, .int .i64 z.t.h]] w fun e w' => e = .returned (.bool (Zon.zoneB z)) ∧ Below w.heap.size w w' := by
  cases h1 : inB z.off (-720) 720
  case false =>
    go_enter Tryz.func61, Tryz.ntmps61
    go_wp2_with (go_at_call 54; refine (within_any _ _ _ _).mono ?_; rintro e w' ⟨rfl, rfl⟩)
    go_ret
    exact ⟨by simp [Zon.zoneB, h1], (Below.refl _ _).alloc (Nat.le_refl _) _⟩
  case true =>
    cases h2 : (Zon.noneB z.f && Zon.noneB z.t)
    case true =>
      go_enter Tryz.func61, Tryz.ntmps61
      go_wp2_with (first
        | (go_at_call 54; refine (within_any _ _ _ _).mono ?_; rintro e w' ⟨rfl, rfl⟩)
        | (go_at_call 83; refine (hasSummer_any z _).mono ?_; rintro e w1 ⟨rfl, hb⟩))
      go_ret
      exact ⟨by simp [Zon.zoneB, h1, h2], ((Below.refl _ _).alloc (Nat.le_refl _) _).trans (hb.mono (by simp))⟩
    case false =>
      cases h3 : Zon.ruleB z.f
      case false =>
        go_enter Tryz.func61, Tryz.ntmps61
        go_wp2_with (first
          | (go_at_call 54; refine (within_any _ _ _ _).mono ?_; rintro e w' ⟨rfl, rfl⟩)
          | (go_at_call 83; refine (hasSummer_any z _).mono ?_; rintro e w1 ⟨rfl, hb⟩; obtain ⟨hc, hf⟩ := bcell hb; have hz : w.heap.size < w1.heap.size := by have := hb.size; simp at this; omega)
          | (go_at_call 84; refine (validRule_any z.f _).mono ?_; rintro e w2 ⟨rfl, hb2⟩; obtain ⟨hc2, hf2⟩ := bcell hb2; have hz2 : w.heap.size < w2.heap.size := by have := hb2.size; omega))
        go_ret
        exact ⟨by simp [Zon.zoneB, h1, h2, h3], (((Below.refl _ _).alloc (Nat.le_refl _) _).trans (hb.mono (by simp))).trans (hb2.mono (by omega))⟩
      case true =>
        cases h4 : Zon.ruleB z.t
        all_goals
          go_enter Tryz.func61, Tryz.ntmps61
          go_wp2_with (first
            | (go_at_call 54; refine (within_any _ _ _ _).mono ?_; rintro e w' ⟨rfl, rfl⟩)
            | (go_at_call 83; refine (hasSummer_any z _).mono ?_; rintro e w1 ⟨rfl, hb⟩; obtain ⟨hc, hf⟩ := bcell hb; have hz : w.heap.size < w1.heap.size := by have := hb.size; simp at this; omega)
            | (go_at_call 84; have _ := hb2; refine (validRule_any z.t _).mono ?_; rintro e w3 ⟨rfl, hb3⟩; obtain ⟨hc3, hf3⟩ := bcell hb3)
            | (go_at_call 84; refine (validRule_any z.f _).mono ?_; rintro e w2 ⟨rfl, hb2⟩; obtain ⟨hc2, hf2⟩ := bcell hb2; have hz2 : w.heap.size < w2.heap.size := by have := hb2.size; omega))
          go_ret
          exact ⟨by simp [Zon.zoneB, h1, h2, h3, h4] <;> rfl, ((((Below.refl _ _).alloc (Nat.le_refl _) _).trans (hb.mono (by simp))).trans (hb2.mono (by omega))).trans (hb3.mono (by omega))⟩

set_option maxHeartbeats 800000 in
theorem moment_any (r : Zon.Rul) (y : Int) (w : World) (hr : Zon.ruleB r = true) (h1 : 2000 ≤ y) (h2 : y ≤ 2099) :
    Calls Tryz.prog 109 #[.agg #[.int .i64 r.m, .int .i64 r.w, .int .i64 r.d, .int .i64 r.h], .int .i64 y] w fun e w' => e = .returned (.int .i64 (Zon.mom r y)) ∧ Below w.heap.size w w' := by
  obtain ⟨⟨a1, a2⟩, ⟨b1, b2⟩, ⟨c1, c2⟩, ⟨d1, d2⟩⟩ := Zon.ruleB_iff.mp hr
  have hys := Cal.ys_bd y h1 (by omega)
  have hcu := Cal.cum_bd y r.m a1 (by omega)
  have hmd := Cal.md_bd y r.m
  obtain ⟨first, hF⟩ : ∃ first, first = Cal.ys y + Cal.cum y r.m := ⟨_, rfl⟩
  have hfirst : 0 ≤ first ∧ first ≤ 37000 := by omega
  have hMS : ∀ w, Calls Tryz.prog 111 #[.int .i64 y, .int .i64 r.m] w fun e w' => e = .returned (.int .i64 first) ∧ w' = w := fun w => by rw [hF]; exact monthStart_any y r.m w h1 (by omega) a1 a2
  have hwd : 0 ≤ Zon.wd first ∧ Zon.wd first ≤ 6 := by unfold Zon.wd; omega
  have hr0 := Zon.r0_bd first r.d
  have e0 : Hid (Zon.r0 first r.d = (r.d - Zon.wd first + 7) % 7) := rfl
  have HM : Hid (Zon.mom r y = (first + Zon.dm first r.d r.w (Cal.md y r.m) - 1) * 1440 + r.h * 60) := by rw [hF]; rfl
  have HDm : Hid (Zon.dm first r.d r.w (Cal.md y r.m) = if Cal.md y r.m < 1 + (r.d - Zon.wd first + 7) % 7 + (r.w - 1) * 7 then 1 + (r.d - Zon.wd first + 7) % 7 + (r.w - 1) * 7 - 7 else 1 + (r.d - Zon.wd first + 7) % 7 + (r.w - 1) * 7) := rfl
  clear hF hr
  by_cases hlt : Cal.md y r.m < 1 + (r.d - Zon.wd first + 7) % 7 + (r.w - 1) * 7
  all_goals
    go_enter Tryz.func109, Tryz.ntmps109
    go_wp2_with (go_at_call 111; refine (hMS _).mono ?_; rintro e w' ⟨rfl, rfl⟩)
    go_quiet ((go_at_call 110; exact Calls.quiet_of_same (weekday_any _ _ (by omega) (by omega))))
    go_wp2_with (go_at_call 112; refine (monthDays_any _ _ _ (by omega) (by omega)).mono ?_; rintro e w' ⟨rfl, rfl⟩)
    go_ret
    refine ⟨ret_int ?_, ?_⟩
    · rw [HM.out, HDm.out]
      first | rw [if_pos hlt] | rw [if_neg (by omega)]
      first | rfl | omega
    · repeat (first | exact Below.refl _ _ | refine below_drewN ?_ _ | refine Below.alloc ?_ (by simp) _)

end Go.Proofs.YtjaffmmocbplaabGreatDoor
