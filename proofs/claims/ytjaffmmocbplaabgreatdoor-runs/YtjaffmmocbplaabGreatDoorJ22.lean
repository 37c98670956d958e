/-
  SplP, ClsW in one text.
-/
import Derived.Test.YtjaffmmocbplaabGreatDoorJPerX
import Derived.Test.YtjaffmmocbplaabGreatDoorJ06
import Derived.Test.YtjaffmmocbplaabGreatDoorJ19
namespace Go.Proofs.YtjaffmmocbplaabGreatDoor
open Txt (Val)
set_option linter.unusedVariables false

theorem mom_hour {r : Zon.Rul} (hr : Zon.ruleB r = true) (y : Int) : ∃ a b : Int, Zon.mom r y = a * 1440 + b ∧ 0 ≤ b ∧ b ≤ 1380 := by
  obtain ⟨_, _, _, h1, h2⟩ := Zon.ruleB_iff.mp hr
  exact ⟨Cal.ys y + Cal.cum y r.m + Zon.dm (Cal.ys y + Cal.cum y r.m) r.d r.w (Cal.md y r.m) - 1, r.h * 60, rfl, by omega, by omega⟩
theorem yr_mono {m n : Int} (h0 : 0 ≤ m) (h : m ≤ n) : Cal.yr m ≤ Cal.yr n := by
  rcases Int.lt_or_le (Cal.yr n) (Cal.yr m) with g | g
  · exfalso
    have h1 := Cal.yr_hi n (by omega)
    have h2 := Cal.yr_lo m h0
    have h3 : 2000 ≤ Cal.yr n := by unfold Cal.yr; split <;> omega
    have h4 := Cal.ys_mono (Cal.yr n + 1) (Cal.yr m) (by omega) (by omega)
    omega
  · exact g
theorem there_mono {z : Zon.Zn} (hz : Zon.zoneB z = true) {n n' : Int} (h : n ≤ n') (h0 : 0 ≤ n + z.off) : Zon.there z n / 1440 ≤ Zon.there z n' / 1440 := by
  obtain ⟨_, hc⟩ := Zon.zone_cases hz
  obtain ⟨s, hs⟩ : ∃ s, s = n + z.off := ⟨_, rfl⟩
  obtain ⟨s', hs'⟩ : ∃ s', s' = n' + z.off := ⟨_, rfl⟩
  unfold Zon.there
  rw [← hs, ← hs']
  rw [← hs] at h0
  have hle : s ≤ s' := by omega
  cases a : Zon.sumB z s <;> cases b : Zon.sumB z s'
  · simp only [Bool.false_eq_true, if_false]; omega
  · simp only [Bool.false_eq_true, if_false, if_true]; omega
  · simp only [Bool.false_eq_true, if_false, if_true]
    rcases hc with ⟨g1, g2⟩ | ⟨gn, _, gf, gt, gne⟩
    · unfold Zon.sumB at a; rw [g1, g2] at a; simp at a
    · have hy := yr_mono (m := s / 1440) (n := s' / 1440) (by omega) (by omega)
      have key : ∀ T A B : Int, T = A * 1440 + B → 0 ≤ B → B ≤ 1380 → s < T → T ≤ s' → (s + 60) / 1440 ≤ s' / 1440 := fun T A B e b0 b1 h1 h2 => by omega
      by_cases hyy : Cal.yr (s / 1440) = Cal.yr (s' / 1440)
      · obtain ⟨A, B, e, b0, b1⟩ := mom_hour gt (Cal.yr (s / 1440))
        unfold Zon.sumB at a b
        rw [gn] at a b
        rw [← hyy] at b
        simp only [Bool.false_eq_true, if_false] at a b
        refine key (Zon.mom z.t (Cal.yr (s / 1440))) A B e b0 b1 ?_ ?_
        · split at a
          · simp only [Bool.and_eq_true, decide_eq_true_eq] at a; omega
          · rename_i hn
            rw [if_neg hn] at b
            simp only [Bool.or_eq_true, decide_eq_true_eq] at a
            simp only [Bool.or_eq_false_iff, decide_eq_false_iff_not] at b
            omega
        · split at b
          · rename_i hn
            rw [if_pos hn] at a
            simp only [Bool.and_eq_true, decide_eq_true_eq] at a
            simp only [Bool.and_eq_false_iff, decide_eq_false_iff_not] at b
            omega
          · simp only [Bool.or_eq_false_iff, decide_eq_false_iff_not] at b
            omega
      · have h1 := Cal.yr_hi (s / 1440) (by omega)
        have h2 := Cal.yr_lo (s' / 1440) (by omega)
        have h3 : 2000 ≤ Cal.yr (s / 1440) := by unfold Cal.yr; split <;> omega
        have h4 := Cal.ys_mono (Cal.yr (s / 1440) + 1) (Cal.yr (s' / 1440)) (by omega) (by omega)
        omega
  · simp only [if_true]; omega
theorem day_mono {t : Trf} {step start : Int} (hs : 0 ≤ step) {i : Nat} (h : okC t step start i = true) (h' : okC t step start (i + 1) = true) : dayAt t step start i ≤ dayAt t step start (i + 1) := by
  unfold okC at h h'
  simp only [Zon.clockB, Bool.and_eq_true, decide_eq_true_eq, inB_iff] at h h'
  unfold dayAt
  refine there_mono h.1.1.1 ?_ h.1.2.1
  have : ((i + 1 : Nat) : Int) * step = i * step + step := by rw [Int.natCast_add, Int.add_mul]; simp
  omega

/-- the document's list behind one more value -/
def docK (t : Trf) (step start : Int) (i : Nat) : Nat := ((dayAt t step start i - dayAt t step start 0) / t.days).toNat
def docG (out : List Per) (k : Nat) : List Per := out ++ List.replicate (k + 1 - out.length) per0
def pAt (l : List Per) (k : Nat) : Per := match l[k]? with | some x => x | none => per0
def docS (t : Trf) (step start : Int) (l : List Val) (out : List Per) (i : Nat) : List Per :=
  (docG out (docK t step start i)).set (docK t step start i) (addV (pAt (docG out (docK t step start i)) (docK t step start i)) (Fil.vAt l i) (clsOf t (dayAt t step start i) (minAt t step start i / 60)) step)
def docR (t : Trf) (step start : Int) (l : List Val) : Nat → List Per
  | 0 => []
  | k + 1 => docS t step start l (docR t step start l k) k
/-- what pushing does, where the state is in step with the days -/
theorem push_doc {days day first : Int} (hd : 1 ≤ days) : ∀ (n : Nat) (s : PSt), (day + 1 - s.en).toNat ≤ n → s.en = first + (s.dn.length + 1) * days → first + s.dn.length * days ≤ day →
    (pushP days day s).dn ++ [(pushP days day s).p] = docG (s.dn ++ [s.p]) ((day - first) / days).toNat ∧ (pushP days day s).en = first + ((pushP days day s).dn.length + 1) * days ∧ ((day - first) / days).toNat = (pushP days day s).dn.length
  | n, s, hn, he, hf => by
    have key : ∀ m : Int, 0 ≤ m → first + m * days ≤ day → day < first + (m + 1) * days → (day - first) / days = m := fun m h0 h1 h2 => by
      have e : (m + 1) * days = m * days + days := by rw [Int.add_mul]; omega
      have : day - first = (day - first - m * days) + m * days := by omega
      rw [this, Int.add_mul_ediv_right _ _ (by omega), Int.ediv_eq_zero_of_lt (by omega) (by omega)]; omega
    by_cases g : s.en ≤ day
    · cases n with
      | zero => omega
      | succ n =>
        rw [push_go hd g]
        have e1 : ((s.dn.length : Int) + 1 + 1) * days = ((s.dn.length : Int) + 1) * days + days := by rw [Int.add_mul ((s.dn.length : Int) + 1)]; omega
        obtain ⟨a, b, c⟩ := push_doc (day := day) (first := first) hd n ⟨s.dn ++ [s.p], per0, s.en + days⟩ (by simp only; omega) (by simp only [List.length_append, List.length_singleton, Int.natCast_add, Int.natCast_one]; omega) (by simp only [List.length_append, List.length_singleton, Int.natCast_add, Int.natCast_one]; omega)
        refine ⟨?_, b, c⟩
        rw [a]
        have hk : s.dn.length + 1 ≤ ((day - first) / days).toNat := by
          have := Int.ediv_le_ediv (show 0 < days by omega) (show ((s.dn.length : Int) + 1) * days ≤ day - first by omega)
          rw [Int.mul_ediv_cancel _ (by omega)] at this
          omega
        obtain ⟨d, hdd⟩ : ∃ d, ((day - first) / days).toNat = s.dn.length + 1 + d := ⟨_, (Nat.add_sub_of_le hk).symm⟩
        unfold docG
        rw [hdd]
        simp only [List.length_append, List.length_singleton, List.append_assoc]
        rw [show s.dn.length + 1 + d + 1 - (s.dn.length + (1 + 1)) = d by omega, show s.dn.length + 1 + d + 1 - (s.dn.length + 1) = d + 1 by omega, List.replicate_succ]
        simp
    · rw [push_stop g]
      have hm := key s.dn.length (by omega) hf (by omega)
      have hm' : ((day - first) / days).toNat = s.dn.length := by omega
      refine ⟨?_, he, hm'⟩
      rw [hm']
      unfold docG
      simp
theorem set_last {l : List Per} {x y : Per} : (l ++ [x]).set l.length y = l ++ [y] := by simp
theorem pAt_last {l : List Per} {x : Per} : pAt (l ++ [x]) l.length = x := by simp [pAt]
/-- the program's state is in step with the days, and its list is the document's -/
theorem doc_run {t : Trf} {step start : Int} {l : List Val} (ht : badN t = 13) (hs : 0 ≤ step) : ∀ k, (∀ j, j < k + 1 → okC t step start j = true) →
    docR t step start l (k + 1) = (runP t step start l (k + 1)).dn ++ [(runP t step start l (k + 1)).p] ∧ (runP t step start l (k + 1)).en = dayAt t step start 0 + ((runP t step start l (k + 1)).dn.length + 1) * t.days ∧ dayAt t step start 0 + (runP t step start l (k + 1)).dn.length * t.days ≤ dayAt t step start k := by
  obtain ⟨d0, _⟩ := days_ok ht
  have last : ∀ (s : PSt) (out : List Per) (k : Nat), s.en = dayAt t step start 0 + (s.dn.length + 1) * t.days → dayAt t step start 0 + s.dn.length * t.days ≤ dayAt t step start k →
      docG out (docK t step start k) = docG (s.dn ++ [s.p]) (docK t step start k) →
      docS t step start l out k = (pushP t.days (dayAt t step start k) s).dn ++ [addV (pushP t.days (dayAt t step start k) s).p (Fil.vAt l k) (clsOf t (dayAt t step start k) (minAt t step start k / 60)) step] ∧
      (pushP t.days (dayAt t step start k) s).en = dayAt t step start 0 + ((pushP t.days (dayAt t step start k) s).dn.length + 1) * t.days ∧ dayAt t step start 0 + (pushP t.days (dayAt t step start k) s).dn.length * t.days ≤ dayAt t step start k := by
    intro s out k he hf hg
    obtain ⟨a, b, c⟩ := push_doc (day := dayAt t step start k) (first := dayAt t step start 0) d0 _ s (Nat.le_refl _) he hf
    have hk : docK t step start k = (pushP t.days (dayAt t step start k) s).dn.length := c
    refine ⟨?_, b, ?_⟩
    · unfold docS
      have a' : docG (s.dn ++ [s.p]) (docK t step start k) = (pushP t.days (dayAt t step start k) s).dn ++ [(pushP t.days (dayAt t step start k) s).p] := a.symm
      rw [hg, a', hk, set_last, pAt_last]
    · have h0 : 0 ≤ (dayAt t step start k - dayAt t step start 0) / t.days := by
        apply Int.ediv_nonneg _ (by omega)
        have : 0 ≤ (s.dn.length : Int) * t.days := Int.mul_nonneg (by omega) (by omega)
        omega
      have h1 := Int.ediv_mul_le (dayAt t step start k - dayAt t step start 0) (b := t.days) (by omega)
      have h2 : ((pushP t.days (dayAt t step start k) s).dn.length : Int) = (dayAt t step start k - dayAt t step start 0) / t.days := by omega
      rw [h2]; omega
  intro k
  induction k with
  | zero =>
    intro hc
    have := last (begP t step start ⟨[], per0, 0⟩ 0) [] 0 (by show dayAt t step start 0 + t.days = _; simp [begP]) (by simp [begP]) (by
      show docG [] (docK t step start 0) = docG ([] ++ [per0]) (docK t step start 0)
      have e : docK t step start 0 = 0 := by unfold docK; simp
      rw [e]; rfl)
    exact this
  | succ k ih =>
    intro hc
    obtain ⟨a, b, c⟩ := ih (fun j hj => hc j (by omega))
    have hm := day_mono hs (hc k (by omega)) (hc (k + 1) (by omega))
    have e : begP t step start (runP t step start l (k + 1)) (k + 1) = runP t step start l (k + 1) := by unfold begP; rw [if_neg (by omega)]
    have := last (begP t step start (runP t step start l (k + 1)) (k + 1)) (docR t step start l (k + 1)) (k + 1) (by rw [e]; exact b) (by rw [e]; omega) (by rw [e, a])
    exact this
theorem doc_perL {t : Trf} {step start : Int} {l : List Val} (ht : badN t = 13) (hs : 0 ≤ step) (hl : 1 ≤ l.length) (hc : ∀ j, j < l.length → okC t step start j = true) : docR t step start l l.length = perL t step start l := by
  obtain ⟨k, hk⟩ : ∃ k, l.length = k + 1 := ⟨l.length - 1, by omega⟩
  unfold perL
  rw [hk]
  exact (doc_run ht hs k (fun j hj => hc j (by omega))).1
end Go.Proofs.YtjaffmmocbplaabGreatDoor

namespace Go.Proofs.YtjaffmmocbplaabGreatDoor
open Go.RowKit
set_option linter.unusedVariables false

theorem season_iff {t : Trf} {n y m d : Int} (hok : Cal.Ok y m d) (hn : Cal.num y m d = n) (f1 : 1 ≤ t.first) (f2 : t.first ≤ 12) (l1 : 1 ≤ t.last) (l2 : t.last ≤ 12) : seasB t n = (decide (t.first ≤ m) && decide (m ≤ t.last)) := by
  have hy : Cal.yr n = y := by rw [← hn]; exact Cal.yr_of hok
  unfold seasB
  rw [hy]
  obtain ⟨o1, o2, o3, o4, o5⟩ := hok
  unfold Cal.num at hn
  have cs := Cal.cum_succ y m o2 o3
  have cl := Cal.cum_succ y t.last l1 l2
  have e1 : (Cal.ys y + Cal.cum y t.first ≤ n) ↔ t.first ≤ m := by
    constructor
    · intro h
      rcases Int.lt_or_le m t.first with g | g
      · have := Cal.cum_mono y (m + 1) t.first (by omega) (by omega) (by omega); omega
      · exact g
    · intro g; have := Cal.cum_mono y t.first m f1 g (by omega); omega
  have e2 : (n ≤ Cal.ys y + Cal.cum y t.last + Cal.md y t.last - 1) ↔ m ≤ t.last := by
    constructor
    · intro h
      rcases Int.lt_or_le t.last m with g | g
      · have := Cal.cum_mono y (t.last + 1) m (by omega) (by omega) (by omega); omega
      · exact g
    · intro g; have := Cal.cum_mono y (m + 1) (t.last + 1) (by omega) (by omega) (by omega); omega
  unfold inB
  by_cases a : t.first ≤ m <;> by_cases b : m ≤ t.last
  · simp [a, b, e1.mpr a, e2.mpr b]
  · simp [a, b, e2]
  · simp [a, b, e1]
  · simp [a, b, e1]

theorem season_cases {t : Trf} {n y m d : Int} (hok : Cal.Ok y m d) (hn : Cal.num y m d = n) (f1 : 1 ≤ t.first) (f2 : t.first ≤ 12) (l1 : 1 ≤ t.last) (l2 : t.last ≤ 12) :
    (¬ t.first ≤ m ∧ seasB t n = false) ∨ (t.first ≤ m ∧ ¬ m ≤ t.last ∧ seasB t n = false) ∨ (t.first ≤ m ∧ m ≤ t.last ∧ seasB t n = true) := by
  rw [season_iff hok hn f1 f2 l1 l2]
  by_cases a : t.first ≤ m <;> by_cases b : m ≤ t.last <;> simp [a, b]

set_option maxRecDepth 1000000 in
set_option maxHeartbeats 2000000 in
theorem refClass_any (t : Trf) (day mi : Int) (w : World) (ht : badN t = 13) (h0 : 0 ≤ day) (h1 : day ≤ 36524) (m0 : 0 ≤ mi) (m1 : mi ≤ 1439) :
    Calls Tryz.prog 79 #[.agg #[.int .i64 t.z.off, .int .i64 t.z.f.m, .int .i64 t.z.f.w, .int .i64 t.z.f.d, .int .i64 t.z.f.h, .int .i64 t.z.t.m, .int .i64 t.z.t.w, .int .i64 t.z.t.d, .int .i64 t.z.t.h, .int .i64 t.days, .int .i64 t.gap, .int .i64 t.first, .int .i64 t.last, .string t.h0, .string t.h1, .string t.h2, .string t.h3, .int .i64 t.b0.x, .int .i64 t.b0.y, .int .i64 t.b0.z, .int .i64 t.b1.x, .int .i64 t.b1.y, .int .i64 t.b1.z, .int .i64 t.b2.x, .int .i64 t.b2.y, .int .i64 t.b2.z, .int .i64 t.d.x, .int .i64 t.d.y, .int .i64 t.d.z, .int .i64 t.np, .int .i64 t.nn, .int .i64 t.fix, .int .i64 t.min, .int .i64 t.tax], .int .i64 day, .int .i64 mi] w fun e w' => e = .returned (.int .i64 (clsOf t day (mi / 60))) ∧ Below w.heap.size w w' := by
  have hse : (inB t.first 1 t.last && decide (t.last ≤ 12)) = true := badN_good (t := t) (j := 2) (by omega)
  simp only [Bool.and_eq_true, decide_eq_true_eq, inB_iff] at hse
  have HSE : Hid (∀ y m d : Int, Cal.Ok y m d → Cal.num y m d = day → (¬ t.first ≤ m ∧ seasB t day = false) ∨ (t.first ≤ m ∧ ¬ m ≤ t.last ∧ seasB t day = false) ∨ (t.first ≤ m ∧ m ≤ t.last ∧ seasB t day = true)) := fun y m d a b => season_cases a b (by omega) (by omega) (by omega) (by omega)
  have dt := fun w1 => dated_any day w1 h0 h1
  have wd := fun w1 => refWeekday_any day w1 h0 (by omega)
  obtain ⟨hr, hhr⟩ : ∃ hr : Nat, mi / 60 = (hr : Int) := ⟨(mi / 60).toNat, by omega⟩
  have hr24 : hr < 24 := by omega
  have hr0 : (0 : Int) ≤ (hr : Int) := by omega
  have HC : Hid (clsOf t day (mi / 60) = Txt.byteAt (hrow t (wkB day) (seasB t day)) hr - 65) := by show _ = _; rw [hhr]; simp [clsOf]
  have HBY : Hid (∀ a b, (hrow t a b).size = 24 ∧ 65 ≤ Txt.byteAt (hrow t a b) hr ∧ Txt.byteAt (hrow t a b) hr ≤ 67) := fun a b => hours_byte (hrow_ok ht a b) hr24
  have l0 : hr < t.h0.size := by have : t.h0.size = 24 := (HBY.out false false).1; omega
  have l0' : (hr : Int) < (t.h0.size : Int) := by omega
  have g0 : 65 ≤ (t.h0[hr].toNat : Int) ∧ (t.h0[hr].toNat : Int) ≤ 67 := by have := (HBY.out false false).2; rw [show hrow t _ _ = t.h0 from rfl, Txt.byteAt_lt l0] at this; exact this
  have k0 : IntKind.u8.wrap ((t.h0[hr].toNat : Int) - 65) = (t.h0[hr].toNat : Int) - 65 := Go.IntWalk.u8_in _ (by omega)
  have E0 : Hid (Txt.byteAt (hrow t false false) hr = (t.h0[hr].toNat : Int)) := by show _ = _; rw [show hrow t _ _ = t.h0 from rfl, Txt.byteAt_lt l0]
  have l1 : hr < t.h1.size := by have : t.h1.size = 24 := (HBY.out true false).1; omega
  have l1' : (hr : Int) < (t.h1.size : Int) := by omega
  have g1 : 65 ≤ (t.h1[hr].toNat : Int) ∧ (t.h1[hr].toNat : Int) ≤ 67 := by have := (HBY.out true false).2; rw [show hrow t _ _ = t.h1 from rfl, Txt.byteAt_lt l1] at this; exact this
  have k1 : IntKind.u8.wrap ((t.h1[hr].toNat : Int) - 65) = (t.h1[hr].toNat : Int) - 65 := Go.IntWalk.u8_in _ (by omega)
  have E1 : Hid (Txt.byteAt (hrow t true false) hr = (t.h1[hr].toNat : Int)) := by show _ = _; rw [show hrow t _ _ = t.h1 from rfl, Txt.byteAt_lt l1]
  have l2 : hr < t.h2.size := by have : t.h2.size = 24 := (HBY.out false true).1; omega
  have l2' : (hr : Int) < (t.h2.size : Int) := by omega
  have g2 : 65 ≤ (t.h2[hr].toNat : Int) ∧ (t.h2[hr].toNat : Int) ≤ 67 := by have := (HBY.out false true).2; rw [show hrow t _ _ = t.h2 from rfl, Txt.byteAt_lt l2] at this; exact this
  have k2 : IntKind.u8.wrap ((t.h2[hr].toNat : Int) - 65) = (t.h2[hr].toNat : Int) - 65 := Go.IntWalk.u8_in _ (by omega)
  have E2 : Hid (Txt.byteAt (hrow t false true) hr = (t.h2[hr].toNat : Int)) := by show _ = _; rw [show hrow t _ _ = t.h2 from rfl, Txt.byteAt_lt l2]
  have l3 : hr < t.h3.size := by have : t.h3.size = 24 := (HBY.out true true).1; omega
  have l3' : (hr : Int) < (t.h3.size : Int) := by omega
  have g3 : 65 ≤ (t.h3[hr].toNat : Int) ∧ (t.h3[hr].toNat : Int) ≤ 67 := by have := (HBY.out true true).2; rw [show hrow t _ _ = t.h3 from rfl, Txt.byteAt_lt l3] at this; exact this
  have k3 : IntKind.u8.wrap ((t.h3[hr].toNat : Int) - 65) = (t.h3[hr].toNat : Int) - 65 := Go.IntWalk.u8_in _ (by omega)
  have E3 : Hid (Txt.byteAt (hrow t true true) hr = (t.h3[hr].toNat : Int)) := by show _ = _; rw [show hrow t _ _ = t.h3 from rfl, Txt.byteAt_lt l3]
  have HWK : Hid (wkB day = (decide (Zon.wd day = 6) || decide (Zon.wd day = 0))) := rfl
  obtain ⟨D, hD⟩ : ∃ D, D = Zon.wd day := ⟨_, rfl⟩
  rw [← hD] at wd HWK
  obtain ⟨C, hC⟩ : ∃ C, C = clsOf t day (mi / 60) := ⟨_, rfl⟩
  rw [← hC] at HC ⊢
  clear hD hC ht hse
  rcases (by omega : D = 0 ∨ (¬ D = 0 ∧ D = 6) ∨ (¬ D = 0 ∧ ¬ D = 6)) with q | ⟨q, q'⟩ | ⟨q, q'⟩
  · have b1 : (D == 0) = true := by simpa using q
    have hwk : wkB day = true := by rw [HWK.out, q]; rfl
    clear q
    rw [hwk] at HC
    clear hwk HWK
    go_enter Tryz.func79, Tryz.ntmps79
    go_wp2_with (first
      | (go_at_call 97; refine (dt _).mono ?_; rintro e w1 ⟨y, m, d, rfl, hok, hy, hnum, hb1⟩; obtain ⟨hc1, hf1⟩ := bcell hb1; have hs1 : w.heap.size < w1.heap.size := (by have := hb1.size; simp at this; omega); have HS := HSE.out y m d hok hnum; clear hok hy hnum; rcases HS with ⟨g, hs⟩ | ⟨g, g', hs⟩ | ⟨g, g', hs⟩)
      | (go_at_call 98; refine (wd _).mono ?_; rintro e w2 ⟨rfl, h2⟩; have h2' := h2.symm; subst h2'))
    all_goals
      go_ret
      exact ⟨ret_int (by rw [HC.out, hs]; first | rw [E0.out] | rw [E1.out] | rw [E2.out] | rw [E3.out]), below_more (below_then (below_more (Below.refl _ _) _) hb1) _⟩
  · have b1 : (D == 0) = false := by simpa using q
    have b2 : (D == 6) = true := by simpa using q'
    have hwk : wkB day = true := by rw [HWK.out, q']; rfl
    clear q q'
    rw [hwk] at HC
    clear hwk HWK
    go_enter Tryz.func79, Tryz.ntmps79
    go_wp2_with (first
      | (go_at_call 97; refine (dt _).mono ?_; rintro e w1 ⟨y, m, d, rfl, hok, hy, hnum, hb1⟩; obtain ⟨hc1, hf1⟩ := bcell hb1; have hs1 : w.heap.size < w1.heap.size := (by have := hb1.size; simp at this; omega); have HS := HSE.out y m d hok hnum; clear hok hy hnum; rcases HS with ⟨g, hs⟩ | ⟨g, g', hs⟩ | ⟨g, g', hs⟩)
      | (go_at_call 98; refine (wd _).mono ?_; rintro e w2 ⟨rfl, h2⟩; have h2' := h2.symm; subst h2'))
    all_goals
      go_ret
      exact ⟨ret_int (by rw [HC.out, hs]; first | rw [E0.out] | rw [E1.out] | rw [E2.out] | rw [E3.out]), below_more (below_then (below_more (Below.refl _ _) _) hb1) _⟩
  · have b1 : (D == 0) = false := by simpa using q
    have b2 : (D == 6) = false := by simpa using q'
    have hwk : wkB day = false := by rw [HWK.out]; simp [q, q']
    clear q q'
    rw [hwk] at HC
    clear hwk HWK
    go_enter Tryz.func79, Tryz.ntmps79
    go_wp2_with (first
      | (go_at_call 97; refine (dt _).mono ?_; rintro e w1 ⟨y, m, d, rfl, hok, hy, hnum, hb1⟩; obtain ⟨hc1, hf1⟩ := bcell hb1; have hs1 : w.heap.size < w1.heap.size := (by have := hb1.size; simp at this; omega); have HS := HSE.out y m d hok hnum; clear hok hy hnum; rcases HS with ⟨g, hs⟩ | ⟨g, g', hs⟩ | ⟨g, g', hs⟩)
      | (go_at_call 98; refine (wd _).mono ?_; rintro e w2 ⟨rfl, h2⟩; have h2' := h2.symm; subst h2'))
    all_goals
      go_ret
      exact ⟨ret_int (by rw [HC.out, hs]; first | rw [E0.out] | rw [E1.out] | rw [E2.out] | rw [E3.out]), below_more (below_then (below_more (Below.refl _ _) _) hb1) _⟩

end Go.Proofs.YtjaffmmocbplaabGreatDoor
