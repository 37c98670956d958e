/-
  RowX, RdW in one text.
-/
import Derived.Test.YtjaffmmocbplaabGreatDoorJ04
namespace Go.Proofs.YtjaffmmocbplaabGreatDoor
open Go.RowKit
set_option linter.unusedVariables false

set_option maxHeartbeats 1000000 in
theorem validMeter_any (step start : Int) (v : Value) (l : List Txt.Val) (w : World) (h : VRow w v l) :
    Calls Tryz.prog 19 #[.agg #[.int .i64 step, .int .i64 start, v]] w fun e w' => e = .returned (.bool (meterB step start l)) ∧ Below w.heap.size w w' := by
  obtain ⟨a, cap, rfl⟩ := h.form
  by_cases hst : step = 15 ∨ step = 30 ∨ step = 60
  · cases hlen : inB (l.length : Int) 1 200
    case false =>
      have HB : Hid (meterB step start l = false) := by show _ = _; simp [meterB, hlen]
      rcases hst with rfl | rfl | rfl
      all_goals
        go_enter Tryz.func19, Tryz.ntmps19
        go_wp2_with (go_at_call 54; refine (within_any _ _ _ _).mono ?_; rintro e w' ⟨rfl, rfl⟩)
        go_ret
        exact ⟨ret_bool HB.out.symm, below_more (Below.refl _ _) _⟩
    case true =>
      obtain ⟨n1, n2⟩ := inB_iff.mp hlen
      cases hsa : inB start 0 (52596000 - step * (l.length : Int))
      case false =>
        have HB : Hid (meterB step start l = false) := by show _ = _; simp [meterB, hsa]
        rcases hst with rfl | rfl | rfl
        all_goals
          go_enter Tryz.func19, Tryz.ntmps19
          go_wp2_with (go_at_call 54; refine (within_any _ _ _ _).mono ?_; rintro e w' ⟨rfl, rfl⟩)
          go_ret
          exact ⟨ret_bool HB.out.symm, below_more (Below.refl _ _) _⟩
      case true =>
        obtain ⟨s1, s2⟩ := inB_iff.mp hsa
        by_cases hmod : start % step = 0
        case neg =>
          have hmodB : (start % step == 0) = false := by simpa using hmod
          have HB : Hid (meterB step start l = false) := by show _ = _; simp [meterB, hmod]
          clear hmod
          rcases hst with rfl | rfl | rfl
          all_goals
            go_enter Tryz.func19, Tryz.ntmps19
            go_wp2_with (go_at_call 54; refine (within_any _ _ _ _).mono ?_; rintro e w' ⟨rfl, rfl⟩)
            go_ret
            exact ⟨ret_bool HB.out.symm, below_more (Below.refl _ _) _⟩
        case pos =>
          have hmodB : (start % step != 0) = false := by simpa using hmod
          have HB : Hid (meterB step start l = l.all valB) := by
            show _ = _
            have : (decide (step = 15) || decide (step = 30) || decide (step = 60)) = true := by simpa [or_assoc] using hst
            simp [meterB, hlen, hsa, hmod, this]
          clear hmod
          rcases hst with rfl | rfl | rfl
          all_goals
            go_enter Tryz.func19, Tryz.ntmps19
            go_wp2_with (go_at_call 54; refine (within_any _ _ _ _).mono ?_; rintro e w' ⟨rfl, rfl⟩)
            go_loopw [4] (fun i wr => ∃ k : Nat, i = .int .i64 k ∧ k ≤ l.length ∧ (l.take k).all valB = true ∧ Below w.heap.size w wr ∧ w.heap.size < wr.heap.size ∧ wr.cell? ⟨w.heap.size, 2, none⟩ = some (.slice a l.length cap)) (fun i _ => l.length - (intOf i).toNat)
            case atStart => exact ⟨0, rfl, by omega, by simp, below_more (Below.refl _ _) _, by simp, by simp [go_sem]⟩
            case round =>
              obtain ⟨k, rfl, hk, hall, hbw, hsz, m2⟩ := hrel
              by_cases hlt : k < l.length
              · have hlt' : (k : Int) < (l.length : Int) := by omega
                have hk0 : (0 : Int) ≤ (k : Int) := by omega
                obtain ⟨x, hx⟩ : ∃ x, l[k]? = some x := ⟨l[k], List.getElem?_eq_getElem hlt⟩
                obtain ⟨b, off, rfl, hcap, hblt, c0, c1, c2⟩ := (h.below hbw).at hx
                have hcap' : (l.length : Int) ≤ (cap : Int) := by omega
                cases hvx : valB x
                case true =>
                  have HA : Hid ((l.take (k + 1)).all valB = true) := by show _ = _; rw [all_take_succ hx, hall, hvx]; rfl
                  clear hx h hall
                  go_wp2_with (go_at_call 55; refine (validValue_any x _).mono ?_; rintro e w1 ⟨rfl, hb1⟩; obtain ⟨hc1, hf1⟩ := bcell hb1)
                  go_roundw
                  case rel => exact ⟨k + 1, by go_num, by omega, HA.out, below_then hbw hb1, by have := hb1.size; omega, by rw [hc1 _ _ hsz]; exact m2⟩
                  case measure => simp [intOf]; omega
                case false =>
                  have HA : Hid (l.all valB = false) := all_of_false hx hvx
                  clear hx h hall
                  go_wp2_with (go_at_call 55; refine (validValue_any x _).mono ?_; rintro e w1 ⟨rfl, hb1⟩)
                  go_ret
                  exact ⟨ret_bool (by rw [HB.out, HA.out]), below_then hbw hb1⟩
              · have hlt' : ¬ (k : Int) < (l.length : Int) := by omega
                have HA : Hid (l.all valB = true) := by show _ = _; rw [List.take_of_length_le (by omega)] at hall; exact hall
                go_wp2_with fail
                go_ret
                exact ⟨ret_bool (by rw [HB.out, HA.out]), hbw⟩
  · have HB : Hid (meterB step start l = false) := by
      show _ = _
      have : (decide (step = 15) || decide (step = 30) || decide (step = 60)) = false := by simp; omega
      simp [meterB, this]
    have b1 : (step != 15) = true := by simp; omega
    have b2 : (step != 30) = true := by simp; omega
    have b3 : (step != 60) = true := by simp; omega
    clear hst
    go_enter Tryz.func19, Tryz.ntmps19
    go_wp2_with fail
    go_ret
    exact ⟨ret_bool HB.out.symm, below_more (Below.refl _ _) _⟩

end Go.Proofs.YtjaffmmocbplaabGreatDoor

namespace Go.Proofs.YtjaffmmocbplaabGreatDoor
open Go.RowKit
set_option linter.unusedVariables false

/-- what is read of a meter file, up to the last line: n values -/
def tailS (t : ByteArray) (s : Txt.Sc) : Int × Int × Txt.Sc :=
  ((Txt.field t 9 (Txt.take t s 84)).1, (Txt.field t 9 (Txt.field t 9 (Txt.take t s 84)).2).1, Txt.fin t (Txt.take t (Txt.field t 9 (Txt.field t 9 (Txt.take t s 84)).2).2 10))
theorem tailS_le {t : ByteArray} {s : Txt.Sc} (h : s.pos ≤ t.size) : (tailS t s).2.2.pos ≤ t.size := Txt.fin_le (Txt.take_le (by omega) (Txt.field_le (Txt.field_le (Txt.take_le (by omega) h))))
/-- where the values end -/
def Ends (t : ByteArray) (n : Nat) : Prop := (∀ k, k < n → Txt.stopB t (Txt.vS t (hd t ⟨0, false⟩).2.2 k) = false) ∧ Txt.stopB t (Txt.vS t (hd t ⟨0, false⟩).2.2 n) = true
def rdS (t : ByteArray) (n : Nat) : Txt.Sc := Txt.vS t (hd t ⟨0, false⟩).2.2 n
def rL (t : ByteArray) (n : Nat) : List Txt.Val := Txt.vL t (hd t ⟨0, false⟩).2.2 n
def rStep (t : ByteArray) : Int := (hd t ⟨0, false⟩).1
def rStart (t : ByteArray) : Int := (hd t ⟨0, false⟩).2.1
/-- the error and the place that ReadMeter answers, n values read -/
def rErr (t : ByteArray) (n : Nat) : Int :=
  if 8000 < t.size then 1 else if (tailS t (rdS t n)).2.2.bad then 2 else if meterB (rStep t) (rStart t) (rL t n) = false then 3
  else if (tailS t (rdS t n)).1 = (n : Int) ∧ (tailS t (rdS t n)).2.1 = sumL (rL t n) then 0 else 4
def rAt (t : ByteArray) (n : Nat) : Int :=
  if 8000 < t.size then 0 else if (tailS t (rdS t n)).2.2.bad then (tailS t (rdS t n)).2.2.pos else if meterB (rStep t) (rStart t) (rL t n) = false then 0
  else if (tailS t (rdS t n)).1 = (n : Int) ∧ (tailS t (rdS t n)).2.1 = sumL (rL t n) then 0 else (rdS t n).pos
/-- the meter file that it answers -/
def okN (t : ByteArray) (n : Nat) : Bool := decide (rErr t n = 0)
theorem rL_length (t : ByteArray) (n : Nat) : (rL t n).length = n := Txt.vL_length _ _ _

set_option maxHeartbeats 1000000 in
theorem ReadMeter_long (t : ByteArray) (w : World) (ht : 8000 < t.size) (ht' : t.size ≤ maxLen) :
    Calls Tryz.prog 7 #[.string t] w fun e w' => e = .returned (.tuple #[.agg #[.int .i64 0, .int .i64 0, .slice none 0 0], .int .i64 1, .int .i64 0]) ∧ Below w.heap.size w w' := by
  unfold maxLen at ht'
  have h1 : (8000 : Int) < (t.size : Int) := by omega
  go_enter Tryz.func7, Tryz.ntmps7
  go_wp2_with fail
  refine bodyPost_ret (v := .tuple #[.agg #[.int .i64 0, .int .i64 0, .slice none 0 0], .int .i64 1, .int .i64 0]) (by simp [results, Tryz.results7, go_sem]) rfl ⟨rfl, ?_⟩
  repeat (first | exact Below.refl _ _ | refine Below.setCell ?_ (by simp) _ | refine below_more ?_ _)

theorem ends_ex (t : ByteArray) : ∃ n, Ends t n := by
  apply Classical.byContradiction
  intro hno
  have hle : (hd t ⟨0, false⟩).2.2.pos ≤ t.size := hd_le (by show 0 ≤ t.size; omega)
  have all : ∀ n, ∀ k, k < n → Txt.stopB t (Txt.vS t (hd t ⟨0, false⟩).2.2 k) = false := by
    intro n
    induction n with
    | zero => intro k hk; omega
    | succ n ih =>
      intro k hk
      rcases Nat.lt_or_ge k n with g | g
      · exact ih k g
      · have e : k = n := by omega
        subst e
        cases q : Txt.stopB t (Txt.vS t (hd t ⟨0, false⟩).2.2 k)
        · rfl
        · exact absurd ⟨k, ih, q⟩ hno
  have h1 := Txt.vS_count hle (t.size + 1) (all _)
  have hs := all (t.size + 2) (t.size + 1) (by omega)
  have hb : (Txt.vS t (hd t ⟨0, false⟩).2.2 (t.size + 1)).bad = false := by simp [Txt.stopB] at hs; exact hs.1
  have h2 := h1.2 hb
  have h3 := Txt.vS_le hle (t.size + 1)
  omega

theorem meter_at (t : ByteArray) (n : Nat) (hn : Ends t n) (b : Nat) (w : World) (h : ScanAt w b t ⟨0, false⟩) (ht : t.size ≤ 100000) :
    Calls Tryz.prog 15 #[.pointer (some ⟨b, 0, none⟩)] w fun e w' => ∃ v, e = .returned (.agg #[.int .i64 (rStep t), .int .i64 (rStart t), v]) ∧
      w'.ownsRow w.heap.size 126 3 v n (vcs (rL t n)) ∧ w.grownBy w' (some b) ∧ ScanAt w' b t (rdS t n) := by
  refine (meter_any t ⟨0, false⟩ b w h (by show 0 ≤ t.size; omega) ht).mono ?_
  rintro e w' ⟨n', v, rfl, h1, h2, own, g, s⟩
  have : n = n' := Txt.stop_unique hn.1 hn.2 h1 h2
  subst this
  exact ⟨v, rfl, own, g, s⟩

theorem own_below {w w' : World} {base : Nat} {e : TypeId} {size : Nat} {v : Value} {n : Nat} {xs : List Value} (h : w.ownsRow base e size v n xs) (hb : Below w.heap.size w w') : w'.ownsRow base e size v n xs := by
  refine ⟨h.1, h.2.imp id ?_⟩
  rintro ⟨g, cap, cur, hv, hg, hh, r⟩
  have hlt : g < w.heap.size := by
    rcases Nat.lt_or_ge g w.heap.size with q | q
    · exact q
    · rw [Array.getElem?_eq_none q] at hh; cases hh
  exact ⟨g, cap, cur, hv, hg, (hb.block g hlt).trans hh, r⟩
theorem below_grown {w w' : World} {b : Nat} (h : w.grownBy w' (some b)) (hb : w.heap.size ≤ b) : Below w.heap.size w w' :=
  ⟨h.os, h.tape, h.output, h.size, fun k hk => h.block k hk (fun e => by cases e; omega)⟩

set_option maxRecDepth 1000000 in
set_option maxHeartbeats 1000000 in
theorem ReadMeter_bad (t : ByteArray) (n : Nat) (hn : Ends t n) (w : World) (ht : t.size ≤ 8000) (hbad : (tailS t (rdS t n)).2.2.bad = true) :
    Calls Tryz.prog 7 #[.string t] w fun e w' => e = .returned (.tuple #[.agg #[.int .i64 0, .int .i64 0, .slice none 0 0], .int .i64 2, .int .i64 (tailS t (rdS t n)).2.2.pos]) ∧ Below w.heap.size w w' := by
  have hb0 : ¬ w.heap.size = w.heap.size + 1 := by omega
  have h1 : ¬ (8000 : Int) < (t.size : Int) := by omega
  have hA : ScanAt ((w.alloc (.cells #[.int .i64 0, .int .i64 0, .slice none 0 0] 31)).alloc (.cells #[.string t, .int .i64 0, .bool false] 75)) (w.heap.size + 1) t ⟨0, false⟩ := ⟨by simp, by simp [go_sem], by simp [go_sem], by simp [go_sem], by simp [go_sem], by simp [go_sem]⟩
  have mt := fun w1 (h : ScanAt w1 (w.heap.size + 1) t ⟨0, false⟩) => meter_at t n hn (w.heap.size + 1) w1 h (by omega)
  have l0 : (rdS t n).pos ≤ t.size := Txt.vS_le (hd_le (by show 0 ≤ t.size; omega)) n
  have l1 : (Txt.take t (rdS t n) 84).pos ≤ t.size := Txt.take_le (by omega) l0
  have l2 : (Txt.field t 9 (Txt.take t (rdS t n) 84)).2.pos ≤ t.size := Txt.field_le l1
  have l3 : (Txt.field t 9 (Txt.field t 9 (Txt.take t (rdS t n) 84)).2).2.pos ≤ t.size := Txt.field_le l2
  have l4 : (Txt.take t (Txt.field t 9 (Txt.field t 9 (Txt.take t (rdS t n) 84)).2).2 10).pos ≤ t.size := Txt.take_le (by omega) l3
  have tk1 := fun W h => take_any t (rdS t n) 84 (w.heap.size + 1) W h (by omega) l0 (by omega)
  have fd1 := fun W h => field_any t (Txt.take t (rdS t n) 84) (w.heap.size + 1) W h l1 (by omega)
  have fd2 := fun W h => field_any t (Txt.field t 9 (Txt.take t (rdS t n) 84)).2 (w.heap.size + 1) W h l2 (by omega)
  have tk2 := fun W h => take_any t (Txt.field t 9 (Txt.field t 9 (Txt.take t (rdS t n) 84)).2).2 10 (w.heap.size + 1) W h (by omega) l3 (by omega)
  have en : ∀ w1, ScanAt w1 (w.heap.size + 1) t (Txt.take t (Txt.field t 9 (Txt.field t 9 (Txt.take t (rdS t n) 84)).2).2 10) → Calls Tryz.prog 18 #[.pointer (some ⟨w.heap.size + 1, 0, none⟩)] w1 fun e w' => e = .returned (.tuple #[]) ∧ w1.grownBy w' (some (w.heap.size + 1)) ∧ ScanAt w' (w.heap.size + 1) t (tailS t (rdS t n)).2.2 := fun w1 h1 => end_any t _ (w.heap.size + 1) w1 h1 l4 (by omega)
  obtain ⟨T, hT⟩ : ∃ T, T = tailS t (rdS t n) := ⟨_, rfl⟩
  have e1 : (Txt.field t 9 (Txt.take t (rdS t n) 84)).1 = T.1 := by rw [hT]; rfl
  have e2 : (Txt.field t 9 (Txt.field t 9 (Txt.take t (rdS t n) 84)).2).1 = T.2.1 := by rw [hT]; rfl
  rw [e1] at fd1
  rw [e2] at fd2
  rw [← hT] at en hbad ⊢
  clear e1 e2 hT l1 l2 l3 l4
  obtain ⟨R, hR⟩ : ∃ R, R = rdS t n := ⟨_, rfl⟩
  rw [← hR] at mt tk1 fd1 fd2 tk2 en l0
  obtain ⟨S1, hS1⟩ : ∃ S1, S1 = Txt.take t R 84 := ⟨_, rfl⟩
  rw [← hS1] at tk1 fd1 fd2 tk2 en
  obtain ⟨S2, hS2⟩ : ∃ S2, S2 = (Txt.field t 9 S1).2 := ⟨_, rfl⟩
  rw [← hS2] at fd1 fd2 tk2 en
  obtain ⟨S3, hS3⟩ : ∃ S3, S3 = (Txt.field t 9 S2).2 := ⟨_, rfl⟩
  rw [← hS3] at fd2 tk2 en
  obtain ⟨S4, hS4⟩ : ∃ S4, S4 = Txt.take t S3 10 := ⟨_, rfl⟩
  rw [← hS4] at tk2 en
  clear hS1 hS2 hS3 hS4 hR hn
  go_enter Tryz.func7, Tryz.ntmps7
  go_wp2_with (first
    | (go_at_call 15; refine (mt _ hA).mono ?_; rintro e w1 ⟨v, rfl, own1, g1, s1⟩; obtain ⟨a1, cap1, rfl⟩ := own_slice own1; obtain ⟨hc1, hf1⟩ := gcell g1; have hz1 : w.heap.size + 1 < w1.heap.size := (by have := g1.size; simp at this; omega); have hy1 : w.heap.size < w1.heap.size := (by omega); have q1 := s1.c1; have hn1 : ¬ w1.heap.size = w.heap.size + 1 := (by omega))
    | (go_at_call 16; have _ := g4; refine (tk2 _ s4).mono ?_; rintro e w5 ⟨rfl, g5, s5⟩; obtain ⟨hc5, hf5⟩ := gcell g5; have hz5 : w1.heap.size < w5.heap.size := (by have := g5.size; omega); have hy5 : w.heap.size < w5.heap.size := (by omega))
    | (go_at_call 16; refine (tk1 _ (s1.alloc _)).mono ?_; rintro e w2 ⟨rfl, g2, s2⟩; obtain ⟨hc2, hf2⟩ := gcell g2; have hz2 : w1.heap.size < w2.heap.size := (by have := g2.size; simp at this; omega); have hy2 : w.heap.size < w2.heap.size := (by omega))
    | (go_at_call 17; have _ := g3; refine (fd2 _ s3).mono ?_; rintro e w4 ⟨rfl, g4, s4⟩; obtain ⟨hc4, hf4⟩ := gcell g4; have hz4 : w1.heap.size < w4.heap.size := (by have := g4.size; omega); have hy4 : w.heap.size < w4.heap.size := (by omega))
    | (go_at_call 17; refine (fd1 _ s2).mono ?_; rintro e w3 ⟨rfl, g3, s3⟩; obtain ⟨hc3, hf3⟩ := gcell g3; have hz3 : w1.heap.size < w3.heap.size := (by have := g3.size; omega); have hy3 : w.heap.size < w3.heap.size := (by omega))
    | (go_at_call 18; refine (en _ s5).mono ?_; rintro e w6 ⟨rfl, g6, s6⟩; obtain ⟨hc6, hf6⟩ := gcell g6; have hz6 : w1.heap.size < w6.heap.size := (by have := g6.size; omega); have hy6 : w.heap.size < w6.heap.size := (by omega); have q6 := s6.c1; have p6 := s6.c2; rw [hbad] at p6; have O6 : w6.ownsRow (w.heap.size + 2) 126 3 (.slice a1 n cap1) n (vcs (rL t n)) := own_base (own_grown (own_grown (own_grown (own_grown (own_grown (own1.alloc _) g2 (by simp)) g3 (by simp)) g4 (by simp)) g5 (by simp)) g6 (by simp)) (by simp); have V6 : VRow w6 (.slice a1 n cap1) (rL t n) := VRow.of_own O6 (rL_length t n); have B6 : Below w.heap.size w w6 := (below_grown (grown_trans (grown_trans (grown_trans (grown_trans (grown_trans (grown_alloc (grown_trans (grown_alloc (grown_alloc (grown_refl w (some (w.heap.size + 1))) _) _) g1) _) g2) g3) g4) g5) g6) (by omega)); have r0 : w6.cell? ⟨w.heap.size, 0, none⟩ = some (.int .i64 0) := (by simp [go_sem, *]); have r1 : w6.cell? ⟨w.heap.size, 1, none⟩ = some (.int .i64 0) := (by simp [go_sem, *]); have r2 : w6.cell? ⟨w.heap.size, 2, none⟩ = some (.slice none 0 0) := (by simp [go_sem, *]); have rf0 : w6.frozen? ⟨w.heap.size, 0, none⟩ = false := (by simp [go_sem, *]); have rf1 : w6.frozen? ⟨w.heap.size, 1, none⟩ = false := (by simp [go_sem, *]); have rf2 : w6.frozen? ⟨w.heap.size, 2, none⟩ = false := (by simp [go_sem, *]); have m0 : w6.cell? ⟨w1.heap.size, 0, none⟩ = some (.int .i64 (rStep t)) := (by simp [go_sem, *]); have m1 : w6.cell? ⟨w1.heap.size, 1, none⟩ = some (.int .i64 (rStart t)) := (by simp [go_sem, *]); have m2 : w6.cell? ⟨w1.heap.size, 2, none⟩ = some (.slice a1 n cap1) := (by simp [go_sem, *]); clear hc1 hc2 hc3 hc4 hc5 hc6 hf1 hf2 hf3 hf4 hf5 hf6 hz1 hz2 hz3 hz4 hz5 hy1 hy2 hy3 hy4 hy5 g1 g2 g3 g4 g5 g6 s1 s2 s3 s4 s5 own1 q1))
  go_region
  all_goals
    go_wp2_with fail
    refine bodyPost_ret (v := .tuple #[.agg #[.int .i64 0, .int .i64 0, .slice none 0 0], .int .i64 2, .int .i64 T.2.2.pos]) (by simp [results, Tryz.results7, go_sem, r0, r1, r2]) rfl ⟨rfl, ?_⟩
    repeat (first | exact B6 | refine Below.setCell ?_ (by simp) _ | refine Below.drew ?_)

end Go.Proofs.YtjaffmmocbplaabGreatDoor
