/-
  SplM, LetW in one text.
-/
import Derived.Test.YtjaffmmocbplaabDoorJPerY
import Derived.Test.YtjaffmmocbplaabDoorJ07
namespace Go.Proofs.YtjaffmmocbplaabDoor
open Txt (Val)
set_option linter.unusedVariables false

def mx (a b : Int) : Int := if b < a then a else b
def pI (p : Per) : Int := p.i0 + p.i1 + p.i2
def tI (l : List Per) : Int := l.foldl (fun s p => s + pI p) 0
def tO (l : List Per) : Int := l.foldl (fun s p => s + p.o) 0
def tP (l : List Per) : Int := l.foldl (fun s p => mx s p.pk) 0
def vI (l : List Val) : Int := l.foldl (fun s v => s + v.i) 0
def vO (l : List Val) : Int := l.foldl (fun s v => s + v.o) 0
def vP (step : Int) (l : List Val) : Int := l.foldl (fun s v => mx s (pw v step)) 0
theorem tI_snoc (l : List Per) (p : Per) : tI (l ++ [p]) = tI l + pI p := by simp [tI]
theorem tO_snoc (l : List Per) (p : Per) : tO (l ++ [p]) = tO l + p.o := by simp [tO]
theorem tP_snoc (l : List Per) (p : Per) : tP (l ++ [p]) = mx (tP l) p.pk := by simp [tP]
theorem vI_snoc (l : List Val) (p : Val) : vI (l ++ [p]) = vI l + p.i := by simp [vI]
theorem vO_snoc (l : List Val) (p : Val) : vO (l ++ [p]) = vO l + p.o := by simp [vO]
theorem vP_snoc (step : Int) (l : List Val) (p : Val) : vP step (l ++ [p]) = mx (vP step l) (pw p step) := by simp [vP]
theorem tP_nonneg (l : List Per) : 0 ≤ tP l := by
  suffices h : ∀ (l : List Per) (s : Int), 0 ≤ s → 0 ≤ l.foldl (fun s p => mx s p.pk) s from h l 0 (Int.le_refl _)
  intro l
  induction l with
  | nil => intro s h; exact h
  | cons p l ih => intro s h; exact ih _ (by show 0 ≤ mx s p.pk; unfold mx; split <;> omega)
theorem push_tot {days day : Int} (hd : 1 ≤ days) : ∀ (n : Nat) (s : PSt), (day + 1 - s.en).toNat ≤ n →
    tI (pushP days day s).dn + pI (pushP days day s).p = tI s.dn + pI s.p ∧ tO (pushP days day s).dn + (pushP days day s).p.o = tO s.dn + s.p.o ∧ mx (tP (pushP days day s).dn) (pushP days day s).p.pk = mx (tP s.dn) s.p.pk
  | n, s, hn => by
    by_cases g : s.en ≤ day
    · cases n with
      | zero => omega
      | succ n =>
        rw [push_go hd g]
        obtain ⟨a, b, c⟩ := push_tot (day := day) hd n ⟨s.dn ++ [s.p], per0, s.en + days⟩ (by simp only; omega)
        refine ⟨?_, ?_, ?_⟩
        · rw [a]; simp only [tI_snoc]; simp only [pI, per0]; omega
        · rw [b]; simp only [tO_snoc]; simp only [per0]; omega
        · rw [c]; simp only [tP_snoc]
          have := tP_nonneg s.dn
          simp only [mx, per0]; split <;> split <;> omega
    · rw [push_stop g]; exact ⟨rfl, rfl, rfl⟩
theorem run_tot {t : Trf} {step start : Int} {l : List Val} (ht : badN t = 13) : ∀ k, k ≤ l.length → (∀ j, j < k → okC t step start j = true) →
    tI (runP t step start l k).dn + pI (runP t step start l k).p = vI (l.take k) ∧ tO (runP t step start l k).dn + (runP t step start l k).p.o = vO (l.take k) ∧ mx (tP (runP t step start l k).dn) (runP t step start l k).p.pk = vP step (l.take k)
  | 0, _, _ => ⟨rfl, rfl, rfl⟩
  | k + 1, hk, hc => by
    obtain ⟨a, b, c⟩ := run_tot (step := step) (start := start) (l := l) ht k (by omega) (fun j hj => hc j (by omega))
    obtain ⟨d0, _⟩ := days_ok ht
    obtain ⟨e0, e1, e2, e3⟩ := okC_day (hc k (by omega))
    obtain ⟨p1, p2, p3⟩ := push_tot (day := dayAt t step start k) d0 _ (begP t step start (runP t step start l k) k) (Nat.le_refl _)
    have hb : (begP t step start (runP t step start l k) k).dn = (runP t step start l k).dn ∧ (begP t step start (runP t step start l k) k).p = (runP t step start l k).p := by unfold begP; split <;> exact ⟨rfl, rfl⟩
    rw [hb.1, hb.2] at p1 p2 p3
    have cb := clsOf_bd ht (day := dayAt t step start k) (hour := minAt t step start k / 60) (by omega) (by omega)
    have ht' : l.take (k + 1) = l.take k ++ [Fil.vAt l k] := by rw [List.take_add_one, Fil.get_ex (show k < l.length by omega)]; rfl
    rw [ht', vI_snoc, vO_snoc, vP_snoc, ← a, ← b, ← c, ← p1, ← p2, ← p3]
    show tI (stepP t step start l (runP t step start l k) k).dn + pI (stepP t step start l (runP t step start l k) k).p = _ ∧ tO (stepP t step start l (runP t step start l k) k).dn + (stepP t step start l (runP t step start l k) k).p.o = _ ∧ mx (tP (stepP t step start l (runP t step start l k) k).dn) (stepP t step start l (runP t step start l k) k).p.pk = _
    unfold stepP
    simp only [addV, pI]
    obtain ⟨C, hC⟩ : ∃ C, C = clsOf t (dayAt t step start k) (minAt t step start k / 60) := ⟨_, rfl⟩
    rw [← hC] at cb ⊢
    refine ⟨?_, by omega, ?_⟩
    · rcases (by omega : C = 0 ∨ C = 1 ∨ C = 2) with h | h | h <;> rw [h] <;> simp <;> omega
    · simp only [mx]; (repeat' split) <;> omega
theorem perL_tot {t : Trf} {step start : Int} {l : List Val} (ht : badN t = 13) (hc : ∀ j, j < l.length → okC t step start j = true) : tI (perL t step start l) = vI l ∧ tO (perL t step start l) = vO l ∧ tP (perL t step start l) = vP step l := by
  obtain ⟨a, b, c⟩ := run_tot ht l.length (Nat.le_refl _) hc
  rw [List.take_of_length_le (Nat.le_refl _)] at a b c
  unfold perL
  rw [tI_snoc, tO_snoc, tP_snoc]
  exact ⟨a, b, c⟩

/-- what is filled is valid -/
theorem fl_valB {l : List Val} {gap : Int} (hall : l.all valB = true) (hr : Fil.rows l gap 0 = -1) : (Fil.fl l l.length).all valB = true := by
  rw [List.all_eq_true]
  intro y hy
  obtain ⟨i, hi, rfl⟩ : ∃ i, i < l.length ∧ Fil.fv l i = y := by
    unfold Fil.fl at hy
    rw [List.mem_map] at hy
    obtain ⟨i, h1, h2⟩ := hy
    exact ⟨i, List.mem_range.1 h1, h2⟩
  have val : ∀ k, k < l.length → valB (Fil.vAt l k) = true := fun k hk => List.all_eq_true.mp hall _ (List.mem_of_getElem? (Fil.get_ex hk))
  cases g : Fil.mAt l i
  · rw [Fil.fv_not g]; exact val i hi
  · have h0 := Fil.rows_first hr
    have hlf := Fil.lf_lt h0 g
    have hgt := Fil.re_gt g
    have hre := Fil.rows_ok l gap _ 0 (Nat.le_refl _) hr i (by omega) hi
    obtain ⟨a1, a2⟩ := valB_bd (val (Fil.lf l i) (by omega))
    obtain ⟨b1, b2⟩ := valB_bd (val (Fil.re l i) hre)
    have c1 := Fil.btw_in (a := (Fil.vAt l (Fil.lf l i)).i) (b := (Fil.vAt l (Fil.re l i)).i) (i := (i : Int) - Fil.lf l i) (n := (Fil.re l i : Int) - Fil.lf l i) (by omega) (by omega) (by omega)
    have c2 := Fil.btw_in (a := (Fil.vAt l (Fil.lf l i)).o) (b := (Fil.vAt l (Fil.re l i)).o) (i := (i : Int) - Fil.lf l i) (n := (Fil.re l i : Int) - Fil.lf l i) (by omega) (by omega) (by omega)
    have hv : Fil.fv l i = ⟨Fil.btw (Fil.vAt l (Fil.lf l i)).i (Fil.vAt l (Fil.re l i)).i ((i : Int) - Fil.lf l i) ((Fil.re l i : Int) - Fil.lf l i), Fil.btw (Fil.vAt l (Fil.lf l i)).o (Fil.vAt l (Fil.re l i)).o ((i : Int) - Fil.lf l i) ((Fil.re l i : Int) - Fil.lf l i), false⟩ := by unfold Fil.fv; rw [if_pos g]
    rw [hv]
    simp only [valB, Bool.false_eq_true, if_false, Bool.and_eq_true, inB_iff]
    omega

def spE (t : Trf) (step start : Int) (l : List Val) : Int :=
  if meterB step start l then (if badN t < 13 then 5 else if fE step start t.gap l = 0 then ppE t step start (fL step start t.gap l) else fE step start t.gap l) else 3
def spA (t : Trf) (step start : Int) (l : List Val) : Int :=
  if meterB step start l then (if badN t < 13 then 0 else if fE step start t.gap l = 0 then ppA t step start (fL step start t.gap l) else fA step start t.gap l) else 0
def spL (t : Trf) (step start : Int) (l : List Val) : List Per :=
  if meterB step start l then (if badN t < 13 then [] else if fE step start t.gap l = 0 then ppL t step start (fL step start t.gap l) else []) else []
theorem meterB_step {step start : Int} {l : List Val} (h : meterB step start l = true) : (step = 15 ∨ step = 30 ∨ step = 60) ∧ 0 ≤ start ∧ start ≤ 52596000 := by
  have hf := meterB_fit h
  unfold meterB at h
  simp only [Bool.and_eq_true, Bool.or_eq_true, decide_eq_true_eq, inB_iff] at h
  obtain ⟨⟨⟨⟨h1, _⟩, h2⟩, _⟩, _⟩ := h
  refine ⟨by omega, h2.1, ?_⟩
  have := h2.2
  rcases (by omega : step = 15 ∨ step = 30 ∨ step = 60) with rfl | rfl | rfl <;> omega
end Go.Proofs.YtjaffmmocbplaabDoor

namespace Go.Proofs.YtjaffmmocbplaabDoor
open Go.RowKit
set_option linter.unusedVariables false
set_option linter.unusedSimpArgs false

set_option maxHeartbeats 400000 in
theorem validBlock_any (x y z : Int) (w : World) :
    Calls Tryd.prog 56 #[.agg #[.int .i64 x, .int .i64 y, .int .i64 z]] w fun e w' => e = .returned (.bool (inB x 0 1000000 && inB y 0 100000 && inB z 0 100000)) ∧ Below w.heap.size w w' := by
  cases h1 : inB x 0 1000000 <;> cases h2 : inB y 0 100000
  all_goals
    go_enter Tryd.func56, Tryd.ntmps56
    go_wp2_with (go_at_call 45; refine (within_any _ _ _ _).mono ?_; rintro e w' ⟨rfl, rfl⟩)
    go_ret
    exact ⟨ret_bool (by simp [h1, h2]), below_more (Below.refl _ _) _⟩

set_option maxHeartbeats 400000 in
theorem validDemand_any (x y z : Int) (w : World) :
    Calls Tryd.prog 57 #[.agg #[.int .i64 x, .int .i64 y, .int .i64 z]] w fun e w' => e = .returned (.bool (inB x 0 1000000 && inB y 0 100 && inB z 0 12)) ∧ Below w.heap.size w w' := by
  cases h1 : inB x 0 1000000 <;> cases h2 : inB y 0 100
  all_goals
    go_enter Tryd.func57, Tryd.ntmps57
    go_wp2_with (go_at_call 45; refine (within_any _ _ _ _).mono ?_; rintro e w' ⟨rfl, rfl⟩)
    go_ret
    exact ⟨ret_bool (by simp [h1, h2]), below_more (Below.refl _ _) _⟩

/-- the place behind k newlines, from a on -/
def lsF (t : ByteArray) : Nat → Nat → Nat → Nat
  | 0, a, _ => a
  | f + 1, a, k => if a < t.size ∧ 0 < k then lsF t f (a + 1) (if Txt.byteAt t a = 10 then k - 1 else k) else a
def lineAt (t : ByteArray) (a k : Nat) : Nat := lsF t (t.size - a) a k
theorem lineAt_zero (t : ByteArray) (a : Nat) : lineAt t a 0 = a := by
  unfold lineAt; cases t.size - a with
  | zero => rfl
  | succ f => show (if _ then _ else _) = _; rw [if_neg (by omega)]
theorem lineAt_end {t : ByteArray} {a k : Nat} (h : ¬ a < t.size) : lineAt t a k = a := by
  unfold lineAt; rw [show t.size - a = 0 by omega]; rfl
theorem lineAt_step {t : ByteArray} {a k : Nat} (h : a < t.size) (hk : 0 < k) : lineAt t a k = lineAt t (a + 1) (if Txt.byteAt t a = 10 then k - 1 else k) := by
  unfold lineAt; rw [show t.size - a = (t.size - (a + 1)) + 1 by omega]
  show (if _ then _ else _) = _
  rw [if_pos ⟨h, hk⟩]

set_option maxHeartbeats 1000000 in
theorem lineStart_any (t : ByteArray) (k : Nat) (w : World) (ht : t.size ≤ 100000) (hk : k ≤ 100) :
    Calls Tryd.prog 61 #[.string t, .int .i64 k] w fun e w' => e = .returned (.int .i64 (lineAt t 0 k)) ∧ w' = w := by
  obtain ⟨R, hR⟩ : ∃ R, R = lineAt t 0 k := ⟨_, rfl⟩
  rw [← hR]
  have HR : Hid (lineAt t 0 k = R) := hR.symm
  clear hR
  go_enter Tryd.func61, Tryd.ntmps61
  go_wp2_with fail
  go_loop [1, 5] (fun l i => ∃ a j : Nat, i = .int .i64 a ∧ l = .int .i64 j ∧ a ≤ t.size ∧ j ≤ 100 ∧ lineAt t a j = R) (fun _ i => t.size - (intOf i).toNat)
  case atStart => exact ⟨0, k, rfl, rfl, by omega, hk, HR.out⟩
  case round =>
    obtain ⟨a, j, rfl, rfl, ha, hj, hl⟩ := hrel
    by_cases hlt : a < t.size
    · have hlt' : (a : Int) < (t.size : Int) := by omega
      have ha0 : (0 : Int) ≤ (a : Int) := by omega
      by_cases hj0 : 0 < j
      · have hj0' : (0 : Int) < (j : Int) := by omega
        have e := lineAt_step hlt hj0
        rw [Txt.byteAt_lt hlt] at e
        by_cases h10 : (t[a].toNat : Int) = 10
        · have h10B : ((t[a].toNat : Int) == 10) = true := by simpa using h10
          have HL : Hid (lineAt t (a + 1) (j - 1) = R) := by rw [if_pos h10] at e; rw [← e]; exact hl
          clear e hl h10
          go_wp2_with fail
          go_round
          case rel => exact ⟨a + 1, j - 1, by go_num, by congr 1; omega, by omega, by omega, HL.out⟩
          case measure => simp [intOf]; omega
        · have h10B : ((t[a].toNat : Int) == 10) = false := by simpa using h10
          have HL : Hid (lineAt t (a + 1) j = R) := by rw [if_neg h10] at e; rw [← e]; exact hl
          clear e hl h10
          go_wp2_with fail
          go_round
          case rel => exact ⟨a + 1, j, by go_num, rfl, by omega, by omega, HL.out⟩
          case measure => simp [intOf]; omega
      · have hj0' : ¬ (0 : Int) < (j : Int) := by omega
        have HL : Hid (a = R) := by have : j = 0 := by omega
                                    rw [this, lineAt_zero] at hl; exact hl
        clear hl
        go_wp2_with fail
        go_ret
        exact ⟨ret_int (by rw [HL.out]), rfl⟩
    · have hlt' : ¬ (a : Int) < (t.size : Int) := by omega
      have HL : Hid (a = R) := by rw [lineAt_end hlt] at hl; exact hl
      clear hl
      go_wp2_with fail
      go_ret
      exact ⟨ret_int (by rw [HL.out]), rfl⟩

/-! no newline from a on up to b -/
def noNL (t : ByteArray) (a b : Nat) : Prop := ∀ i, a ≤ i → i < b → Txt.byteAt t i ≠ 10
theorem lineAt_skip {t : ByteArray} {a k : Nat} (hk : 0 < k) : ∀ (d : Nat), a + d ≤ t.size → noNL t a (a + d) → lineAt t a k = lineAt t (a + d) k
  | 0, _, _ => rfl
  | d + 1, h, hn => by
    rw [lineAt_skip hk d (by omega) (fun i h1 h2 => hn i h1 (by omega)), lineAt_step (show a + d < t.size by omega) hk, if_neg (hn (a + d) (by omega) (by omega))]
    rfl
/-- a line: nothing but its last byte is a newline -/
theorem lineAt_line {t : ByteArray} {a b k : Nat} (hab : a ≤ b) (hb : b < t.size) (hn : noNL t a b) (h10 : Txt.byteAt t b = 10) : lineAt t a (k + 1) = lineAt t (b + 1) k := by
  obtain ⟨d, rfl⟩ := Nat.exists_eq_add_of_le hab
  rw [lineAt_skip (by omega) d (by omega) hn, lineAt_step hb (by omega), if_pos h10]
  rfl
theorem noNL_trans {t : ByteArray} {a b c : Nat} (h : noNL t a b) (h' : noNL t b c) : noNL t a c := fun i h1 h2 => by
  rcases Nat.lt_or_ge i b with g | g
  · exact h i h1 g
  · exact h' i g h2
theorem noNL_refl (t : ByteArray) (a : Nat) : noNL t a a := fun i h1 h2 => by omega
theorem noNL_take {t : ByteArray} {s : Txt.Sc} {c : Int} (hc : c ≠ 10) : noNL t s.pos (Txt.take t s c).pos := by
  unfold Txt.take; split
  · rename_i g
    intro i h1 h2
    have : i = s.pos := by simp at h2; omega
    rw [this, (Txt.seesB_iff.mp g).2]; exact hc
  · exact noNL_refl _ _
theorem noNL_runD (t : ByteArray) : ∀ (k p : Nat) (n : Int), noNL t p (Txt.runD t k p n).2
  | 0, p, n => noNL_refl _ _
  | k + 1, p, n => by
    unfold Txt.runD; split
    · rename_i g
      have g' := Txt.digB_iff.mp g
      refine noNL_trans (b := p + 1) (fun i h1 h2 => ?_) (noNL_runD t k (p + 1) _)
      have : i = p := by omega
      rw [this]; omega
    · exact noNL_refl _ _
theorem noNL_num {t : ByteArray} {k : Nat} {s : Txt.Sc} : noNL t s.pos (Txt.num t k s).2.pos := by
  unfold Txt.num; split
  · exact noNL_refl _ _
  · split
    · rename_i g
      intro i h1 h2
      have : i = s.pos := by simp at h2; omega
      rw [this, g]; omega
    · split
      · exact noNL_runD t k s.pos 0
      · exact noNL_refl _ _
theorem noNL_field {t : ByteArray} {k : Nat} {s : Txt.Sc} : noNL t s.pos (Txt.field t k s).2.pos := noNL_trans (noNL_take (by omega)) noNL_num
theorem noNL_fldS (t : ByteArray) (m : Nat) (s : Txt.Sc) : ∀ n, noNL t s.pos (fldS t m s n).pos
  | 0 => noNL_refl _ _
  | n + 1 => noNL_trans (noNL_fldS t m s n) noNL_field
theorem noNL_chS (t : ByteArray) (s : Txt.Sc) : ∀ n, noNL t s.pos (chS t s n).pos
  | 0 => noNL_refl _ _
  | n + 1 => by
    refine noNL_trans (noNL_chS t s n) ?_
    show noNL t _ (cls t (chS t s n)).2.pos
    unfold cls; split
    · rename_i g
      have g' := clsB_bd g.2
      intro i h1 h2
      have : i = (chS t s n).pos := by simp at h2; omega
      rw [this]; omega
    · exact noNL_refl _ _

end Go.Proofs.YtjaffmmocbplaabDoor
