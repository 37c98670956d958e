/-
  Filling what is missing, as plain mathematics. Nothing of the program is imported here.
-/
import Derived.Test.YtjaffmmocbplaabGreatDoorJVals
namespace Go.Proofs.YtjaffmmocbplaabGreatDoor.Fil
open Txt (Val)
set_option linter.unusedVariables false

def mAt (l : List Val) (i : Nat) : Bool := match l[i]? with | some x => x.m | none => false
def vAt (l : List Val) (i : Nat) : Val := match l[i]? with | some x => x | none => ⟨0, 0, false⟩
theorem mAt_some {l : List Val} {i : Nat} {x : Val} (h : l[i]? = some x) : mAt l i = x.m := by simp [mAt, h]
theorem vAt_some {l : List Val} {i : Nat} {x : Val} (h : l[i]? = some x) : vAt l i = x := by simp [vAt, h]
theorem mAt_lt {l : List Val} {i : Nat} (h : mAt l i = true) : i < l.length := by
  rcases Nat.lt_or_ge i l.length with g | g
  · exact g
  · simp [mAt, List.getElem?_eq_none g] at h
theorem get_ex {l : List Val} {i : Nat} (h : i < l.length) : l[i]? = some (vAt l i) := by
  unfold vAt; rw [List.getElem?_eq_getElem h]
theorem mAt_v {l : List Val} {i : Nat} (h : i < l.length) : mAt l i = (vAt l i).m := mAt_some (get_ex h)

/-- where a row of missing values ends that begins at i -/
def reF (l : List Val) : Nat → Nat → Nat
  | 0, i => i
  | f + 1, i => if mAt l i = true then reF l f (i + 1) else i
def re (l : List Val) (i : Nat) : Nat := reF l (l.length - i) i
theorem re_miss {l : List Val} {i : Nat} (h : mAt l i = true) : re l i = re l (i + 1) := by
  have := mAt_lt h
  unfold re
  rw [show l.length - i = (l.length - (i + 1)) + 1 by omega]
  show (if _ then _ else _) = _
  rw [if_pos h]
theorem re_not {l : List Val} {i : Nat} (h : mAt l i = false) : re l i = i := by
  unfold re
  cases l.length - i with
  | zero => rfl
  | succ f => show (if _ then _ else _) = _; rw [if_neg (by simp [h])]
theorem re_facts (l : List Val) : ∀ n i, l.length - i ≤ n → i ≤ l.length → i ≤ re l i ∧ re l i ≤ l.length ∧ mAt l (re l i) = false ∧ (∀ j, i ≤ j → j < re l i → mAt l j = true ∧ re l j = re l i)
  | n, i, hn, hi => by
    cases g : mAt l i
    · rw [re_not g]; exact ⟨Nat.le_refl _, hi, g, fun j h1 h2 => by omega⟩
    · have hlt := mAt_lt g
      rw [re_miss g]
      cases n with
      | zero => omega
      | succ n =>
        obtain ⟨a, b, c, d⟩ := re_facts l n (i + 1) (by omega) (by omega)
        refine ⟨by omega, b, c, fun j h1 h2 => ?_⟩
        rcases Nat.lt_or_ge i j with h | h
        · exact d j (by omega) h2
        · have : j = i := by omega
          subst this
          exact ⟨g, re_miss g⟩
theorem re_ge {l : List Val} {i : Nat} (hi : i ≤ l.length) : i ≤ re l i := (re_facts l _ i (Nat.le_refl _) hi).1
theorem re_le {l : List Val} {i : Nat} (hi : i ≤ l.length) : re l i ≤ l.length := (re_facts l _ i (Nat.le_refl _) hi).2.1
theorem re_end {l : List Val} {i : Nat} (hi : i ≤ l.length) : mAt l (re l i) = false := (re_facts l _ i (Nat.le_refl _) hi).2.2.1
theorem re_in {l : List Val} {i j : Nat} (hi : i ≤ l.length) (h1 : i ≤ j) (h2 : j < re l i) : mAt l j = true ∧ re l j = re l i := (re_facts l _ i (Nat.le_refl _) hi).2.2.2 j h1 h2
theorem re_gt {l : List Val} {i : Nat} (h : mAt l i = true) : i < re l i := by
  have := mAt_lt h
  rw [re_miss h]; have := re_ge (l := l) (i := i + 1) (by omega); omega

/-- the last value there, from i to the left -/
def lf (l : List Val) : Nat → Nat
  | 0 => 0
  | i + 1 => if mAt l (i + 1) then lf l i else i + 1
theorem lf_not {l : List Val} {i : Nat} (h : mAt l i = false) : lf l i = i := by
  cases i with
  | zero => rfl
  | succ i => simp [lf, h]
theorem lf_miss {l : List Val} {i : Nat} (h : mAt l (i + 1) = true) : lf l (i + 1) = lf l i := by simp [lf, h]
theorem lf_le (l : List Val) : ∀ i, lf l i ≤ i
  | 0 => Nat.le_refl _
  | i + 1 => by
    unfold lf; split
    · have := lf_le l i; omega
    · exact Nat.le_refl _
theorem lf_lt {l : List Val} {i : Nat} (h0 : mAt l 0 = false) (h : mAt l i = true) : lf l i < i := by
  cases i with
  | zero => rw [h0] at h; cases h
  | succ i => rw [lf_miss h]; have := lf_le l i; omega
theorem lf_end (l : List Val) (h0 : mAt l 0 = false) : ∀ i, mAt l (lf l i) = false
  | 0 => h0
  | i + 1 => by
    cases g : mAt l (i + 1)
    · rw [lf_not g]; exact g
    · rw [lf_miss g]; exact lf_end l h0 i
/-- in a row that begins behind a: the last value there is a -/
theorem lf_row {l : List Val} {a : Nat} (ha : mAt l a = false) : ∀ n, (∀ j, a < j → j ≤ a + n → mAt l j = true) → lf l (a + n) = a
  | 0, _ => lf_not ha
  | n + 1, h => by
    rw [show a + (n + 1) = (a + n) + 1 by omega, lf_miss (h _ (by omega) (by omega))]
    exact lf_row ha n (fun j h1 h2 => h j h1 (by omega))

/-- the first row of missing values that may not be filled; -1: there is none -/
def rowsF (l : List Val) (gap : Int) : Nat → Nat → Int
  | 0, _ => -1
  | f + 1, i => if i < l.length then (if mAt l i = true then (if i = 0 ∨ re l i = l.length ∨ gap < (re l i : Int) - i then i else rowsF l gap f (re l i)) else rowsF l gap f (i + 1)) else -1
def rows (l : List Val) (gap : Int) (i : Nat) : Int := rowsF l gap (l.length - i) i
theorem rowsF_eq (l : List Val) (gap : Int) : ∀ (f g i : Nat), l.length - i ≤ f → l.length - i ≤ g → rowsF l gap f i = rowsF l gap g i
  | 0, 0, i, _, _ => rfl
  | 0, g + 1, i, h, _ => by show -1 = (if _ then _ else _); rw [if_neg (by omega)]
  | f + 1, 0, i, _, h => by show (if _ then _ else _) = -1; rw [if_neg (by omega)]
  | f + 1, g + 1, i, h1, h2 => by
    show (if _ then _ else _) = (if _ then _ else _)
    by_cases hl : i < l.length
    · rw [if_pos hl, if_pos hl]
      by_cases hm : mAt l i = true
      · rw [if_pos hm, if_pos hm]
        have := re_gt hm
        rw [rowsF_eq l gap f g (re l i) (by omega) (by omega)]
      · rw [if_neg hm, if_neg hm, rowsF_eq l gap f g (i + 1) (by omega) (by omega)]
    · rw [if_neg hl, if_neg hl]
theorem rows_open {l : List Val} {gap : Int} {i : Nat} (h : i < l.length) : rows l gap i = if mAt l i = true then (if i = 0 ∨ re l i = l.length ∨ gap < (re l i : Int) - i then (i : Int) else rows l gap (re l i)) else rows l gap (i + 1) := by
  unfold rows
  rw [show l.length - i = (l.length - (i + 1)) + 1 by omega]
  show (if _ then _ else _) = _
  rw [if_pos h]
  by_cases hm : mAt l i = true
  · rw [if_pos hm, if_pos hm]
    have := re_gt hm
    rw [rowsF_eq l gap (l.length - (i + 1)) (l.length - re l i) (re l i) (by omega) (by omega)]
  · rw [if_neg hm, if_neg hm]
theorem rows_end {l : List Val} {gap : Int} {i : Nat} (h : ¬ i < l.length) : rows l gap i = -1 := by
  unfold rows; rw [show l.length - i = 0 by omega]; rfl
theorem rows_not {l : List Val} {gap : Int} {i : Nat} (hlt : i < l.length) (h : mAt l i = false) : rows l gap i = rows l gap (i + 1) := by
  rw [rows_open hlt, if_neg (by simp [h])]
theorem rows_bad {l : List Val} {gap : Int} {i : Nat} (h : mAt l i = true) (hb : i = 0 ∨ re l i = l.length ∨ gap < (re l i : Int) - i) : rows l gap i = i := by
  rw [rows_open (mAt_lt h), if_pos h, if_pos hb]
theorem rows_good {l : List Val} {gap : Int} {i : Nat} (h : mAt l i = true) (hb : ¬ (i = 0 ∨ re l i = l.length ∨ gap < (re l i : Int) - i)) : rows l gap i = rows l gap (re l i) := by
  rw [rows_open (mAt_lt h), if_pos h, if_neg hb]
/-- where there is no bad row, every row ends within -/
theorem rows_ok (l : List Val) (gap : Int) : ∀ n i, l.length - i ≤ n → rows l gap i = -1 → ∀ j, i ≤ j → j < l.length → re l j < l.length
  | n, i, hn, hr, j, h1, h2 => by
    have hlt : i < l.length := by omega
    cases n with
    | zero => omega
    | succ n =>
      cases g : mAt l i
      · rw [rows_not hlt g] at hr
        rcases Nat.lt_or_ge i j with h | h
        · exact rows_ok l gap n (i + 1) (by omega) hr j (by omega) h2
        · have : j = i := by omega
          subst this; rw [re_not g]; exact hlt
      · have hgt := re_gt g
        by_cases hb : i = 0 ∨ re l i = l.length ∨ gap < (re l i : Int) - i
        · rw [rows_bad g hb] at hr; omega
        · rw [rows_good g hb] at hr
          have hle := re_le (l := l) (i := i) (by omega)
          rcases Nat.lt_or_ge j (re l i) with h | h
          · rw [(re_in (by omega) h1 h).2]; omega
          · exact rows_ok l gap n (re l i) (by omega) hr j h h2
theorem rows_first {l : List Val} {gap : Int} (hr : rows l gap 0 = -1) : mAt l 0 = false := by
  cases g : mAt l 0
  · rfl
  · rw [rows_bad g (.inl rfl)] at hr; omega
theorem rows_rng (l : List Val) (gap : Int) : ∀ n i, l.length - i ≤ n → rows l gap i = -1 ∨ (0 ≤ rows l gap i ∧ rows l gap i < l.length)
  | n, i, hn => by
    by_cases hlt : i < l.length
    · cases n with
      | zero => omega
      | succ n =>
        cases g : mAt l i
        · rw [rows_not hlt g]; exact rows_rng l gap n (i + 1) (by omega)
        · have hgt := re_gt g
          by_cases hb : i = 0 ∨ re l i = l.length ∨ gap < (re l i : Int) - i
          · rw [rows_bad g hb]; omega
          · rw [rows_good g hb]; exact rows_rng l gap n _ (by omega)
    · exact .inl (rows_end hlt)
/-- a bad row has a missing value in it -/
theorem rows_miss (l : List Val) (gap : Int) : ∀ n i, l.length - i ≤ n → rows l gap i ≠ -1 → ∃ j, mAt l j = true
  | n, i, hn, hr => by
    by_cases hlt : i < l.length
    · cases n with
      | zero => omega
      | succ n =>
        cases g : mAt l i
        · rw [rows_not hlt g] at hr; exact rows_miss l gap n (i + 1) (by omega) hr
        · exact ⟨i, g⟩
    · exact absurd (rows_end hlt) hr

/-- a number between two -/
def btw (a b : Int) (i n : Int) : Int := a + ((b - a) * i) / n
theorem btw_one {a b i n : Int} (hn : 0 < n) : (a * (n - i) + b * i) / n = btw a b i n := by
  unfold btw
  rw [show a * (n - i) + b * i = (b - a) * i + n * a by rw [Int.mul_sub, Int.sub_mul, Int.mul_comm n a]; omega, Int.add_mul_ediv_left _ _ (by omega)]
  omega
theorem btw_in {a b i n : Int} (hn : 0 < n) (hi : 0 ≤ i) (hin : i ≤ n) : (a ≤ btw a b i n ∧ btw a b i n ≤ b) ∨ (b ≤ btw a b i n ∧ btw a b i n ≤ a) := by
  unfold btw
  rcases Int.le_total a b with h | h
  · left
    have h0 : 0 ≤ (b - a) * i := Int.mul_nonneg (by omega) hi
    have h1 : (b - a) * i ≤ (b - a) * n := Int.mul_le_mul_of_nonneg_left hin (by omega)
    have h2 : 0 ≤ (b - a) * i / n := Int.ediv_nonneg h0 (by omega)
    have h3 : (b - a) * i / n ≤ b - a := by
      have := Int.ediv_le_ediv hn h1
      rwa [Int.mul_ediv_cancel _ (by omega)] at this
    omega
  · right
    have h0 : (b - a) * i ≤ 0 := by
      have : 0 ≤ (a - b) * i := Int.mul_nonneg (by omega) hi
      have e : (b - a) * i = -((a - b) * i) := by rw [← Int.neg_mul]; congr 1; omega
      omega
    have h1 : (b - a) * n ≤ (b - a) * i := by
      have := Int.mul_le_mul_of_nonneg_left (c := a - b) hin (by omega)
      have e : (b - a) * i = -((a - b) * i) := by rw [← Int.neg_mul]; congr 1; omega
      have e' : (b - a) * n = -((a - b) * n) := by rw [← Int.neg_mul]; congr 1; omega
      omega
    have h2 : (b - a) * i / n ≤ 0 := by
      have := Int.ediv_le_ediv hn h0
      simpa using this
    have h3 : b - a ≤ (b - a) * i / n := by
      have := Int.ediv_le_ediv hn h1
      rwa [Int.mul_ediv_cancel _ (by omega)] at this
    omega

/-- value i, filled -/
def fv (l : List Val) (i : Nat) : Val :=
  if mAt l i then ⟨btw (vAt l (lf l i)).i (vAt l (re l i)).i ((i : Int) - lf l i) ((re l i : Int) - lf l i), btw (vAt l (lf l i)).o (vAt l (re l i)).o ((i : Int) - lf l i) ((re l i : Int) - lf l i), false⟩
  else vAt l i
def fl (l : List Val) (k : Nat) : List Val := (List.range k).map (fv l)
theorem fl_succ (l : List Val) (k : Nat) : fl l (k + 1) = fl l k ++ [fv l k] := by simp [fl, List.range_succ]
theorem fl_len (l : List Val) (k : Nat) : (fl l k).length = k := by simp [fl]
theorem fl_get {l : List Val} {k i : Nat} (h : i < k) : (fl l k)[i]? = some (fv l i) := by simp [fl, h]
theorem fv_not {l : List Val} {i : Nat} (h : mAt l i = false) : fv l i = vAt l i := by simp [fv, h]
theorem fv_m {l : List Val} {i : Nat} (hi : i < l.length) : (fv l i).m = false := by
  unfold fv; split
  · rfl
  · rename_i h; rw [← mAt_v hi]; simpa using h
/-- in a row between a and b -/
theorem fv_row {l : List Val} {at_ i : Nat} (ha : mAt l at_ = false) (hm : mAt l (at_ + 1) = true) (h1 : 1 ≤ i) (h2 : at_ + i < re l (at_ + 1)) :
    fv l (at_ + i) = ⟨btw (vAt l at_).i (vAt l (re l (at_ + 1))).i i ((re l (at_ + 1) : Int) - at_), btw (vAt l at_).o (vAt l (re l (at_ + 1))).o i ((re l (at_ + 1) : Int) - at_), false⟩ := by
  have hlt := mAt_lt hm
  have hmi := re_in (l := l) (i := at_ + 1) (j := at_ + i) (by omega) (by omega) h2
  have hl : lf l (at_ + i) = at_ := lf_row ha i (fun j g1 g2 => (re_in (l := l) (i := at_ + 1) (j := j) (by omega) (by omega) (by omega)).1)
  unfold fv
  rw [if_pos hmi.1, hl, hmi.2]
  rw [show ((at_ + i : Nat) : Int) - (at_ : Int) = (i : Int) by omega]
end Go.Proofs.YtjaffmmocbplaabGreatDoor.Fil
