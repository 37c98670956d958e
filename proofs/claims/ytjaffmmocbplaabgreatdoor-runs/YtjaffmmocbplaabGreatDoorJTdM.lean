/-
  Reading a tariff: as plain mathematics.
-/
import Derived.Test.YtjaffmmocbplaabGreatDoorJ05
import Derived.Test.YtjaffmmocbplaabGreatDoorJ13
namespace Go.Proofs.YtjaffmmocbplaabGreatDoor
set_option linter.unusedVariables false
/-- a line of a letter and n numbers -/
def lnS (t : ByteArray) (s : Txt.Sc) (c : Int) (n : Nat) : Txt.Sc := Txt.take t (fldS t 9 (Txt.take t s c) n) 10
def hrQ (t : ByteArray) (s : Txt.Sc) : Txt.Sc := Txt.take t (Txt.take t s 87) 32
/-- a line of 24 letters -/
def hrS (t : ByteArray) (s : Txt.Sc) : Txt.Sc := Txt.take t (chS t (hrQ t s) 24) 10
/-- number i of such a line -/
def lnV (t : ByteArray) (s : Txt.Sc) (c : Int) (i : Nat) : Int := (Txt.field t 9 (fldS t 9 (Txt.take t s c) i)).1
def nx (t : ByteArray) (k : Nat) (s : Txt.Sc) : Txt.Sc :=
  match k with
  | 0 => lnS t s 90 9
  | 1 => lnS t s 68 2
  | 2 => lnS t s 83 2
  | 3 => hrS t s
  | 4 => hrS t s
  | 5 => hrS t s
  | 6 => hrS t s
  | 7 => lnS t s 66 3
  | 8 => lnS t s 66 3
  | 9 => lnS t s 66 3
  | 10 => lnS t s 77 3
  | 11 => lnS t s 78 2
  | _ => lnS t s 70 3
/-- where the reader stands ahead of line k -/
def sT (t : ByteArray) : Nat → Txt.Sc
  | 0 => ⟨0, false⟩
  | k + 1 => nx t k (sT t k)
def hrP (t : ByteArray) (k : Nat) : ByteArray := strOfNums (chL t (hrQ t (sT t k)) 24)
def hrD (t : ByteArray) (k : Nat) : ByteArray := t.extract (hrQ t (sT t k)).pos (chS t (hrQ t (sT t k)) 24).pos
/-- what is read -/
def rdT (t : ByteArray) (h : Nat → ByteArray) : Trf :=
  ⟨⟨lnV t (sT t 0) 90 0 - 720, ⟨lnV t (sT t 0) 90 1, lnV t (sT t 0) 90 2, lnV t (sT t 0) 90 3, lnV t (sT t 0) 90 4⟩, ⟨lnV t (sT t 0) 90 5, lnV t (sT t 0) 90 6, lnV t (sT t 0) 90 7, lnV t (sT t 0) 90 8⟩⟩,
   lnV t (sT t 1) 68 0, lnV t (sT t 1) 68 1, lnV t (sT t 2) 83 0, lnV t (sT t 2) 83 1, h 3, h 4, h 5, h 6,
   ⟨lnV t (sT t 7) 66 0, lnV t (sT t 7) 66 1, lnV t (sT t 7) 66 2⟩, ⟨lnV t (sT t 8) 66 0, lnV t (sT t 8) 66 1, lnV t (sT t 8) 66 2⟩, ⟨lnV t (sT t 9) 66 0, lnV t (sT t 9) 66 1, lnV t (sT t 9) 66 2⟩,
   ⟨lnV t (sT t 10) 77 0, lnV t (sT t 10) 77 1, lnV t (sT t 10) 77 2⟩, lnV t (sT t 11) 78 0, lnV t (sT t 11) 78 1, lnV t (sT t 12) 70 0, lnV t (sT t 12) 70 1, lnV t (sT t 12) 70 2⟩
theorem lnV_bd (t : ByteArray) (s : Txt.Sc) (c : Int) (i : Nat) : 0 ≤ lnV t s c i ∧ lnV t s c i < 1000000000 := Txt.field_bd t 9 _

theorem lnS_le {t : ByteArray} {s : Txt.Sc} {c : Int} {n : Nat} (hc : 0 ≤ c) (h : s.pos ≤ t.size) : (lnS t s c n).pos ≤ t.size := Txt.take_le (by omega) (fldS_le t 9 _ (Txt.take_le hc h) n)
theorem hrQ_le {t : ByteArray} {s : Txt.Sc} (h : s.pos ≤ t.size) : (hrQ t s).pos ≤ t.size := Txt.take_le (by omega) (Txt.take_le (by omega) h)
theorem hrS_le {t : ByteArray} {s : Txt.Sc} (h : s.pos ≤ t.size) : (hrS t s).pos ≤ t.size := Txt.take_le (by omega) (chS_le (hrQ_le h) 24)
theorem nx_le {t : ByteArray} {s : Txt.Sc} (k : Nat) (h : s.pos ≤ t.size) : (nx t k s).pos ≤ t.size := by
  unfold nx; split <;> first | exact lnS_le (by omega) h | exact hrS_le h
theorem sT_le (t : ByteArray) : ∀ k, (sT t k).pos ≤ t.size
  | 0 => Nat.zero_le _
  | k + 1 => nx_le k (sT_le t k)

/-! ### who is bad stays bad -/
theorem fldS_bad {t : ByteArray} {s : Txt.Sc} (h : s.bad = true) : ∀ n, fldS t 9 s n = s
  | 0 => rfl
  | n + 1 => by
    show (Txt.field t 9 (fldS t 9 s n)).2 = s
    rw [fldS_bad h n]; unfold Txt.field; rw [Txt.take_bad h, Txt.num_bad h]
theorem lnS_bad {t : ByteArray} {s : Txt.Sc} {c : Int} {n : Nat} (h : s.bad = true) : lnS t s c n = s := by
  unfold lnS; rw [Txt.take_bad h, fldS_bad h, Txt.take_bad h]
theorem chS_bad0 {t : ByteArray} {s : Txt.Sc} (h : s.bad = true) (n : Nat) : chS t s n = s := by
  have := chS_bad (t := t) (s := s) (k := 0) h n
  rw [Nat.zero_add] at this; exact this
theorem hrS_bad {t : ByteArray} {s : Txt.Sc} (h : s.bad = true) : hrS t s = s := by
  unfold hrS hrQ; rw [Txt.take_bad h, Txt.take_bad h, chS_bad0 h, Txt.take_bad h]
theorem nx_bad {t : ByteArray} {s : Txt.Sc} (k : Nat) (h : s.bad = true) : nx t k s = s := by
  unfold nx; split <;> first | exact lnS_bad h | exact hrS_bad h
theorem sT_good {t : ByteArray} {n : Nat} (h : (sT t n).bad = false) : ∀ d, d ≤ n → (sT t (n - d)).bad = false
  | 0, _ => h
  | d + 1, hd => by
    have ih := sT_good h d (by omega)
    cases q : (sT t (n - (d + 1))).bad
    · rfl
    · have e : sT t (n - d) = nx t (n - (d + 1)) (sT t (n - (d + 1))) := by rw [show n - d = (n - (d + 1)) + 1 by omega]; rfl
      rw [e, nx_bad _ q, q] at ih; exact ih
theorem take_good {t : ByteArray} {s : Txt.Sc} {c : Int} (h : (Txt.take t s c).bad = false) : s.bad = false ∧ Txt.byteAt t s.pos = c ∧ (Txt.take t s c).pos = s.pos + 1 := by
  unfold Txt.take at h ⊢
  cases q : Txt.seesB t s c
  · rw [q] at h; simp at h
  · obtain ⟨h1, h2⟩ := Txt.seesB_iff.1 q
    exact ⟨h1, h2, by simp⟩
theorem take_ge {t : ByteArray} {s : Txt.Sc} {c : Int} : s.pos ≤ (Txt.take t s c).pos := by unfold Txt.take; split <;> simp
theorem num_ge {t : ByteArray} {s : Txt.Sc} (h : s.pos ≤ t.size) : s.pos ≤ (Txt.num t 9 s).2.pos := by
  unfold Txt.num
  split
  · exact Nat.le_refl _
  · split
    · simp
    · split
      · exact (Txt.runD_le t _ _ _ h).1
      · simp
theorem fldS_ge {t : ByteArray} {s : Txt.Sc} (h : s.pos ≤ t.size) : ∀ n, s.pos ≤ (fldS t 9 s n).pos
  | 0 => Nat.le_refl _
  | n + 1 => by
    have h1 := fldS_ge h n
    have h2 : (fldS t 9 s n).pos ≤ (Txt.take t (fldS t 9 s n) 32).pos := take_ge
    have h3 : (Txt.take t (fldS t 9 s n) 32).pos ≤ (Txt.num t 9 (Txt.take t (fldS t 9 s n) 32)).2.pos := num_ge (Txt.take_le (by omega) (fldS_le t 9 s h n))
    show s.pos ≤ (Txt.num t 9 (Txt.take t (fldS t 9 s n) 32)).2.pos
    omega
/-- a line ends in a newline, and holds no other -/
theorem lineAt_ln {t : ByteArray} {s : Txt.Sc} {c : Int} {n : Nat} (m : Nat) (hc : c ≠ 10) (h0 : 0 ≤ c) (h : s.pos ≤ t.size) (hb : (lnS t s c n).bad = false) : lineAt t s.pos (m + 1) = lineAt t (lnS t s c n).pos m := by
  unfold lnS at hb ⊢
  obtain ⟨h1, h2, h3⟩ := take_good hb
  have hlt : (fldS t 9 (Txt.take t s c) n).pos < t.size := Txt.lt_of_byteAt (by omega)
  have hge := fldS_ge (t := t) (s := Txt.take t s c) (Txt.take_le h0 h) n
  have hg2 := take_ge (t := t) (s := s) (c := c)
  rw [h3]
  exact lineAt_line (by omega) hlt (noNL_trans (noNL_take hc) (noNL_fldS t 9 _ n)) h2
theorem lineAt_hr {t : ByteArray} {s : Txt.Sc} (m : Nat) (h : s.pos ≤ t.size) (hb : (hrS t s).bad = false) : lineAt t s.pos (m + 1) = lineAt t (hrS t s).pos m := by
  unfold hrS at hb ⊢
  obtain ⟨h1, h2, h3⟩ := take_good hb
  have hlt : (chS t (hrQ t s) 24).pos < t.size := Txt.lt_of_byteAt (by omega)
  have hge := chS_mono (t := t) (s := hrQ t s) 24
  have hg2 := take_ge (t := t) (s := s) (c := 87)
  have hg3 := take_ge (t := t) (s := Txt.take t s 87) (c := 32)
  have hg4 : (Txt.take t (Txt.take t s 87) 32).pos = (hrQ t s).pos := rfl
  rw [h3]
  have n1 : noNL t s.pos (hrQ t s).pos := noNL_trans (noNL_take (t := t) (s := s) (c := 87) (by omega)) (noNL_take (t := t) (s := Txt.take t s 87) (c := 32) (by omega))
  exact lineAt_line (by omega) hlt (noNL_trans n1 (noNL_chS t _ 24)) h2
theorem lineAt_nx {t : ByteArray} {s : Txt.Sc} (m : Nat) (h : s.pos ≤ t.size) : ∀ k, (nx t k s).bad = false → lineAt t s.pos (m + 1) = lineAt t (nx t k s).pos m
  | 0, hg => lineAt_ln (c := 90) (n := 9) m (by omega) (by omega) h hg
  | 1, hg => lineAt_ln (c := 68) (n := 2) m (by omega) (by omega) h hg
  | 2, hg => lineAt_ln (c := 83) (n := 2) m (by omega) (by omega) h hg
  | 3, hg => lineAt_hr m h hg
  | 4, hg => lineAt_hr m h hg
  | 5, hg => lineAt_hr m h hg
  | 6, hg => lineAt_hr m h hg
  | 7, hg => lineAt_ln (c := 66) (n := 3) m (by omega) (by omega) h hg
  | 8, hg => lineAt_ln (c := 66) (n := 3) m (by omega) (by omega) h hg
  | 9, hg => lineAt_ln (c := 66) (n := 3) m (by omega) (by omega) h hg
  | 10, hg => lineAt_ln (c := 77) (n := 3) m (by omega) (by omega) h hg
  | 11, hg => lineAt_ln (c := 78) (n := 2) m (by omega) (by omega) h hg
  | k + 12, hg => lineAt_ln (c := 70) (n := 3) m (by omega) (by omega) h hg
theorem lineAt_sT {t : ByteArray} {n : Nat} (hg : (sT t n).bad = false) : ∀ k, k ≤ n → ∀ m, lineAt t 0 (k + m) = lineAt t (sT t k).pos m
  | 0, _, m => by rw [Nat.zero_add]; rfl
  | k + 1, hk, m => by
    have hb : (sT t (k + 1)).bad = false := by
      have := sT_good hg (n - (k + 1)) (by omega)
      rwa [show n - (n - (k + 1)) = k + 1 by omega] at this
    rw [show k + 1 + m = k + (m + 1) by omega, lineAt_sT hg k (by omega) (m + 1)]
    exact lineAt_nx m (sT_le t k) k hb
theorem lineAt_ok {t : ByteArray} {k : Nat} (hg : (sT t 13).bad = false) (hk : k ≤ 13) : lineAt t 0 k = (sT t k).pos := by
  have := lineAt_sT hg k hk 0
  rw [Nat.add_zero, lineAt_zero] at this; exact this

/-! ### the letters -/
theorem chS_good {t : ByteArray} {s : Txt.Sc} : ∀ n, (chS t s n).bad = false → (chS t s n).pos = s.pos + n ∧ ∀ i, i < n → 0 ≤ Txt.byteAt t (s.pos + i)
  | 0, _ => ⟨rfl, fun i hi => by omega⟩
  | n + 1, h => by
    have hb : (chS t s n).bad = false := by
      cases q : (chS t s n).bad
      · rfl
      · have : chS t s (n + 1) = chS t s n := chS_bad q 1
        rw [this, q] at h; exact h
    obtain ⟨h1, h2⟩ := chS_good n hb
    have e : chS t s (n + 1) = (cls t (chS t s n)).2 := rfl
    by_cases g : 65 ≤ Txt.byteAt t (chS t s n).pos ∧ Txt.byteAt t (chS t s n).pos ≤ 67
    · rw [e, cls_good hb g]
      refine ⟨by show (chS t s n).pos + 1 = _; omega, fun i hi => ?_⟩
      rcases Nat.lt_or_ge i n with q | q
      · exact h2 i q
      · have : i = n := by omega
        subst this; rw [← h1]; omega
    · rw [e, cls_none g] at h; simp at h
theorem chL_good {t : ByteArray} {s : Txt.Sc} : ∀ n, (chS t s n).bad = false → chL t s n = (List.range n).map fun i => Txt.byteAt t (s.pos + i)
  | 0, _ => rfl
  | n + 1, h => by
    have hb : (chS t s n).bad = false := by
      cases q : (chS t s n).bad
      · rfl
      · have : chS t s (n + 1) = chS t s n := chS_bad q 1
        rw [this, q] at h; exact h
    obtain ⟨h1, h2⟩ := chS_good n hb
    have e : chS t s (n + 1) = (cls t (chS t s n)).2 := rfl
    by_cases g : 65 ≤ Txt.byteAt t (chS t s n).pos ∧ Txt.byteAt t (chS t s n).pos ≤ 67
    · show chL t s n ++ [(cls t (chS t s n)).1] = _
      rw [cls_good hb g, chL_good n hb, List.range_succ, List.map_append, h1]; rfl
    · rw [e, cls_none g] at h; simp at h
theorem str_good {t : ByteArray} {s : Txt.Sc} (h : (chS t s 24).bad = false) : strOfNums (chL t s 24) = t.extract s.pos (chS t s 24).pos := by
  obtain ⟨h1, h2⟩ := chS_good 24 h
  have hsz : s.pos + 24 ≤ t.size := by have := Txt.lt_of_byteAt (h2 23 (by omega)); omega
  rw [chL_good 24 h, h1]
  apply ByteArray.ext
  apply Array.ext'
  have e1 : (strOfNums ((List.range 24).map fun i => Txt.byteAt t (s.pos + i))).data.toList = (List.range 24).map fun i => UInt8.ofNat (Txt.byteAt t (s.pos + i)).toNat := by rw [strOfNums_data, List.map_map]; rfl
  rw [e1]
  have e2 : (t.extract s.pos (s.pos + 24)).data.toList = (t.data.toList.drop s.pos).take 24 := by
    rw [ByteArray.data_extract, Array.toList_extract, List.extract_eq_take_drop, show s.pos + 24 - s.pos = 24 by omega]
  rw [e2]
  apply List.ext_getElem?
  intro i
  by_cases hi : i < 24
  · rw [List.getElem?_map, List.getElem?_range hi, List.getElem?_take_of_lt hi, List.getElem?_drop]
    have hl : s.pos + i < t.size := by omega
    show some (UInt8.ofNat (Txt.byteAt t (s.pos + i)).toNat) = _
    rw [Txt.byteAt_lt hl]
    have : t.data.toList[s.pos + i]? = some t[s.pos + i] := by
      rw [List.getElem?_eq_getElem (by simpa using hl)]; rfl
    rw [this]
    simp
  · rw [List.getElem?_eq_none (by simp; omega), List.getElem?_eq_none (by simp; omega)]
theorem hr_good {t : ByteArray} {k : Nat} (hk : 3 ≤ k) (hk' : k ≤ 6) (h : (sT t (k + 1)).bad = false) : hrP t k = hrD t k := by
  have e : sT t (k + 1) = hrS t (sT t k) := by
    show nx t k (sT t k) = _
    rcases (by omega : k = 3 ∨ k = 4 ∨ k = 5 ∨ k = 6) with rfl | rfl | rfl | rfl <;> rfl
  rw [e] at h
  exact str_good (take_good h).1
theorem rd_good {t : ByteArray} (h : (sT t 13).bad = false) : rdT t (hrP t) = rdT t (hrD t) := by
  have g : ∀ k, k ≤ 13 → (sT t k).bad = false := fun k hk => by
    have := sT_good h (13 - k) (by omega)
    rwa [show 13 - (13 - k) = k by omega] at this
  unfold rdT
  rw [hr_good (by omega) (by omega) (g 4 (by omega)), hr_good (by omega) (by omega) (g 5 (by omega)), hr_good (by omega) (by omega) (g 6 (by omega)), hr_good (by omega) (by omega) (g 7 (by omega))]
theorem hrP_size (t : ByteArray) (k : Nat) : (hrP t k).size = 24 := by unfold hrP; rw [strOfNums_size, chL_length]
theorem hrD_size (t : ByteArray) (k : Nat) : (hrD t k).size ≤ t.size := by unfold hrD; rw [ByteArray.size_extract]; omega
theorem fin_good {t : ByteArray} {s : Txt.Sc} (h : (Txt.fin t s).bad = false) : Txt.fin t s = s ∧ s.bad = false := by
  unfold Txt.fin at h ⊢
  split at h
  · simp at h
  · rename_i q; rw [if_neg q]; exact ⟨rfl, h⟩
end Go.Proofs.YtjaffmmocbplaabGreatDoor
