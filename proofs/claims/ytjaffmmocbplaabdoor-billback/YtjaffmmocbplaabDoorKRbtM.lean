/-
  A bill's text and its lines. No program here.
-/
import Derived.Test.YtjaffmmocbplaabDoorK18
import Derived.Test.YtjaffmmocbplaabDoorK03
import Derived.Test.YtjaffmmocbplaabDoorK19
namespace Go.Proofs.YtjaffmmocbplaabDoor
set_option linter.unusedVariables false
open Bil
open Txt (byteAt Sc digB runD num take field fin seesB)

/-- how line i begins -/
def lW (i : Nat) : ByteArray := ⟨#[80]⟩ ++ fS (i : Int)
def lnF (f : Nat → Int) : Ln := ⟨f 0, f 1, f 2, f 3, f 4, f 5, f 6, f 7, f 8, f 9, f 10, f 11, f 12, f 13, f 14⟩
/-- behind the beginning of line i -/
def rbQ (t : ByteArray) (s : Sc) (i : Nat) : Sc := lits t s (bytes (lW i))
def rbV (t : ByteArray) (s : Sc) (i j : Nat) : Int := (field t 15 (fldS t 15 (rbQ t s i) j)).1
def rbN (t : ByteArray) (s : Sc) (i : Nat) : Ln := lnF (rbV t s i)
def rbE (t : ByteArray) (s : Sc) (i : Nat) : Sc := take t (fldS t 15 (rbQ t s i) 15) 10
/-- how the reader stands behind k lines; those lines -/
def rbS (t : ByteArray) : Nat → Sc
  | 0 => ⟨0, false⟩
  | k + 1 => rbE t (rbS t k) k
def rbL (t : ByteArray) : Nat → List Ln
  | 0 => []
  | k + 1 => rbL t k ++ [rbN t (rbS t k) k]
/-- is there another line to read behind k? -/
def rbB (t : ByteArray) (k : Nat) : Bool := !(rbS t k).bad && decide ((rbS t k).pos < t.size) && decide (k < 200)
structure EndsB (t : ByteArray) (n : Nat) : Prop where
  go : ∀ j, j < n → rbB t j = true
  no : rbB t n = false
theorem endsB_ex (t : ByteArray) : ∃ n, EndsB t n := by
  have h : ∀ k, k ≤ 200 → (∃ n, EndsB t n) ∨ ∀ j, j < k → rbB t j = true := fun k => by
    induction k with
    | zero => exact fun _ => .inr fun j hj => by omega
    | succ k ih =>
      intro hk
      rcases ih (by omega) with h | h
      · exact .inl h
      · cases q : rbB t k
        · exact .inl ⟨k, h, q⟩
        · refine .inr fun j hj => ?_
          rcases Nat.lt_or_ge j k with z | z
          · exact h j z
          · obtain rfl : j = k := by omega
            exact q
  rcases h 200 (Nat.le_refl _) with h | h
  · exact h
  · exact ⟨200, h, by simp [rbB]⟩
theorem EndsB.le {t : ByteArray} {n : Nat} (h : EndsB t n) : n ≤ 200 := by
  rcases Nat.lt_or_ge 200 n with q | q
  · have := h.go 200 q
    simp [rbB] at this
  · exact q
theorem rbQ_le {t : ByteArray} {s : Sc} {i : Nat} (h : s.pos ≤ t.size) : (rbQ t s i).pos ≤ t.size :=
  lits_le _ _ (fun c hc => by
    unfold bytes at hc
    obtain ⟨d, _, rfl⟩ := List.mem_map.mp hc
    omega) h
theorem rbE_le {t : ByteArray} {s : Sc} {i : Nat} (h : s.pos ≤ t.size) : (rbE t s i).pos ≤ t.size :=
  Txt.take_le (by omega) (fldS_le t 15 _ (rbQ_le h) 15)
theorem rbS_le (t : ByteArray) : ∀ k, (rbS t k).pos ≤ t.size
  | 0 => Nat.zero_le _
  | k + 1 => rbE_le (rbS_le t k)
theorem rbL_len (t : ByteArray) : ∀ k, (rbL t k).length = k
  | 0 => rfl
  | k + 1 => by show (rbL t k ++ [_]).length = _; rw [List.length_append, rbL_len t k]; rfl
/-- what ReadBill answers: the error, its place, the lines -/
def rbErr (t : ByteArray) (n : Nat) : Int := if 80000 < t.size then 1 else if (fin t (rbS t n)).bad then 2 else 0
def rbAt (t : ByteArray) (n : Nat) : Int := if 80000 < t.size then 0 else if (fin t (rbS t n)).bad then (fin t (rbS t n)).pos else 0
def rbR (t : ByteArray) (n : Nat) : List Ln := if rbErr t n = 0 then rbL t n else []
theorem rbR_len (t : ByteArray) {n : Nat} (h : n ≤ 200) : (rbR t n).length ≤ 200 := by
  unfold rbR; split
  · rw [rbL_len]; exact h
  · exact Nat.zero_le _

/-! ### what is printed is read -/
theorem num15 {t : ByteArray} {p : Nat} {n : Int} (h0 : 0 ≤ n) (h1 : n ≤ 999999999999999) (h : At t p (dS n)) (hx : digB (byteAt t (p + (dS n).size)) = false) : num t 15 ⟨p, false⟩ = (n, ⟨p + (dS n).size, false⟩) := by
  obtain ⟨m, rfl⟩ : ∃ m : Nat, n = m := ⟨n.toNat, by omega⟩
  have hf := dS_first m
  have h1' := dS_one m
  have hb := h 0 (by omega)
  rw [Nat.add_zero] at hb
  unfold Txt.num
  rw [if_neg (by simp)]
  rcases Nat.eq_zero_or_pos m with rfl | hm
  · rw [dig_small (by omega)] at hb ⊢
    rw [digit_byte (by omega)] at hb
    rw [if_pos (by rw [hb]; rfl)]; rfl
  · have := hf.2.2 hm
    rw [if_neg (by show ¬ byteAt t p = 48; omega), if_pos (by show digB (byteAt t p) = true; rw [Txt.digB_iff]; omega)]
    have r := run_on m h 15 (dS_len 14 m (by omega))
    show ((runD t 15 p 0).1, (⟨(runD t 15 p 0).2, false⟩ : Sc)) = _
    rw [r, run_stop hx]
theorem field15 {t : ByteArray} {p : Nat} {n : Int} (h0 : 0 ≤ n) (h1 : n ≤ 999999999999999) (h : At t p (fS n)) (hx : digB (byteAt t (p + (fS n).size)) = false) : field t 15 ⟨p, false⟩ = (n, ⟨p + (fS n).size, false⟩) := by
  have e : p + (fS n).size = p + 1 + (dS n).size := by unfold fS; rw [app_size]; show p + (1 + _) = _; omega
  rw [e] at hx ⊢
  unfold Txt.field
  rw [takeF (c := 32) h.left.one]
  exact num15 h0 h1 h.right hx
theorem litsL {t : ByteArray} : ∀ (l : List Int) (p : Nat), (∀ i, i < l.length → byteAt t (p + i) = l.getD i 0) → lits t ⟨p, false⟩ l = ⟨p + l.length, false⟩
  | [], p, _ => rfl
  | c :: l, p, h => by
    have h0 := h 0 (by simp)
    show lits t (take t ⟨p, false⟩ c) l = _
    rw [takeF (c := c) (by simpa using h0)]
    rw [litsL l (p + 1) (fun i hi => by
      have := h (i + 1) (by simpa using hi)
      rw [show p + 1 + i = p + (i + 1) by omega, this]; simp)]
    show (⟨p + 1 + l.length, false⟩ : Sc) = ⟨p + (l.length + 1), false⟩
    rw [show p + 1 + l.length = p + (l.length + 1) by omega]
theorem bytes_at (u : ByteArray) (i : Nat) (h : i < u.size) : (bytes u).getD i 0 = byteAt u i := by
  rw [byteAt_data]
  have h' : i < u.data.size := h
  rw [Array.getElem?_eq_getElem h']
  unfold bytes
  simp
  rw [Array.getElem?_eq_getElem h']; rfl
theorem litsF {t u : ByteArray} {p : Nat} (h : At t p u) : lits t ⟨p, false⟩ (bytes u) = ⟨p + u.size, false⟩ := by
  rw [litsL (bytes u) p (fun i hi => by
    rw [bytes_length] at hi
    rw [h i hi, bytes_at u i hi]), bytes_length]
theorem lK_pre {t : ByteArray} {p : Nat} {i : Int} {x : Ln} {n : Nat} (h : At t p (lK i x n)) : ∀ k, k ≤ n → At t p (lK i x (n - k))
  | 0, _ => h
  | k + 1, hk => by
    have ih := lK_pre h k (by omega)
    rw [show n - k = (n - (k + 1)) + 1 by omega] at ih
    exact At.left ih
theorem lK_at {t : ByteArray} {p : Nat} {i : Int} {x : Ln} {n k : Nat} (h : At t p (lK i x n)) (hk : k ≤ n) : At t p (lK i x k) := by
  have := lK_pre h (n - k) (by omega)
  rwa [show n - (n - k) = k by omega] at this
theorem fS_byte {t : ByteArray} {p : Nat} {n : Int} (h : At t p (fS n)) : byteAt t p = 32 := by
  have := h.left.one; exact this
theorem fldsB {t : ByteArray} {p i : Nat} {x : Ln} (hv : lvB x = true) (h : At t p (lT i x)) : ∀ k, k ≤ 15 → fldS t 15 (rbQ t ⟨p, false⟩ i) k = ⟨p + (lK i x k).size, false⟩ ∧ ∀ j, j < k → rbV t ⟨p, false⟩ i j = lq x j
  | 0, _ => by
    refine ⟨?_, fun j hj => by omega⟩
    show lits t ⟨p, false⟩ (bytes (lW i)) = _
    exact litsF (lK_at h.left (k := 0) (by omega))
  | k + 1, hk => by
    obtain ⟨ih, iv⟩ := fldsB hv h k (by omega)
    have b := lvB_bd hv k (by omega)
    have a1 : At t (p + (lK i x k).size) (fS (lq x k)) := At.right (lK_at h.left (k := k + 1) hk)
    have e1 : p + (lK i x (k + 1)).size = p + (lK i x k).size + (fS (lq x k)).size := by
      show p + (lK i x k ++ fS (lq x k)).size = _
      rw [app_size]; omega
    have nx : digB (byteAt t (p + (lK i x k).size + (fS (lq x k)).size)) = false := by
      rw [← e1]
      rcases Nat.lt_or_ge (k + 1) 15 with q | q
      · have a2 : At t (p + (lK i x (k + 1)).size) (fS (lq x (k + 1))) := At.right (lK_at h.left (k := k + 2) q)
        rw [fS_byte a2]; rfl
      · have : k + 1 = 15 := by omega
        rw [this, h.right.one]; rfl
    have f := field15 b.1 b.2 a1 nx
    refine ⟨?_, fun j hj => ?_⟩
    · show (field t 15 (fldS t 15 (rbQ t ⟨p, false⟩ i) k)).2 = _
      rw [ih, f, e1]
    · rcases Nat.lt_or_ge j k with q | q
      · exact iv j q
      · obtain rfl : j = k := by omega
        show (field t 15 (fldS t 15 (rbQ t ⟨p, false⟩ i) j)).1 = _
        rw [ih, f]
theorem lnF_eq {f : Nat → Int} {x : Ln} (h : ∀ j, j < 15 → f j = lq x j) : lnF f = x := by
  unfold lnF
  rw [h 0 (by omega), h 1 (by omega), h 2 (by omega), h 3 (by omega), h 4 (by omega), h 5 (by omega), h 6 (by omega), h 7 (by omega), h 8 (by omega), h 9 (by omega), h 10 (by omega), h 11 (by omega), h 12 (by omega), h 13 (by omega), h 14 (by omega)]
  rfl
theorem lineR {t : ByteArray} {p i : Nat} {x : Ln} (hv : lvB x = true) (h : At t p (lT i x)) : rbE t ⟨p, false⟩ i = ⟨p + (lT i x).size, false⟩ ∧ rbN t ⟨p, false⟩ i = x := by
  have h' : At t p (lK i x 15 ++ ⟨#[10]⟩) := h
  obtain ⟨a, b⟩ := fldsB hv h 15 (by omega)
  have e : (lT i x).size = (lK i x 15).size + 1 := by unfold lT; rw [app_size]; rfl
  have hn : byteAt t (p + (lK i x 15).size) = 10 := h'.right.one
  rw [e]
  obtain ⟨K, hK⟩ : ∃ K, K = (lK i x 15).size := ⟨_, rfl⟩
  rw [← hK] at a hn ⊢
  clear hK e h h'
  refine ⟨?_, ?_⟩
  · unfold rbE
    rw [a, takeF (c := 10) hn, Nat.add_assoc]
  · unfold rbN
    exact lnF_eq b
theorem pbK_pre {t : ByteArray} {l : List Ln} {n : Nat} (h : At t 0 (pbK l n)) : ∀ k, k ≤ n → At t 0 (pbK l (n - k))
  | 0, _ => h
  | k + 1, hk => by
    have ih := pbK_pre h k (by omega)
    rw [show n - k = (n - (k + 1)) + 1 by omega] at ih
    exact At.left ih
theorem pbK_at {t : ByteArray} {l : List Ln} {n k : Nat} (h : At t 0 (pbK l n)) (hk : k ≤ n) : At t 0 (pbK l k) := by
  have := pbK_pre h (n - k) (by omega)
  rwa [show n - (n - k) = k by omega] at this
theorem pbB_bd {l : List Ln} (h : pbB l = true) : l.length ≤ 200 ∧ ∀ j, j < l.length → lvB (lAt l j) = true := by
  unfold pbB at h
  rw [Bool.and_eq_true, decide_eq_true_eq] at h
  exact ⟨h.1, fun j hj => List.all_eq_true.mp h.2 _ (List.mem_of_getElem? (lAt_get hj))⟩
theorem lines_to {t : ByteArray} {l : List Ln} (h : pbB l = true) (ht : At t 0 (pbK l l.length)) : ∀ k, k ≤ l.length → rbS t k = ⟨(pbK l k).size, false⟩ ∧ rbL t k = l.take k
  | 0, _ => ⟨rfl, rfl⟩
  | k + 1, hk => by
    obtain ⟨a, b⟩ := lines_to h ht k (by omega)
    have hv := (pbB_bd h).2 k (by omega)
    have a1 : At t (0 + (pbK l k).size) (lT k (lAt l k)) := At.right (pbK_at ht hk)
    rw [Nat.zero_add] at a1
    obtain ⟨c, d⟩ := lineR hv a1
    refine ⟨?_, ?_⟩
    · show rbE t (rbS t k) k = _
      rw [a, c]
      show _ = (⟨(pbK l k ++ lT k (lAt l k)).size, false⟩ : Sc)
      rw [app_size]
    · show rbL t k ++ [rbN t (rbS t k) k] = _
      rw [b, a, d, take_snoc (lAt_get (by omega))]
theorem lT_pos (i : Int) (x : Ln) : 1 ≤ (lT i x).size := by
  unfold lT; rw [app_size]; show 1 ≤ _ + 1; omega
theorem pbK_mono {l : List Ln} {k : Nat} : ∀ n, k < n → (pbK l k).size < (pbK l n).size
  | 0, h => by omega
  | n + 1, h => by
    show _ < (pbK l n ++ lT n (lAt l n)).size
    rw [app_size]
    have := lT_pos n (lAt l n)
    rcases Nat.lt_or_ge k n with q | q
    · have := pbK_mono (l := l) n q; omega
    · obtain rfl : k = n := by omega
      omega
/-- a bill that can be printed is read again -/
theorem bill_forth {l : List Ln} (h : pbB l = true) : EndsB (pB l) l.length ∧ rbErr (pB l) l.length = 0 ∧ rbAt (pB l) l.length = 0 ∧ rbR (pB l) l.length = l ∧ (pB l).size ≤ 80000 := by
  have e : pB l = pbK l l.length := by unfold pB; rw [h]; rfl
  obtain ⟨h2, hv⟩ := pbB_bd h
  have sz := pbK_size (l := l) l.length h2 hv
  rw [e]
  have tl := lines_to h (At.self _)
  obtain ⟨a, b⟩ := tl l.length (Nat.le_refl _)
  have hs : ¬ 80000 < (pbK l l.length).size := by omega
  have hf : fin (pbK l l.length) (rbS (pbK l l.length) l.length) = ⟨(pbK l l.length).size, false⟩ := by
    rw [a]; unfold Txt.fin; rw [if_neg (by simp)]
  have z : rbErr (pbK l l.length) l.length = 0 := by unfold rbErr; rw [if_neg hs, hf]; rfl
  refine ⟨⟨fun j hj => ?_, ?_⟩, z, ?_, ?_, by omega⟩
  · have := (tl j (by omega)).1
    have := pbK_mono (l := l) (k := j) l.length hj
    unfold rbB
    rw [(tl j (by omega)).1]
    simp; omega
  · unfold rbB; rw [a]; simp
  · unfold rbAt; rw [if_neg hs, hf]; rfl
  · unfold rbR; rw [if_pos z, b, List.take_length]
end Go.Proofs.YtjaffmmocbplaabDoor
