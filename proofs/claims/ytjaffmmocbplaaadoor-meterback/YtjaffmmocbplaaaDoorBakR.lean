/-
  What is printed of a meter file is read back, and a text that is read is what is printed of it. No program here.
-/
import Derived.Test.YtjaffmmocbplaaaDoorBakM
import Derived.Test.YtjaffmmocbplaaaDoorPrtY
import Derived.Test.YtjaffmmocbplaaaDoorRrW
namespace Go.Proofs.YtjaffmmocbplaaaDoor
set_option linter.unusedVariables false
open Txt (byteAt Sc digB runD num take field fin seesB)

theorem two_app (a b : UInt8) : (⟨#[a, b]⟩ : ByteArray) = ⟨#[a]⟩ ++ ⟨#[b]⟩ := by apply ByteArray.ext; simp
theorem vAt_vL (t : ByteArray) (s : Sc) (k : Nat) : ∀ n, k < n → Fil.vAt (Txt.vL t s n) k = (Txt.vstep t (Txt.vS t s k)).1
  | 0, h => absurd h (by omega)
  | n + 1, h => by
    apply Fil.vAt_some
    show (Txt.vL t s n ++ [(Txt.vstep t (Txt.vS t s n)).1])[k]? = _
    by_cases g : k < n
    · rw [List.getElem?_append_left (by rw [Txt.vL_length]; exact g), Fil.get_ex (by rw [Txt.vL_length]; exact g), vAt_vL t s k n g]
    · obtain rfl : k = n := by omega
      rw [List.getElem?_append_right (by rw [Txt.vL_length]; omega), Txt.vL_length, Nat.sub_self]; rfl
theorem vstep_back {t : ByteArray} {s : Sc} (h : (Txt.vstep t s).2.bad = false) : St t s (vS (Txt.vstep t s).1) (Txt.vstep t s).2 := by
  unfold Txt.vstep at h ⊢
  split
  · rename_i g
    rw [if_pos g] at h
    obtain ⟨g1, g2⟩ := Txt.seesB_iff.mp g
    have a := take_back (c := 10) (s := ⟨s.pos + 1, false⟩) h
    show St t s (⟨#[45, 10]⟩) (take t ⟨s.pos + 1, false⟩ 10)
    rw [two_app]
    exact St.app (s' := ⟨s.pos + 1, false⟩) ⟨g1, At.mk1 g2, rfl⟩ a
  · rename_i g
    rw [if_neg g] at h
    have a := take_back (c := 10) (s := (field t 9 (num t 9 s).2).2) h
    have b := field_back a.good
    have c := num_back b.good
    exact (c.app b).app a
theorem hd_back {t : ByteArray} {s : Sc} (h : (hd t s).2.2.bad = false) : St t s (⟨#[72]⟩ ++ fS (hd t s).1 ++ fS (hd t s).2.1 ++ ⟨#[10]⟩) (hd t s).2.2 := by
  have a := take_back (c := 10) (s := (field t 9 (field t 9 (take t s 72)).2).2) h
  have b := field_back a.good
  have c := field_back b.good
  have d := take_back (c := 72) (s := s) c.good
  exact ((d.app c).app b).app a
theorem vS_good {t : ByteArray} {s : Sc} {n : Nat} (h : (Txt.vS t s n).bad = false) : ∀ k, k ≤ n → (Txt.vS t s (n - k)).bad = false
  | 0, _ => h
  | k + 1, hk => by
    have ih := vS_good h k (by omega)
    obtain ⟨m, hm⟩ : ∃ m, n - k = m + 1 := ⟨n - k - 1, by omega⟩
    have e : n - (k + 1) = m := by omega
    rw [hm] at ih
    rw [e]
    exact (vstep_back (t := t) (s := Txt.vS t s m) ih).good
theorem read_to {t : ByteArray} {n : Nat} (h : (rdS t n).bad = false) : ∀ k, k ≤ n → St t ⟨0, false⟩ (mK (rStep t) (rStart t) (rL t n) k) (rdS t k)
  | 0, _ => hd_back (vS_good (n := n) h n (Nat.le_refl _) |> fun q => by rw [Nat.sub_self] at q; exact q)
  | k + 1, hk => by
    have ih := read_to h k (by omega)
    have q := vS_good (n := n) h (n - (k + 1)) (by omega)
    have e : n - (n - (k + 1)) = k + 1 := by omega
    rw [e] at q
    have b := vstep_back (t := t) (s := Txt.vS t (hd t ⟨0, false⟩).2.2 k) q
    have ev : Fil.vAt (rL t n) k = (Txt.vstep t (Txt.vS t (hd t ⟨0, false⟩).2.2 k)).1 := vAt_vL t _ k n (by omega)
    show St t ⟨0, false⟩ (mK (rStep t) (rStart t) (rL t n) k ++ vS (Fil.vAt (rL t n) k)) _
    rw [ev]
    exact ih.app b
theorem rErr_zero {t : ByteArray} {n : Nat} (h : rErr t n = 0) : t.size ≤ 8000 ∧ (tailS t (rdS t n)).2.2.bad = false ∧ meterB (rStep t) (rStart t) (rL t n) = true ∧ (tailS t (rdS t n)).1 = (n : Int) ∧ (tailS t (rdS t n)).2.1 = sumL (rL t n) := by
  unfold rErr at h
  split at h
  · omega
  · rename_i h1
    split at h
    · omega
    · rename_i h2
      split at h
      · omega
      · rename_i h3
        split at h
        · rename_i h4
          exact ⟨by omega, by simpa using h2, by simpa using h3, h4.1, h4.2⟩
        · omega
/-- a text that is read is what is printed of it -/
theorem meter_back {t : ByteArray} {n : Nat} (h : rErr t n = 0) : t = mS (rStep t) (rStart t) (rL t n) ∧ meterB (rStep t) (rStart t) (rL t n) = true := by
  obtain ⟨h1, h2, h3, h4, h5⟩ := rErr_zero h
  refine ⟨?_, h3⟩
  obtain ⟨T, hT⟩ : ∃ T, T = take t (field t 9 (field t 9 (take t (rdS t n) 84)).2).2 10 := ⟨_, rfl⟩
  have hf : (fin t T).bad = false := by rw [hT]; exact h2
  have hp : ¬ T.pos < t.size ∧ T.bad = false := by
    unfold Txt.fin at hf
    split at hf
    · cases hf
    · rename_i q; exact ⟨q, hf⟩
  have a := take_back (c := 10) (s := (field t 9 (field t 9 (take t (rdS t n) 84)).2).2) (by rw [hT] at hp; exact hp.2)
  have b := field_back a.good
  have c := field_back b.good
  have d := take_back (c := 84) (s := rdS t n) c.good
  have e := read_to d.good n (Nat.le_refl _)
  have all := (((e.app d).app c).app b).app a
  have e1 : (field t 9 (take t (rdS t n) 84)).1 = (n : Int) := h4
  have e2 : (field t 9 (field t 9 (take t (rdS t n) 84)).2).1 = sumL (rL t n) := h5
  rw [e1, e2] at all
  have e3 : mS (rStep t) (rStart t) (rL t n) = mK (rStep t) (rStart t) (rL t n) n ++ ⟨#[84]⟩ ++ fS n ++ fS (sumL (rL t n)) ++ ⟨#[10]⟩ := by
    unfold mS; rw [rL_length]
  rw [← e3] at all
  have hn := all.next
  have hi := all.at_.inside (Nat.zero_le _)
  refine all.at_.whole ?_
  have hn' : T = ⟨0 + (mS (rStep t) (rStart t) (rL t n)).size, false⟩ := by rw [hT]; exact hn
  have hq := hp.1
  rw [hn'] at hq
  have hi' : 0 + (mS (rStep t) (rStart t) (rL t n)).size ≤ t.size := hi
  have hq' : ¬ 0 + (mS (rStep t) (rStart t) (rL t n)).size < t.size := hq
  omega

/-! ### what is printed is read -/
theorem vS_first {x : Txt.Val} (h : valB x = true) : (x.m = true ∧ byteAt (vS x) 0 = 45) ∨ (x.m = false ∧ 48 ≤ byteAt (vS x) 0 ∧ byteAt (vS x) 0 ≤ 57) := by
  obtain ⟨b1, b2⟩ := valB_bd h
  unfold vS
  cases hm : x.m
  · right
    refine ⟨rfl, ?_⟩
    obtain ⟨k, hk⟩ : ∃ k : Nat, x.i = k := ⟨x.i.toNat, by omega⟩
    have f := dS_first k
    have o := dS_one k
    rw [if_neg (by simp), byteAt_left (by rw [app_size, hk]; omega), byteAt_left (by rw [hk]; omega), hk]
    exact ⟨f.1, f.2.1⟩
  · left
    refine ⟨rfl, ?_⟩
    rw [if_pos rfl, two_app, byteAt_left (by show 0 < 1; omega), byteAt_one]; rfl
theorem vS_pos {x : Txt.Val} (h : valB x = true) : 1 ≤ (vS x).size ∧ (vS x).size ≤ 20 := by
  obtain ⟨b1, b2⟩ := valB_bd h
  unfold vS
  split
  · show 1 ≤ 2 ∧ 2 ≤ 20; omega
  · obtain ⟨k, hk⟩ : ∃ k : Nat, x.i = k := ⟨x.i.toNat, by omega⟩
    obtain ⟨j, hj⟩ : ∃ j : Nat, x.o = j := ⟨x.o.toNat, by omega⟩
    have l1 := dS_len 8 k (by omega)
    have l2 := dS_len 8 j (by omega)
    have o := dS_one k
    unfold fS
    rw [app_size, app_size, app_size, hk, hj]
    show 1 ≤ _ + (1 + _) + 1 ∧ _ + (1 + _) + 1 ≤ 20
    omega
theorem vstepF {t : ByteArray} {p : Nat} {x : Txt.Val} (hv : valB x = true) (h : At t p (vS x)) : Txt.vstep t ⟨p, false⟩ = (x, ⟨p + (vS x).size, false⟩) := by
  obtain ⟨b1, b2⟩ := valB_bd hv
  have hf := vS_first hv
  have hz := (vS_pos hv).1
  have h0 := h 0 (by omega)
  rw [Nat.add_zero] at h0
  unfold Txt.vstep
  cases hm : x.m
  · have h0' : 48 ≤ byteAt t p ∧ byteAt t p ≤ 57 := by
      rcases hf with ⟨q, _⟩ | ⟨_, q⟩
      · rw [hm] at q; cases q
      · omega
    rw [if_neg (by rw [Txt.seesB_iff]; show ¬ (_ ∧ byteAt t p = 45); omega)]
    have e : vS x = dS x.i ++ fS x.o ++ ⟨#[10]⟩ := by unfold vS; rw [hm]; rfl
    rw [e] at h ⊢
    have hd1 := h.left.left
    have hd2 := h.left.right
    have hd3 := h.right.one
    rw [app_size] at hd3
    have n1 : num t 9 ⟨p, false⟩ = (x.i, ⟨p + (dS x.i).size, false⟩) := numF b1.1 b1.2 hd1 (by
      have := hd2.left.one
      rw [this]; rfl)
    have n2 : field t 9 ⟨p + (dS x.i).size, false⟩ = (x.o, ⟨p + (dS x.i).size + (fS x.o).size, false⟩) := fieldF b2.1 b2.2 hd2 (by
      rw [Nat.add_assoc, hd3]; rfl)
    rw [n1]
    show ((⟨x.i, (field t 9 ⟨p + (dS x.i).size, false⟩).1, false⟩ : Txt.Val), take t (field t 9 ⟨p + (dS x.i).size, false⟩).2 10) = _
    rw [n2]
    show ((⟨x.i, x.o, false⟩ : Txt.Val), take t ⟨p + (dS x.i).size + (fS x.o).size, false⟩ 10) = _
    rw [takeF (c := 10) (by rw [Nat.add_assoc, hd3]; rfl), app_size, app_size]
    obtain ⟨xi, xo, xm⟩ := x
    simp only at hm
    subst hm
    congr 2
    show p + (dS xi).size + (fS xo).size + 1 = p + ((dS xi).size + (fS xo).size + 1)
    omega
  · have hx : x = ⟨0, 0, true⟩ := by
      unfold valB at hv; rw [if_pos hm] at hv
      simp at hv
      obtain ⟨xi, xo, xm⟩ := x
      simp only at hm hv
      rw [hm, hv.1, hv.2]
    subst hx
    have e : vS ⟨0, 0, true⟩ = ⟨#[45]⟩ ++ ⟨#[10]⟩ := two_app _ _
    rw [e] at h ⊢
    rw [if_pos (Txt.seesB_iff.mpr ⟨rfl, h.left.one⟩)]
    show ((⟨0, 0, true⟩ : Txt.Val), take t ⟨p + 1, false⟩ 10) = _
    rw [show take t ⟨p + 1, false⟩ 10 = ⟨p + 1 + 1, false⟩ from takeF (c := 10) h.right.one]
    rfl
theorem hdF {t : ByteArray} {a b : Int} (a0 : 0 ≤ a) (a1 : a ≤ 999999999) (b0 : 0 ≤ b) (b1 : b ≤ 999999999) (h : At t 0 (⟨#[72]⟩ ++ fS a ++ fS b ++ ⟨#[10]⟩)) : hd t ⟨0, false⟩ = (a, b, ⟨(⟨#[72]⟩ ++ fS a ++ fS b ++ ⟨#[10]⟩ : ByteArray).size, false⟩) := by
  have h1 := h.left.left.left.one
  have h2 := h.left.left.right
  have h3 := h.left.right
  have h4 := h.right.one
  rw [app_size, app_size] at h4
  rw [app_size] at h3
  have t1 : take t ⟨0, false⟩ 72 = ⟨0 + 1, false⟩ := takeF (c := 72) h1
  have f1 : field t 9 ⟨0 + 1, false⟩ = (a, ⟨0 + 1 + (fS a).size, false⟩) := fieldF a0 a1 h2 (by
    have q := h3.left.one
    rw [show 0 + 1 + (fS a).size = 0 + ((⟨#[72]⟩ : ByteArray).size + (fS a).size) from Nat.add_assoc _ _ _, q]; rfl)
  have f2 : field t 9 ⟨0 + 1 + (fS a).size, false⟩ = (b, ⟨0 + 1 + (fS a).size + (fS b).size, false⟩) := fieldF b0 b1 (by rw [Nat.add_assoc]; exact h3) (by
    rw [show 0 + 1 + (fS a).size + (fS b).size = 0 + ((⟨#[72]⟩ : ByteArray).size + (fS a).size + (fS b).size) from by rw [Nat.add_assoc, Nat.add_assoc, Nat.add_assoc]; rfl, h4]; rfl)
  have t2 : take t ⟨0 + 1 + (fS a).size + (fS b).size, false⟩ 10 = ⟨0 + 1 + (fS a).size + (fS b).size + 1, false⟩ := takeF (by
    rw [show 0 + 1 + (fS a).size + (fS b).size = 0 + ((⟨#[72]⟩ : ByteArray).size + (fS a).size + (fS b).size) from by rw [Nat.add_assoc, Nat.add_assoc, Nat.add_assoc]; rfl, h4]; rfl)
  unfold hd
  rw [t1, f1]
  dsimp only
  rw [f2]
  dsimp only
  rw [t2, app_size, app_size, app_size]
  have e : 0 + 1 + (fS a).size + (fS b).size + 1 = (⟨#[72]⟩ : ByteArray).size + (fS a).size + (fS b).size + (⟨#[10]⟩ : ByteArray).size := by
    show _ = 1 + _ + _ + 1; omega
  rw [e]
theorem mK_pre {t : ByteArray} {step start : Int} {l : List Txt.Val} {n : Nat} (h : At t 0 (mK step start l n)) : ∀ k, k ≤ n → At t 0 (mK step start l (n - k))
  | 0, _ => h
  | k + 1, hk => by
    have ih := mK_pre h k (by omega)
    obtain ⟨m, hm⟩ : ∃ m, n - k = m + 1 := ⟨n - k - 1, by omega⟩
    have e : n - (k + 1) = m := by omega
    rw [hm] at ih
    rw [e]
    exact At.left (b := vS (Fil.vAt l m)) ih
/-- the bounds of a meter file's head -/
theorem meter_bd {step start : Int} {l : List Txt.Val} (h : meterB step start l = true) : (0 ≤ step ∧ step ≤ 999999999) ∧ (0 ≤ start ∧ start ≤ 999999999) := by
  unfold meterB at h
  simp only [Bool.and_eq_true, Bool.or_eq_true, decide_eq_true_eq, inB_iff] at h
  obtain ⟨⟨⟨⟨h1, h2⟩, h3⟩, _⟩, h5⟩ := h
  have hs : step = 15 ∨ step = 30 ∨ step = 60 := by omega
  rcases hs with rfl | rfl | rfl <;> omega
theorem fS_len {n : Int} (h0 : 0 ≤ n) (h1 : n ≤ 999999999) : (fS n).size ≤ 10 := by
  obtain ⟨k, rfl⟩ : ∃ k : Nat, n = k := ⟨n.toNat, by omega⟩
  have := dS_len 8 k (by omega)
  unfold fS; rw [app_size]; show 1 + _ ≤ _; omega
theorem mK_len {step start : Int} {l : List Txt.Val} (h : meterB step start l = true) : ∀ k, k ≤ l.length → (mK step start l k).size ≤ 22 + 20 * k
  | 0, _ => by
    obtain ⟨⟨a0, a1⟩, b0, b1⟩ := meter_bd h
    have := fS_len a0 a1; have := fS_len b0 b1
    show (⟨#[72]⟩ ++ fS step ++ fS start ++ ⟨#[10]⟩ : ByteArray).size ≤ _
    rw [app_size, app_size, app_size]; show 1 + _ + _ + 1 ≤ _; omega
  | k + 1, hk => by
    have ih := mK_len h k (by omega)
    have hv := List.all_eq_true.mp (meterB_all h).1 _ (List.mem_of_getElem? (Fil.get_ex (l := l) (i := k) (by omega)))
    have := (vS_pos hv).2
    show (mK step start l k ++ vS (Fil.vAt l k)).size ≤ _
    rw [app_size]; omega
theorem mS_len {step start : Int} {l : List Txt.Val} (h : meterB step start l = true) : (mS step start l).size ≤ 8000 := by
  have h1 := mK_len h l.length (Nat.le_refl _)
  have h2 := (meterB_all h).2
  have h3 := sumL_bd l
  have h4 := fS_len (n := (l.length : Int)) (by omega) (by omega)
  have h5 := fS_len (n := sumL l) (by omega) (by omega)
  unfold mS; rw [app_size, app_size, app_size, app_size]; show _ + 1 + _ + _ + 1 ≤ _; omega
theorem reads_to {t : ByteArray} {step start : Int} {l : List Txt.Val} (h : meterB step start l = true) (ht : At t 0 (mK step start l l.length)) : ∀ k, k ≤ l.length → rdS t k = ⟨(mK step start l k).size, false⟩ ∧ rL t k = l.take k
  | 0, _ => by
    obtain ⟨⟨a0, a1⟩, b0, b1⟩ := meter_bd h
    have q := mK_pre ht l.length (Nat.le_refl _)
    rw [Nat.sub_self] at q
    refine ⟨?_, by rw [List.take_zero]; rfl⟩
    show (hd t ⟨0, false⟩).2.2 = _
    rw [hdF a0 a1 b0 b1 q]; rfl
  | k + 1, hk => by
    obtain ⟨ih1, ih2⟩ := reads_to h ht k (by omega)
    have hg := Fil.get_ex (l := l) (i := k) (by omega)
    have hv := List.all_eq_true.mp (meterB_all h).1 _ (List.mem_of_getElem? hg)
    have q := mK_pre ht (l.length - (k + 1)) (by omega)
    rw [show l.length - (l.length - (k + 1)) = k + 1 by omega] at q
    have q2 := At.right (a := mK step start l k) (b := vS (Fil.vAt l k)) q
    rw [Nat.zero_add] at q2
    have s := vstepF hv q2
    refine ⟨?_, ?_⟩
    · show (Txt.vstep t (rdS t k)).2 = _
      rw [ih1, s]
      show _ = (⟨(mK step start l k ++ vS (Fil.vAt l k)).size, false⟩ : Sc)
      rw [app_size]
    · show rL t k ++ [(Txt.vstep t (rdS t k)).1] = _
      rw [ih1, s, ih2, List.take_add_one, hg]; rfl
/-- what is printed of a meter file is read back -/
theorem meter_forth {step start : Int} {l : List Txt.Val} (h : meterB step start l = true) : Ends (mS step start l) l.length ∧ rErr (mS step start l) l.length = 0 ∧ rStep (mS step start l) = step ∧ rStart (mS step start l) = start ∧ rL (mS step start l) l.length = l := by
  have hsz := mS_len h
  obtain ⟨⟨a0, a1⟩, b0, b1⟩ := meter_bd h
  have hall := meterB_all h
  have hsum := sumL_bd l
  obtain ⟨t, ht⟩ : ∃ t, t = mS step start l := ⟨_, rfl⟩
  have hA : At t 0 (mK step start l l.length ++ ⟨#[84]⟩ ++ fS l.length ++ fS (sumL l) ++ ⟨#[10]⟩) := by rw [ht]; exact At.self _
  have hE : t.size = (mK step start l l.length ++ ⟨#[84]⟩ ++ fS l.length ++ fS (sumL l) ++ ⟨#[10]⟩).size := by rw [ht]; rfl
  rw [← ht] at hsz ⊢
  clear ht
  have h84 := hA.left.left.left.right.one
  have hc := hA.left.left.right
  have hs := hA.left.right
  have h10 := hA.right.one
  have hm := hA.left.left.left.left
  rw [Nat.zero_add] at h84 hc hs h10
  rw [app_size, app_size, app_size] at h10
  rw [app_size, app_size] at hs
  rw [app_size] at hc
  rw [app_size, app_size, app_size, app_size] at hE
  have e84 : (⟨#[84]⟩ : ByteArray).size = 1 := rfl
  have e10 : (⟨#[10]⟩ : ByteArray).size = 1 := rfl
  rw [e84] at hc hs h10 hE
  rw [e10] at hE
  have R := reads_to h hm
  obtain ⟨r1, r2⟩ := R l.length (Nat.le_refl _)
  rw [List.take_length] at r2
  have hh : hd t ⟨0, false⟩ = (step, start, ⟨(mK step start l 0).size, false⟩) := by
    have q := mK_pre hm l.length (Nat.le_refl _)
    rw [Nat.sub_self] at q
    exact hdF a0 a1 b0 b1 q
  have e1 : rStep t = step := by unfold rStep; rw [hh]
  have e2 : rStart t = start := by unfold rStart; rw [hh]
  have k1 : take t ⟨(mK step start l l.length).size, false⟩ 84 = ⟨(mK step start l l.length).size + 1, false⟩ := takeF (c := 84) h84
  have k2 : field t 9 ⟨(mK step start l l.length).size + 1, false⟩ = ((l.length : Int), ⟨(mK step start l l.length).size + 1 + (fS l.length).size, false⟩) := fieldF (by omega) (by omega) hc (by
    have q := hs.left.one
    rw [q]; rfl)
  have k3 : field t 9 ⟨(mK step start l l.length).size + 1 + (fS l.length).size, false⟩ = (sumL l, ⟨(mK step start l l.length).size + 1 + (fS l.length).size + (fS (sumL l)).size, false⟩) := fieldF (by omega) (by omega) hs (by rw [h10]; rfl)
  have k4 : take t ⟨(mK step start l l.length).size + 1 + (fS l.length).size + (fS (sumL l)).size, false⟩ 10 = ⟨(mK step start l l.length).size + 1 + (fS l.length).size + (fS (sumL l)).size + 1, false⟩ := takeF (c := 10) h10
  have T : tailS t (rdS t l.length) = ((l.length : Int), sumL l, ⟨(mK step start l l.length).size + 1 + (fS l.length).size + (fS (sumL l)).size + 1, false⟩) := by
    unfold tailS
    rw [r1, k1, k2]
    dsimp only
    rw [k3]
    dsimp only
    rw [k4]
    unfold Txt.fin
    rw [if_neg (by show ¬ (mK step start l l.length).size + 1 + (fS l.length).size + (fS (sumL l)).size + 1 < t.size; omega)]
  refine ⟨⟨fun k hk => ?_, ?_⟩, ?_, e1, e2, r2⟩
  · obtain ⟨q1, _⟩ := R k (by omega)
    have hg := Fil.get_ex (l := l) (i := k) hk
    have hv := List.all_eq_true.mp hall.1 _ (List.mem_of_getElem? hg)
    have z := mK_pre hm (l.length - (k + 1)) (by omega)
    rw [show l.length - (l.length - (k + 1)) = k + 1 by omega] at z
    have z2 := At.right (a := mK step start l k) (b := vS (Fil.vAt l k)) z 0 (by have := (vS_pos hv).1; omega)
    rw [Nat.zero_add, Nat.add_zero] at z2
    have f := vS_first hv
    have q1' : Txt.vS t (hd t ⟨0, false⟩).2.2 k = ⟨(mK step start l k).size, false⟩ := q1
    rw [q1']
    unfold Txt.stopB
    simp only [Bool.false_or, decide_eq_false_iff_not]
    omega
  · have r1' : Txt.vS t (hd t ⟨0, false⟩).2.2 l.length = ⟨(mK step start l l.length).size, false⟩ := r1
    rw [r1']
    unfold Txt.stopB
    simp only [Bool.false_or, decide_eq_true_eq]
    rw [h84]; rfl
  · unfold rErr
    rw [if_neg (by omega), T, e1, e2, r2]
    simp [h]
end Go.Proofs.YtjaffmmocbplaaaDoor
