/-
  What is printed of a tariff is read back, and a text that is read is what is printed of it. No program here.
-/
import Derived.Test.YtjaffmmocbplaabDoorK19
import Derived.Test.YtjaffmmocbplaabDoorKPrtZ
import Derived.Test.YtjaffmmocbplaabDoorKTdX
namespace Go.Proofs.YtjaffmmocbplaabDoor
set_option linter.unusedVariables false
open Txt (byteAt Sc digB runD num take field fin seesB)

/-! ### a line of a letter and numbers -/
def fP (c : UInt8) (v : Nat → Int) : Nat → ByteArray
  | 0 => ⟨#[c]⟩
  | n + 1 => fP c v n ++ fS (v n)
def lnP (c : UInt8) (v : Nat → Int) (n : Nat) : ByteArray := fP c v n ++ ⟨#[10]⟩
theorem flds_back {t : ByteArray} {s : Sc} {c : UInt8} : ∀ n, (fldS t 9 (take t s (c.toNat : Int)) n).bad = false → St t s (fP c (fun i => lnV t s (c.toNat : Int) i) n) (fldS t 9 (take t s (c.toNat : Int)) n)
  | 0, h => take_back h
  | n + 1, h => by
    have a := field_back (t := t) (s := fldS t 9 (take t s (c.toNat : Int)) n) h
    exact (flds_back n a.good).app a
theorem ln_back {t : ByteArray} {s : Sc} {c : UInt8} {n : Nat} (h : (lnS t s (c.toNat : Int) n).bad = false) : St t s (lnP c (fun i => lnV t s (c.toNat : Int) i) n) (lnS t s (c.toNat : Int) n) := by
  have a := take_back (c := 10) (s := fldS t 9 (take t s (c.toNat : Int)) n) h
  exact (flds_back n a.good).app a
theorem byteAt_extract {t : ByteArray} {a b i : Nat} (hb : b ≤ t.size) (hi : a + i < b) : byteAt (t.extract a b) i = byteAt t (a + i) := by
  rw [byteAt_data, byteAt_data, ByteArray.data_extract, Array.getElem?_extract]
  have e : (b ≤ t.data.size) := hb
  rw [if_pos (by omega)]
def hrL (h : ByteArray) : ByteArray := ⟨#[87, 32]⟩ ++ h ++ ⟨#[10]⟩
theorem pair_app (a b : UInt8) : (⟨#[a, b]⟩ : ByteArray) = ⟨#[a]⟩ ++ ⟨#[b]⟩ := by apply ByteArray.ext; simp
theorem hr_back {t : ByteArray} {s : Sc} (h : (hrS t s).bad = false) : St t s (hrL (t.extract (hrQ t s).pos (chS t (hrQ t s) 24).pos)) (hrS t s) := by
  have a := take_back (c := 10) (s := chS t (hrQ t s) 24) h
  obtain ⟨c1, c2⟩ := chS_good 24 a.good
  have hq : (hrQ t s).bad = false := by
    cases q : (hrQ t s).bad
    · rfl
    · have := chS_bad0 (t := t) (s := hrQ t s) q 24
      have g := a.good
      rw [this, q] at g; exact g
  have b := take_back (c := 32) (s := take t s 87) hq
  have d := take_back (c := 87) (s := s) b.good
  have hsz : (hrQ t s).pos + 24 ≤ t.size := by have := Txt.lt_of_byteAt (c2 23 (by omega)); omega
  have e24 : (t.extract (hrQ t s).pos (chS t (hrQ t s) 24).pos).size = 24 := by rw [ByteArray.size_extract, c1]; omega
  have m : St t (hrQ t s) (t.extract (hrQ t s).pos (chS t (hrQ t s) 24).pos) (chS t (hrQ t s) 24) := by
    refine ⟨hq, fun i hi => ?_, ?_⟩
    · rw [e24] at hi
      rw [byteAt_extract (by omega) (by omega)]
    · rw [e24]
      have g := a.good
      obtain ⟨p, hp⟩ : ∃ p, p = chS t (hrQ t s) 24 := ⟨_, rfl⟩
      rw [← hp] at c1 g ⊢
      obtain ⟨pp, pb⟩ := p
      simp only at c1 g
      rw [c1, g]
  unfold hrL
  rw [pair_app]
  exact ((d.app b).app m).app a

/-! ### the thirteen lines -/
def vZ (x : Trf) (i : Nat) : Int := match i with | 0 => x.z.off + 720 | 1 => x.z.f.m | 2 => x.z.f.w | 3 => x.z.f.d | 4 => x.z.f.h | 5 => x.z.t.m | 6 => x.z.t.w | 7 => x.z.t.d | _ => x.z.t.h
def v2 (a b : Int) (i : Nat) : Int := match i with | 0 => a | _ => b
def v3 (a b c : Int) (i : Nat) : Int := match i with | 0 => a | 1 => b | _ => c
def lineP (x : Trf) (k : Nat) : ByteArray :=
  match k with
  | 0 => lnP 90 (vZ x) 9
  | 1 => lnP 68 (v2 x.days x.gap) 2
  | 2 => lnP 83 (v2 x.first x.last) 2
  | 3 => hrL x.h0
  | 4 => hrL x.h1
  | 5 => hrL x.h2
  | 6 => hrL x.h3
  | 7 => lnP 66 (v3 x.b0.x x.b0.y x.b0.z) 3
  | 8 => lnP 66 (v3 x.b1.x x.b1.y x.b1.z) 3
  | 9 => lnP 66 (v3 x.b2.x x.b2.y x.b2.z) 3
  | 10 => lnP 77 (v3 x.d.x x.d.y x.d.z) 3
  | 11 => lnP 78 (v2 x.np x.nn) 2
  | _ => lnP 70 (v3 x.fix x.min x.tax) 3
def tQ (x : Trf) : Nat → ByteArray
  | 0 => ⟨#[]⟩
  | k + 1 => tQ x k ++ lineP x k
theorem tQ_eq (x : Trf) : tQ x 13 = tPT x := by
  show ⟨#[]⟩ ++ lineP x 0 ++ lineP x 1 ++ lineP x 2 ++ lineP x 3 ++ lineP x 4 ++ lineP x 5 ++ lineP x 6 ++ lineP x 7 ++ lineP x 8 ++ lineP x 9 ++ lineP x 10 ++ lineP x 11 ++ lineP x 12 = _
  have e : (⟨#[]⟩ : ByteArray) ++ lineP x 0 = lineP x 0 := ByteArray.empty_append
  rw [e]
  unfold tPT
  simp only [hK, bK, hAt, bAt, lZ, lD, lS, lM, lN, rS, bS, lineP, hrL, lnP, fP, vZ, v2, v3, ByteArray.append_assoc]
theorem ln_congr (c : UInt8) {v u : Nat → Int} : ∀ n, (∀ i, i < n → v i = u i) → fP c v n = fP c u n
  | 0, _ => rfl
  | n + 1, h => by show fP c v n ++ fS (v n) = fP c u n ++ fS (u n); rw [ln_congr c n (fun i hi => h i (by omega)), h n (by omega)]
theorem lnP_congr (c : UInt8) {v u : Nat → Int} (n : Nat) (h : ∀ i, i < n → v i = u i) : lnP c v n = lnP c u n := by unfold lnP; rw [ln_congr c n h]
theorem ln_back' {t : ByteArray} {s : Sc} {c : UInt8} {n : Nat} {v : Nat → Int} (h : (lnS t s (c.toNat : Int) n).bad = false) (hv : ∀ i, i < n → lnV t s (c.toNat : Int) i = v i) : St t s (lnP c v n) (lnS t s (c.toNat : Int) n) := by
  rw [← lnP_congr c n hv]; exact ln_back h
theorem all2 {f g : Nat → Int} (h0 : f 0 = g 0) (h1 : f 1 = g 1) : ∀ i, i < 2 → f i = g i := fun i hi => by
  rcases (by omega : i = 0 ∨ i = 1) with rfl | rfl <;> assumption
theorem all3 {f g : Nat → Int} (h0 : f 0 = g 0) (h1 : f 1 = g 1) (h2 : f 2 = g 2) : ∀ i, i < 3 → f i = g i := fun i hi => by
  rcases (by omega : i = 0 ∨ i = 1 ∨ i = 2) with rfl | rfl | rfl <;> assumption
theorem all9 {f g : Nat → Int} (h0 : f 0 = g 0) (h1 : f 1 = g 1) (h2 : f 2 = g 2) (h3 : f 3 = g 3) (h4 : f 4 = g 4) (h5 : f 5 = g 5) (h6 : f 6 = g 6) (h7 : f 7 = g 7) (h8 : f 8 = g 8) : ∀ i, i < 9 → f i = g i := fun i hi => by
  rcases (by omega : i = 0 ∨ i = 1 ∨ i = 2 ∨ i = 3 ∨ i = 4 ∨ i = 5 ∨ i = 6 ∨ i = 7 ∨ i = 8) with rfl | rfl | rfl | rfl | rfl | rfl | rfl | rfl | rfl <;> assumption
theorem lb0 {t : ByteArray} {x : Trf} {s : Sc} (g : (nx t 0 s).bad = false) (e0 : lnV t s 90 0 = x.z.off + 720) (e1 : lnV t s 90 1 = x.z.f.m) (e2 : lnV t s 90 2 = x.z.f.w) (e3 : lnV t s 90 3 = x.z.f.d) (e4 : lnV t s 90 4 = x.z.f.h) (e5 : lnV t s 90 5 = x.z.t.m) (e6 : lnV t s 90 6 = x.z.t.w) (e7 : lnV t s 90 7 = x.z.t.d) (e8 : lnV t s 90 8 = x.z.t.h) : St t s (lineP x 0) (nx t 0 s) :=
  ln_back' (c := 90) (n := 9) (v := vZ x) g (all9 e0 e1 e2 e3 e4 e5 e6 e7 e8)
theorem lb1 {t : ByteArray} {x : Trf} {s : Sc} (g : (nx t 1 s).bad = false) (e0 : lnV t s 68 0 = x.days) (e1 : lnV t s 68 1 = x.gap) : St t s (lineP x 1) (nx t 1 s) :=
  ln_back' (c := 68) (n := 2) (v := v2 x.days x.gap) g (all2 e0 e1)
theorem lb2 {t : ByteArray} {x : Trf} {s : Sc} (g : (nx t 2 s).bad = false) (e0 : lnV t s 83 0 = x.first) (e1 : lnV t s 83 1 = x.last) : St t s (lineP x 2) (nx t 2 s) :=
  ln_back' (c := 83) (n := 2) (v := v2 x.first x.last) g (all2 e0 e1)
theorem lb3 {t : ByteArray} {x : Trf} {s : Sc} (g : (nx t 3 s).bad = false) (e : x.h0 = t.extract (hrQ t s).pos (chS t (hrQ t s) 24).pos) : St t s (lineP x 3) (nx t 3 s) := by
  show St t s (hrL x.h0) (hrS t s)
  rw [e]; exact hr_back g
theorem lb4 {t : ByteArray} {x : Trf} {s : Sc} (g : (nx t 4 s).bad = false) (e : x.h1 = t.extract (hrQ t s).pos (chS t (hrQ t s) 24).pos) : St t s (lineP x 4) (nx t 4 s) := by
  show St t s (hrL x.h1) (hrS t s)
  rw [e]; exact hr_back g
theorem lb5 {t : ByteArray} {x : Trf} {s : Sc} (g : (nx t 5 s).bad = false) (e : x.h2 = t.extract (hrQ t s).pos (chS t (hrQ t s) 24).pos) : St t s (lineP x 5) (nx t 5 s) := by
  show St t s (hrL x.h2) (hrS t s)
  rw [e]; exact hr_back g
theorem lb6 {t : ByteArray} {x : Trf} {s : Sc} (g : (nx t 6 s).bad = false) (e : x.h3 = t.extract (hrQ t s).pos (chS t (hrQ t s) 24).pos) : St t s (lineP x 6) (nx t 6 s) := by
  show St t s (hrL x.h3) (hrS t s)
  rw [e]; exact hr_back g
theorem lb7 {t : ByteArray} {x : Trf} {s : Sc} (g : (nx t 7 s).bad = false) (e0 : lnV t s 66 0 = x.b0.x) (e1 : lnV t s 66 1 = x.b0.y) (e2 : lnV t s 66 2 = x.b0.z) : St t s (lineP x 7) (nx t 7 s) :=
  ln_back' (c := 66) (n := 3) (v := v3 x.b0.x x.b0.y x.b0.z) g (all3 e0 e1 e2)
theorem lb8 {t : ByteArray} {x : Trf} {s : Sc} (g : (nx t 8 s).bad = false) (e0 : lnV t s 66 0 = x.b1.x) (e1 : lnV t s 66 1 = x.b1.y) (e2 : lnV t s 66 2 = x.b1.z) : St t s (lineP x 8) (nx t 8 s) :=
  ln_back' (c := 66) (n := 3) (v := v3 x.b1.x x.b1.y x.b1.z) g (all3 e0 e1 e2)
theorem lb9 {t : ByteArray} {x : Trf} {s : Sc} (g : (nx t 9 s).bad = false) (e0 : lnV t s 66 0 = x.b2.x) (e1 : lnV t s 66 1 = x.b2.y) (e2 : lnV t s 66 2 = x.b2.z) : St t s (lineP x 9) (nx t 9 s) :=
  ln_back' (c := 66) (n := 3) (v := v3 x.b2.x x.b2.y x.b2.z) g (all3 e0 e1 e2)
theorem lb10 {t : ByteArray} {x : Trf} {s : Sc} (g : (nx t 10 s).bad = false) (e0 : lnV t s 77 0 = x.d.x) (e1 : lnV t s 77 1 = x.d.y) (e2 : lnV t s 77 2 = x.d.z) : St t s (lineP x 10) (nx t 10 s) :=
  ln_back' (c := 77) (n := 3) (v := v3 x.d.x x.d.y x.d.z) g (all3 e0 e1 e2)
theorem lb11 {t : ByteArray} {x : Trf} {s : Sc} (g : (nx t 11 s).bad = false) (e0 : lnV t s 78 0 = x.np) (e1 : lnV t s 78 1 = x.nn) : St t s (lineP x 11) (nx t 11 s) :=
  ln_back' (c := 78) (n := 2) (v := v2 x.np x.nn) g (all2 e0 e1)
theorem lb12 {t : ByteArray} {x : Trf} {s : Sc} (g : (nx t 12 s).bad = false) (e0 : lnV t s 70 0 = x.fix) (e1 : lnV t s 70 1 = x.min) (e2 : lnV t s 70 2 = x.tax) : St t s (lineP x 12) (nx t 12 s) :=
  ln_back' (c := 70) (n := 3) (v := v3 x.fix x.min x.tax) g (all3 e0 e1 e2)
theorem line_back {t : ByteArray} {x : Trf} (hx : x = rdT t (hrD t)) : ∀ k, k < 13 → (nx t k (sT t k)).bad = false → St t (sT t k) (lineP x k) (nx t k (sT t k)) := by
  intro k hk g
  obtain ⟨S, hS⟩ : ∃ S : Nat → Sc, S = sT t := ⟨_, rfl⟩
  rcases (by omega : k = 0 ∨ k = 1 ∨ k = 2 ∨ k = 3 ∨ k = 4 ∨ k = 5 ∨ k = 6 ∨ k = 7 ∨ k = 8 ∨ k = 9 ∨ k = 10 ∨ k = 11 ∨ k = 12) with rfl | rfl | rfl | rfl | rfl | rfl | rfl | rfl | rfl | rfl | rfl | rfl | rfl
  · exact lb0 g (by rw [hx]; show _ = lnV t (sT t 0) 90 0 - 720 + 720; rw [Int.sub_add_cancel]) (by simp only [hx, rdT]) (by simp only [hx, rdT]) (by simp only [hx, rdT]) (by simp only [hx, rdT]) (by simp only [hx, rdT]) (by simp only [hx, rdT]) (by simp only [hx, rdT]) (by simp only [hx, rdT])
  · exact lb1 g (by simp only [hx, rdT]) (by simp only [hx, rdT])
  · exact lb2 g (by simp only [hx, rdT]) (by simp only [hx, rdT])
  · exact lb3 g (by simp only [hx, rdT, hrD])
  · exact lb4 g (by simp only [hx, rdT, hrD])
  · exact lb5 g (by simp only [hx, rdT, hrD])
  · exact lb6 g (by simp only [hx, rdT, hrD])
  · exact lb7 g (by simp only [hx, rdT]) (by simp only [hx, rdT]) (by simp only [hx, rdT])
  · exact lb8 g (by simp only [hx, rdT]) (by simp only [hx, rdT]) (by simp only [hx, rdT])
  · exact lb9 g (by simp only [hx, rdT]) (by simp only [hx, rdT]) (by simp only [hx, rdT])
  · exact lb10 g (by simp only [hx, rdT]) (by simp only [hx, rdT]) (by simp only [hx, rdT])
  · exact lb11 g (by simp only [hx, rdT]) (by simp only [hx, rdT])
  · exact lb12 g (by simp only [hx, rdT]) (by simp only [hx, rdT]) (by simp only [hx, rdT])
theorem lines_back {t : ByteArray} (hg : (sT t 13).bad = false) : ∀ k, k ≤ 13 → St t ⟨0, false⟩ (tQ (rdT t (hrP t)) k) (sT t k)
  | 0, _ => ⟨rfl, fun i hi => absurd hi (by show ¬ i < 0; omega), rfl⟩
  | k + 1, hk => by
    have good : ∀ j, j ≤ 13 → (sT t j).bad = false := fun j hj => by
      have := sT_good hg (13 - j) (by omega)
      rwa [show 13 - (13 - j) = j by omega] at this
    exact (lines_back hg k (by omega)).app (line_back (rd_good hg) k (by omega) (good (k + 1) hk))
/-- a text that is read is what is printed of it -/
theorem tariff_back {t : ByteArray} (h : rtE t (rdT t (hrP t)) = 0) : t = tPT (rdT t (hrP t)) ∧ ¬ badN (rdT t (hrP t)) < 13 := by
  unfold rtE at h
  split at h
  · omega
  · split at h
    · omega
    · rename_i h2
      split at h
      · omega
      · rename_i h3
        refine ⟨?_, h3⟩
        have hf : (fin t (sT t 13)).bad = false := by simpa using h2
        obtain ⟨f1, f2⟩ := fin_good hf
        have hp : ¬ (sT t 13).pos < t.size := fun q => by
          unfold Txt.fin at hf; rw [if_pos q] at hf; cases hf
        have all := lines_back f2 13 (Nat.le_refl _)
        rw [tQ_eq] at all
        have hi : 0 + (tPT (rdT t (hrP t))).size ≤ t.size := all.at_.inside (Nat.zero_le _)
        rw [all.next] at hp
        have hp' : ¬ 0 + (tPT (rdT t (hrP t))).size < t.size := hp
        exact all.at_.whole (by omega)

/-! ### what is printed is read -/
theorem fldsF {t : ByteArray} {p : Nat} {c : UInt8} {v : Nat → Int} {n : Nat} (hv : ∀ i, i < n → 0 ≤ v i ∧ v i ≤ 999999999) (h : At t p (lnP c v n)) : ∀ k, k ≤ n → At t p (fP c v k) ∧ digB (byteAt t (p + (fP c v k).size)) = false ∧ fldS t 9 (take t ⟨p, false⟩ (c.toNat : Int)) k = ⟨p + (fP c v k).size, false⟩ := by
  have pre : ∀ j, j ≤ n → At t p (fP c v (n - j)) ∧ digB (byteAt t (p + (fP c v (n - j)).size)) = false := by
    intro j
    induction j with
    | zero => intro _; exact ⟨h.left, by rw [Nat.sub_zero, h.right.one]; rfl⟩
    | succ j ih =>
      intro hj
      have ih' := (ih (by omega)).1
      obtain ⟨m, hm⟩ : ∃ m, n - j = m + 1 := ⟨n - j - 1, by omega⟩
      have e : n - (j + 1) = m := by omega
      rw [hm] at ih'
      rw [e]
      refine ⟨At.left (b := fS (v m)) ih', ?_⟩
      have q := (At.right (a := fP c v m) (b := fS (v m)) ih').left.one
      rw [q]; rfl
  have pre' : ∀ k, k ≤ n → At t p (fP c v k) ∧ digB (byteAt t (p + (fP c v k).size)) = false := fun k hk => by
    have := pre (n - k) (by omega)
    rwa [show n - (n - k) = k by omega] at this
  intro k
  induction k with
  | zero =>
    intro hk
    refine ⟨(pre' 0 hk).1, (pre' 0 hk).2, ?_⟩
    exact takeF (pre' 0 hk).1.one
  | succ k ih =>
    intro hk
    obtain ⟨i1, i2, i3⟩ := ih (by omega)
    obtain ⟨j1, j2⟩ := pre' (k + 1) hk
    refine ⟨j1, j2, ?_⟩
    show (field t 9 (fldS t 9 (take t ⟨p, false⟩ (c.toNat : Int)) k)).2 = _
    rw [i3]
    have e : p + (fP c v (k + 1)).size = p + (fP c v k).size + (fS (v k)).size := by show p + (fP c v k ++ fS (v k)).size = _; rw [app_size]; omega
    rw [e] at j2 ⊢
    rw [fieldF (hv k (by omega)).1 (hv k (by omega)).2 (At.right (a := fP c v k) (b := fS (v k)) j1) j2]
theorem lnBk {t : ByteArray} {p : Nat} {c : UInt8} {v : Nat → Int} {n : Nat} (hv : ∀ i, i < n → 0 ≤ v i ∧ v i ≤ 999999999) (h : At t p (lnP c v n)) : lnS t ⟨p, false⟩ (c.toNat : Int) n = ⟨p + (lnP c v n).size, false⟩ ∧ ∀ i, i < n → lnV t ⟨p, false⟩ (c.toNat : Int) i = v i := by
  have F := fldsF hv h
  refine ⟨?_, fun i hi => ?_⟩
  · unfold lnS
    rw [(F n (Nat.le_refl _)).2.2, takeF (c := 10) h.right.one]
    unfold lnP
    rw [app_size]; rfl
  · unfold lnV
    rw [(F i (by omega)).2.2]
    obtain ⟨j1, j2, _⟩ := F (i + 1) (by omega)
    have e : p + (fP c v (i + 1)).size = p + (fP c v i).size + (fS (v i)).size := by show p + (fP c v i ++ fS (v i)).size = _; rw [app_size]; omega
    rw [e] at j2
    rw [fieldF (hv i hi).1 (hv i hi).2 (At.right (a := fP c v i) (b := fS (v i)) j1) j2]
theorem hours_bd {u : ByteArray} (h : hoursB u = true) : u.size = 24 ∧ ∀ i, i < 24 → 65 ≤ byteAt u i ∧ byteAt u i ≤ 67 := by
  simp only [hoursB, Bool.and_eq_true, decide_eq_true_eq, List.all_eq_true] at h
  refine ⟨h.1, fun i hi => ?_⟩
  have hi' : i < u.size := by omega
  rw [Txt.byteAt_lt hi']
  exact clsB_bd (h.2 u[i] (by
    have : u.data.toList[i]? = some u[i] := by rw [List.getElem?_eq_getElem (by simpa using hi')]; rfl
    exact List.mem_of_getElem? this))
theorem chF {t : ByteArray} {p : Nat} {u : ByteArray} (hu : hoursB u = true) (h : At t p u) : ∀ n, n ≤ 24 → chS t ⟨p, false⟩ n = ⟨p + n, false⟩
  | 0, _ => rfl
  | n + 1, hn => by
    obtain ⟨h1, h2⟩ := hours_bd hu
    show (cls t (chS t ⟨p, false⟩ n)).2 = _
    rw [chF hu h n (by omega), cls_good rfl (by show 65 ≤ byteAt t (p + n) ∧ byteAt t (p + n) ≤ 67; rw [h n (by omega)]; exact h2 n (by omega))]
    rfl
theorem hrF {t : ByteArray} {p : Nat} {u : ByteArray} (hu : hoursB u = true) (h : At t p (hrL u)) : hrS t ⟨p, false⟩ = ⟨p + (hrL u).size, false⟩ ∧ strOfNums (chL t (hrQ t ⟨p, false⟩) 24) = u := by
  unfold hrL at h ⊢
  rw [pair_app] at h ⊢
  have hs := (hours_bd hu).1
  have q1 : take t ⟨p, false⟩ 87 = ⟨p + 1, false⟩ := takeF (c := 87) h.left.left.left.one
  have q2 : take t ⟨p + 1, false⟩ 32 = ⟨p + 2, false⟩ := takeF (c := 32) h.left.left.right.one
  have hA : At t (p + 2) u := by
    have := h.left.right
    rw [app_size] at this; exact this
  have hq : hrQ t ⟨p, false⟩ = ⟨p + 2, false⟩ := by unfold hrQ; rw [q1, q2]
  have hc := chF hu hA 24 (Nat.le_refl _)
  have h10 := h.right.one
  rw [app_size, app_size, hs] at h10
  refine ⟨?_, ?_⟩
  · unfold hrS
    rw [hq, hc, takeF (c := 10) (by rw [← Nat.add_assoc] at h10; exact h10), app_size, app_size, app_size, hs]
    rfl
  · rw [hq, str_good (by rw [hc]), hc]
    have hin : p + 2 + 24 ≤ t.size := by
      have := hA 23 (by omega)
      have b := (hours_bd hu).2 23 (by omega)
      have := Txt.lt_of_byteAt (t := t) (i := p + 2 + 23) (by omega)
      omega
    have e24 : (t.extract (p + 2) (p + 2 + 24)).size = 24 := by rw [ByteArray.size_extract]; omega
    refine At.whole (fun i hi => ?_) (by show (t.extract (p + 2) (p + 2 + 24)).size = _; rw [e24, hs])
    rw [Nat.zero_add]
    show byteAt (t.extract (p + 2) (p + 2 + 24)) i = _
    rw [byteAt_extract hin (by omega)]
    exact hA i hi
def vB (n : Int) : Prop := 0 ≤ n ∧ n ≤ 999999999
structure TV (t : Trf) : Prop where
  po : vB (t.z.off + 720)
  pf : vB t.z.f.m ∧ vB t.z.f.w ∧ vB t.z.f.d ∧ vB t.z.f.h
  pt : vB t.z.t.m ∧ vB t.z.t.w ∧ vB t.z.t.d ∧ vB t.z.t.h
  pc : vB t.days ∧ vB t.gap ∧ vB t.first ∧ vB t.last
  ph : hoursB t.h0 = true ∧ hoursB t.h1 = true ∧ hoursB t.h2 = true ∧ hoursB t.h3 = true
  pb : (vB t.b0.x ∧ vB t.b0.y ∧ vB t.b0.z) ∧ (vB t.b1.x ∧ vB t.b1.y ∧ vB t.b1.z) ∧ (vB t.b2.x ∧ vB t.b2.y ∧ vB t.b2.z)
  pd : vB t.d.x ∧ vB t.d.y ∧ vB t.d.z
  pn : vB t.np ∧ vB t.nn
  pe : vB t.fix ∧ vB t.min ∧ vB t.tax
theorem tv {t : Trf} (h : badN t = 13) : TV t := by
  have h0 : Zon.zoneB t.z = true := badN_good (t := t) (j := 0) (by omega)
  have h1 : (inB t.days 1 31 && inB t.gap 0 8) = true := badN_good (t := t) (j := 1) (by omega)
  have h2 : (inB t.first 1 t.last && decide (t.last ≤ 12)) = true := badN_good (t := t) (j := 2) (by omega)
  have h3 : hoursB t.h0 = true := badN_good (t := t) (j := 3) (by omega)
  have h4 : hoursB t.h1 = true := badN_good (t := t) (j := 4) (by omega)
  have h5 : hoursB t.h2 = true := badN_good (t := t) (j := 5) (by omega)
  have h6 : hoursB t.h3 = true := badN_good (t := t) (j := 6) (by omega)
  have h7 : blkB t.b0 = true := badN_good (t := t) (j := 7) (by omega)
  have h8 : blkB t.b1 = true := badN_good (t := t) (j := 8) (by omega)
  have h9 : blkB t.b2 = true := badN_good (t := t) (j := 9) (by omega)
  have h10 : dmdB t.d = true := badN_good (t := t) (j := 10) (by omega)
  have h11 : (inB t.np 0 100000 && inB t.nn 0 12) = true := badN_good (t := t) (j := 11) (by omega)
  have h12 : (inB t.fix 0 1000000 && inB t.min 0 1000000 && inB t.tax 0 1000) = true := badN_good (t := t) (j := 12) (by omega)
  simp only [Zon.zoneB, Zon.noneB, Zon.ruleB, blkB, dmdB, Bool.and_eq_true, Bool.or_eq_true, decide_eq_true_eq, inB_iff] at h0 h1 h2 h7 h8 h9 h10 h11 h12
  obtain ⟨hoff, hz⟩ := h0
  refine ⟨?_, ?_, ?_, ?_, ⟨h3, h4, h5, h6⟩, ?_, ?_, ?_, ?_⟩
  · unfold vB; omega
  · unfold vB; rcases hz with ⟨q1, q2⟩ | ⟨⟨q1, q2⟩, q3⟩ <;> omega
  · unfold vB; rcases hz with ⟨q1, q2⟩ | ⟨⟨q1, q2⟩, q3⟩ <;> omega
  · unfold vB; omega
  · unfold vB; omega
  · unfold vB; omega
  · unfold vB; omega
  · unfold vB; omega
theorem tQ_pre {t : ByteArray} {x : Trf} {n : Nat} (h : At t 0 (tQ x n)) : ∀ k, k ≤ n → At t 0 (tQ x (n - k))
  | 0, _ => h
  | k + 1, hk => by
    have ih := tQ_pre h k (by omega)
    obtain ⟨m, hm⟩ : ∃ m, n - k = m + 1 := ⟨n - k - 1, by omega⟩
    have e : n - (k + 1) = m := by omega
    rw [hm] at ih
    rw [e]
    exact At.left (b := lineP x m) ih
theorem vZ_bd {x : Trf} (h : TV x) (i : Nat) (hi : i < 9) : 0 ≤ vZ x i ∧ vZ x i ≤ 999999999 := by
  rcases (by omega : i = 0 ∨ i = 1 ∨ i = 2 ∨ i = 3 ∨ i = 4 ∨ i = 5 ∨ i = 6 ∨ i = 7 ∨ i = 8) with rfl | rfl | rfl | rfl | rfl | rfl | rfl | rfl | rfl
  · exact h.po
  · exact h.pf.1
  · exact h.pf.2.1
  · exact h.pf.2.2.1
  · exact h.pf.2.2.2
  · exact h.pt.1
  · exact h.pt.2.1
  · exact h.pt.2.2.1
  · exact h.pt.2.2.2
theorem v2_bd {a b : Int} (h : vB a ∧ vB b) (i : Nat) (hi : i < 2) : 0 ≤ v2 a b i ∧ v2 a b i ≤ 999999999 := by
  rcases (by omega : i = 0 ∨ i = 1) with rfl | rfl
  · exact h.1
  · exact h.2
theorem v3_bd {a b c : Int} (h : vB a ∧ vB b ∧ vB c) (i : Nat) (hi : i < 3) : 0 ≤ v3 a b c i ∧ v3 a b c i ≤ 999999999 := by
  rcases (by omega : i = 0 ∨ i = 1 ∨ i = 2) with rfl | rfl | rfl
  · exact h.1
  · exact h.2.1
  · exact h.2.2
/-- the reader steps over line k, and has read it -/
theorem lineF {t : ByteArray} {x : Trf} (hv : TV x) {p : Nat} : ∀ k, k < 13 → At t p (lineP x k) → nx t k ⟨p, false⟩ = ⟨p + (lineP x k).size, false⟩
  | 0, _, h => (lnBk (vZ_bd hv) h).1
  | 1, _, h => (lnBk (v2_bd ⟨hv.pc.1, hv.pc.2.1⟩) h).1
  | 2, _, h => (lnBk (v2_bd hv.pc.2.2) h).1
  | 3, _, h => (hrF hv.ph.1 h).1
  | 4, _, h => (hrF hv.ph.2.1 h).1
  | 5, _, h => (hrF hv.ph.2.2.1 h).1
  | 6, _, h => (hrF hv.ph.2.2.2 h).1
  | 7, _, h => (lnBk (v3_bd hv.pb.1) h).1
  | 8, _, h => (lnBk (v3_bd hv.pb.2.1) h).1
  | 9, _, h => (lnBk (v3_bd hv.pb.2.2) h).1
  | 10, _, h => (lnBk (v3_bd hv.pd) h).1
  | 11, _, h => (lnBk (v2_bd hv.pn) h).1
  | 12, _, h => (lnBk (v3_bd hv.pe) h).1
  | k + 13, hk, _ => absurd hk (by omega)
theorem sT_to {t : ByteArray} {x : Trf} (hv : TV x) (h : At t 0 (tQ x 13)) : ∀ k, k ≤ 13 → sT t k = ⟨(tQ x k).size, false⟩
  | 0, _ => rfl
  | k + 1, hk => by
    have q := tQ_pre h (13 - (k + 1)) (by omega)
    rw [show 13 - (13 - (k + 1)) = k + 1 by omega] at q
    have q2 := At.right (a := tQ x k) (b := lineP x k) q
    rw [Nat.zero_add] at q2
    show nx t k (sT t k) = _
    rw [sT_to hv h k (by omega), lineF hv k (by omega) q2]
    show _ = (⟨(tQ x k ++ lineP x k).size, false⟩ : Sc)
    rw [app_size]
theorem line_at {t : ByteArray} {x : Trf} (h : At t 0 (tQ x 13)) (k : Nat) (hk : k < 13) : At t (tQ x k).size (lineP x k) := by
  have q := tQ_pre h (13 - (k + 1)) (by omega)
  rw [show 13 - (13 - (k + 1)) = k + 1 by omega] at q
  have q2 := At.right (a := tQ x k) (b := lineP x k) q
  rwa [Nat.zero_add] at q2
theorem rd_forth {t : ByteArray} {x : Trf} (hv : TV x) (h : At t 0 (tQ x 13)) : rdT t (hrP t) = x := by
  have S := sT_to hv h
  have L := line_at h
  have a0 := (lnBk (vZ_bd hv) (L 0 (by omega))).2
  have a1 := (lnBk (v2_bd ⟨hv.pc.1, hv.pc.2.1⟩) (L 1 (by omega))).2
  have a2 := (lnBk (v2_bd hv.pc.2.2) (L 2 (by omega))).2
  have a3 : hrP t 3 = x.h0 := by unfold hrP; rw [S 3 (by omega)]; exact (hrF hv.ph.1 (L 3 (by omega))).2
  have a4 : hrP t 4 = x.h1 := by unfold hrP; rw [S 4 (by omega)]; exact (hrF hv.ph.2.1 (L 4 (by omega))).2
  have a5 : hrP t 5 = x.h2 := by unfold hrP; rw [S 5 (by omega)]; exact (hrF hv.ph.2.2.1 (L 5 (by omega))).2
  have a6 : hrP t 6 = x.h3 := by unfold hrP; rw [S 6 (by omega)]; exact (hrF hv.ph.2.2.2 (L 6 (by omega))).2
  have a7 := (lnBk (v3_bd hv.pb.1) (L 7 (by omega))).2
  have a8 := (lnBk (v3_bd hv.pb.2.1) (L 8 (by omega))).2
  have a9 := (lnBk (v3_bd hv.pb.2.2) (L 9 (by omega))).2
  have a10 := (lnBk (v3_bd hv.pd) (L 10 (by omega))).2
  have a11 := (lnBk (v2_bd hv.pn) (L 11 (by omega))).2
  have a12 := (lnBk (v3_bd hv.pe) (L 12 (by omega))).2
  unfold rdT
  rw [a3, a4, a5, a6, S 0 (by omega), S 1 (by omega), S 2 (by omega), S 7 (by omega), S 8 (by omega), S 9 (by omega), S 10 (by omega), S 11 (by omega), S 12 (by omega)]
  have z0 : lnV t ⟨(tQ x 0).size, false⟩ 90 0 = x.z.off + 720 := a0 0 (by omega)
  have z1 : lnV t ⟨(tQ x 0).size, false⟩ 90 1 = x.z.f.m := a0 1 (by omega)
  have z2 : lnV t ⟨(tQ x 0).size, false⟩ 90 2 = x.z.f.w := a0 2 (by omega)
  have z3 : lnV t ⟨(tQ x 0).size, false⟩ 90 3 = x.z.f.d := a0 3 (by omega)
  have z4 : lnV t ⟨(tQ x 0).size, false⟩ 90 4 = x.z.f.h := a0 4 (by omega)
  have z5 : lnV t ⟨(tQ x 0).size, false⟩ 90 5 = x.z.t.m := a0 5 (by omega)
  have z6 : lnV t ⟨(tQ x 0).size, false⟩ 90 6 = x.z.t.w := a0 6 (by omega)
  have z7 : lnV t ⟨(tQ x 0).size, false⟩ 90 7 = x.z.t.d := a0 7 (by omega)
  have z8 : lnV t ⟨(tQ x 0).size, false⟩ 90 8 = x.z.t.h := a0 8 (by omega)
  have b0 : lnV t ⟨(tQ x 1).size, false⟩ 68 0 = x.days := a1 0 (by omega)
  have b1 : lnV t ⟨(tQ x 1).size, false⟩ 68 1 = x.gap := a1 1 (by omega)
  have c0 : lnV t ⟨(tQ x 2).size, false⟩ 83 0 = x.first := a2 0 (by omega)
  have c1 : lnV t ⟨(tQ x 2).size, false⟩ 83 1 = x.last := a2 1 (by omega)
  have d0 : lnV t ⟨(tQ x 7).size, false⟩ 66 0 = x.b0.x := a7 0 (by omega)
  have d1 : lnV t ⟨(tQ x 7).size, false⟩ 66 1 = x.b0.y := a7 1 (by omega)
  have d2 : lnV t ⟨(tQ x 7).size, false⟩ 66 2 = x.b0.z := a7 2 (by omega)
  have e0 : lnV t ⟨(tQ x 8).size, false⟩ 66 0 = x.b1.x := a8 0 (by omega)
  have e1 : lnV t ⟨(tQ x 8).size, false⟩ 66 1 = x.b1.y := a8 1 (by omega)
  have e2 : lnV t ⟨(tQ x 8).size, false⟩ 66 2 = x.b1.z := a8 2 (by omega)
  have f0 : lnV t ⟨(tQ x 9).size, false⟩ 66 0 = x.b2.x := a9 0 (by omega)
  have f1 : lnV t ⟨(tQ x 9).size, false⟩ 66 1 = x.b2.y := a9 1 (by omega)
  have f2 : lnV t ⟨(tQ x 9).size, false⟩ 66 2 = x.b2.z := a9 2 (by omega)
  have g0 : lnV t ⟨(tQ x 10).size, false⟩ 77 0 = x.d.x := a10 0 (by omega)
  have g1 : lnV t ⟨(tQ x 10).size, false⟩ 77 1 = x.d.y := a10 1 (by omega)
  have g2 : lnV t ⟨(tQ x 10).size, false⟩ 77 2 = x.d.z := a10 2 (by omega)
  have i0 : lnV t ⟨(tQ x 11).size, false⟩ 78 0 = x.np := a11 0 (by omega)
  have i1 : lnV t ⟨(tQ x 11).size, false⟩ 78 1 = x.nn := a11 1 (by omega)
  have j0 : lnV t ⟨(tQ x 12).size, false⟩ 70 0 = x.fix := a12 0 (by omega)
  have j1 : lnV t ⟨(tQ x 12).size, false⟩ 70 1 = x.min := a12 1 (by omega)
  have j2 : lnV t ⟨(tQ x 12).size, false⟩ 70 2 = x.tax := a12 2 (by omega)
  rw [z0, z1, z2, z3, z4, z5, z6, z7, z8, b0, b1, c0, c1, d0, d1, d2, e0, e1, e2, f0, f1, f2, g0, g1, g2, i0, i1, j0, j1, j2, Int.add_sub_cancel]
theorem fS_ten {n : Int} (h : 0 ≤ n ∧ n ≤ 999999999) : (fS n).size ≤ 10 := by
  obtain ⟨k, rfl⟩ : ∃ k : Nat, n = k := ⟨n.toNat, by omega⟩
  have := dS_len 8 k (by omega)
  unfold fS; rw [app_size]; show 1 + _ ≤ _; omega
theorem lnP_len {c : UInt8} {v : Nat → Int} {n : Nat} (hv : ∀ i, i < n → 0 ≤ v i ∧ v i ≤ 999999999) : (lnP c v n).size ≤ 2 + 10 * n := by
  have : ∀ k, k ≤ n → (fP c v k).size ≤ 1 + 10 * k := by
    intro k
    induction k with
    | zero => intro _; show 1 ≤ 1; omega
    | succ k ih =>
      intro hk
      have := ih (by omega)
      have := fS_ten (hv k (by omega))
      show (fP c v k ++ fS (v k)).size ≤ _
      rw [app_size]; omega
  have := this n (Nat.le_refl _)
  unfold lnP; rw [app_size]; show _ + 1 ≤ _; omega
theorem hrL_len {u : ByteArray} (h : hoursB u = true) : (hrL u).size ≤ 27 := by
  have := (hours_bd h).1
  unfold hrL; rw [app_size, app_size]; show 2 + _ + 1 ≤ _; omega
theorem lineP_len {x : Trf} (hv : TV x) : ∀ k, k < 13 → (lineP x k).size ≤ 92
  | 0, _ => lnP_len (vZ_bd hv)
  | 1, _ => Nat.le_trans (lnP_len (v2_bd ⟨hv.pc.1, hv.pc.2.1⟩)) (by omega)
  | 2, _ => Nat.le_trans (lnP_len (v2_bd hv.pc.2.2)) (by omega)
  | 3, _ => Nat.le_trans (hrL_len hv.ph.1) (by omega)
  | 4, _ => Nat.le_trans (hrL_len hv.ph.2.1) (by omega)
  | 5, _ => Nat.le_trans (hrL_len hv.ph.2.2.1) (by omega)
  | 6, _ => Nat.le_trans (hrL_len hv.ph.2.2.2) (by omega)
  | 7, _ => Nat.le_trans (lnP_len (v3_bd hv.pb.1)) (by omega)
  | 8, _ => Nat.le_trans (lnP_len (v3_bd hv.pb.2.1)) (by omega)
  | 9, _ => Nat.le_trans (lnP_len (v3_bd hv.pb.2.2)) (by omega)
  | 10, _ => Nat.le_trans (lnP_len (v3_bd hv.pd)) (by omega)
  | 11, _ => Nat.le_trans (lnP_len (v2_bd hv.pn)) (by omega)
  | 12, _ => Nat.le_trans (lnP_len (v3_bd hv.pe)) (by omega)
  | k + 13, hk => absurd hk (by omega)
theorem tQ_len {x : Trf} (hv : TV x) : ∀ k, k ≤ 13 → (tQ x k).size ≤ 92 * k
  | 0, _ => Nat.le_refl _
  | k + 1, hk => by
    have := tQ_len hv k (by omega)
    have := lineP_len hv k (by omega)
    show (tQ x k ++ lineP x k).size ≤ _
    rw [app_size]; omega
theorem rtE_zero {t : ByteArray} {x : Trf} (h1 : ¬ 8000 < t.size) (h2 : sT t 13 = ⟨t.size, false⟩) (h3 : ¬ badN x < 13) : rtE t x = 0 := by
  unfold rtE Txt.fin
  rw [if_neg h1, h2, if_neg (Nat.lt_irrefl _), if_neg (by simp), if_neg h3]
/-- what is printed of a tariff is read back -/
theorem tariff_forth {x : Trf} (h : badN x = 13) : rdT (tPT x) (hrP (tPT x)) = x ∧ rtE (tPT x) x = 0 ∧ (tPT x).size ≤ 8000 := by
  have hv := tv h
  have hs := tQ_len hv 13 (Nat.le_refl _)
  rw [tQ_eq] at hs
  have hA : At (tPT x) 0 (tQ x 13) := by rw [tQ_eq]; exact At.self _
  have r := rd_forth hv hA
  refine ⟨r, ?_, by omega⟩
  have q := sT_to hv hA 13 (Nat.le_refl _)
  rw [tQ_eq] at q
  exact rtE_zero (by omega) q (by omega)
theorem rtA_bd (t : ByteArray) (x : Trf) (hx : x = rdT t (hrP t)) : 0 ≤ rtA t x ∧ rtA t x ≤ (t.size : Int) := by
  unfold rtA
  split
  · omega
  · split
    · have := Txt.fin_le (sT_le t 13); omega
    · rename_i h2
      split
      · rename_i h3
        have hf : (fin t (sT t 13)).bad = false := by simpa using h2
        have g := (fin_good hf).2
        rw [lineAt_ok g (by omega)]
        have := sT_le t (badN x); omega
      · omega
end Go.Proofs.YtjaffmmocbplaabDoor
