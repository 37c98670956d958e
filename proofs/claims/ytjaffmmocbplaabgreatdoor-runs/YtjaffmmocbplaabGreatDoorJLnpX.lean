/-
  The program's PrintBill.
-/
import Derived.Test.YtjaffmmocbplaabGreatDoorJLnpW
import Derived.Test.YtjaffmmocbplaabGreatDoorJ18
namespace Go.Proofs.YtjaffmmocbplaabGreatDoor
open Go.RowKit Go.Shelf Bil
set_option linter.unusedVariables false
attribute [local go_sem ↓] Go.wp_at_zero Go.wp_at_succ

def ln0 : Ln := ⟨0, 0, 0, 0, 0, 0, 0, 0, 0, 0, 0, 0, 0, 0, 0⟩
def lAt (l : List Ln) (k : Nat) : Ln := l.getD k ln0
theorem lAt_get {l : List Ln} {k : Nat} (h : k < l.length) : l[k]? = some (lAt l k) := by
  unfold lAt; rw [List.getD_eq_getElem?_getD, List.getElem?_eq_getElem h]; rfl
/-- the text of the first k lines -/
def pbK (l : List Ln) : Nat → ByteArray
  | 0 => ⟨#[]⟩
  | k + 1 => pbK l k ++ lT k (lAt l k)
def pbB (l : List Ln) : Bool := decide (l.length ≤ 200) && l.all lvB
/-- what PrintBill answers -/
def pB (l : List Ln) : ByteArray := if pbB l then pbK l l.length else ⟨#[]⟩
theorem pbK_size {l : List Ln} : ∀ k, k ≤ 200 → (∀ j, j < k → lvB (lAt l j) = true) → (pbK l k).size ≤ 354 * k
  | 0, _, _ => Nat.le_refl _
  | k + 1, hk, h => by
    have := pbK_size k (by omega) (fun j hj => h j (by omega))
    have := lT_size (i := (k : Int)) (x := lAt l k) (by omega) (h k (by omega))
    show (pbK l k ++ lT k (lAt l k)).size ≤ _
    rw [app_size]; omega
theorem pbB_no {l : List Ln} {k : Nat} (hk : k < l.length) (h : lvB (lAt l k) = false) : pbB l = false := by
  cases q : pbB l
  · rfl
  · unfold pbB at q
    rw [Bool.and_eq_true] at q
    have := List.all_eq_true.mp q.2 _ (List.mem_of_getElem? (lAt_get hk))
    rw [this] at h; cases h
theorem pbB_yes {l : List Ln} (hl : l.length ≤ 200) (h : ∀ j, j < l.length → lvB (lAt l j) = true) : pbB l = true := by
  unfold pbB
  rw [Bool.and_eq_true, decide_eq_true_eq]
  refine ⟨hl, List.all_eq_true.mpr fun x hx => ?_⟩
  obtain ⟨i, hi, rfl⟩ := List.mem_iff_getElem.mp hx
  have := h i hi
  have e : lAt l i = l[i] := by unfold lAt; rw [List.getD_eq_getElem?_getD, List.getElem?_eq_getElem hi]; rfl
  rwa [e] at this

set_option maxRecDepth 1000000 in
set_option maxHeartbeats 2000000 in
theorem PrintBill_any (v : Value) (l : List Ln) (w : World) (h : LRow w v l) (ht : TB w) (hl : l.length ≤ maxLen) :
    Calls Tryz.prog 10 #[v] w fun e w' => e = .returned (.string (pB l)) ∧ Below w.heap.size w w' := by
  obtain ⟨a, cap, rfl⟩ := h.form
  unfold maxLen at hl
  by_cases h200 : 200 < l.length
  · have h2 : (200 : Int) < (l.length : Int) := by omega
    have HB : Hid (pB l = ⟨#[]⟩) := by
      show _ = _
      unfold pB pbB
      rw [decide_eq_false (by omega)]; rfl
    clear h ht
    go_enter Tryz.func10, Tryz.ntmps10
    go_wp2_with fail
    go_ret
    exact ⟨by rw [HB.out]; rfl, Below.refl _ _⟩
  have h2 : ¬ (200 : Int) < (l.length : Int) := by omega
  have HV := hideP h
  have HTB := hideP ht
  clear h ht
  go_enter Tryz.func10, Tryz.ntmps10
  go_wp2_with fail
  go_loopw [3, 4] (fun o p wr => ∃ k : Nat, p = .int .i64 k ∧ k ≤ l.length ∧ o = .string (pbK l k) ∧ (∀ j, j < k → lvB (lAt l j) = true) ∧ Below w.heap.size w wr) (fun _ p _ => l.length - (intOf p).toNat)
  case atStart => exact ⟨0, rfl, by omega, rfl, fun j hj => by omega, Below.refl _ _⟩
  case round =>
    obtain ⟨k, rfl, hk, rfl, hall, hb⟩ := hrel
    have HA := hideP hall
    clear hall
    have hsz := hb.size
    by_cases hlt : k < l.length
    · have hlt' : (k : Int) < (l.length : Int) := by omega
      have hk0 : (0 : Int) ≤ (k : Int) := by omega
      have hx := lAt_get hlt
      have HN := hideP (fun h => pbB_no (l := l) hlt h)
      have HS : Hid (∀ (h : lvB (lAt l k) = true), (pbK l k).size + (lT k (lAt l k)).size ≤ 9223372036854775807) := fun h => by
        have a1 := pbK_size (l := l) k (by omega) HA.out
        have a2 := lT_size (i := (k : Int)) (x := lAt l k) (by omega) h
        omega
      have HQ : Hid (lvB (lAt l k) = true → ∀ j, j < k + 1 → lvB (lAt l j) = true) := fun h j hj => by
        rcases Nat.lt_or_ge j k with q | q
        · exact HA.out j q
        · obtain rfl : j = k := by omega
          exact h
      have HE : Hid (pbK l (k + 1) = pbK l k ++ lT k (lAt l k)) := rfl
      obtain ⟨x, hxe⟩ : ∃ x, x = lAt l k := ⟨_, rfl⟩
      rw [← hxe] at hx HN HS HQ HE
      obtain ⟨b, rfl, hcap, hblt, cc⟩ := (HV.out.below hb).at hx
      have hcap' : (l.length : Int) ≤ (cap : Int) := by omega
      have c0 : wr.cell? ⟨b, k * 15, none⟩ = some (.int .i64 x.i0) := cc 0 _ rfl
      have c1 : wr.cell? ⟨b, k * 15 + 1, none⟩ = some (.int .i64 x.i1) := cc 1 _ rfl
      have c2 : wr.cell? ⟨b, k * 15 + 2, none⟩ = some (.int .i64 x.i2) := cc 2 _ rfl
      have c3 : wr.cell? ⟨b, k * 15 + 3, none⟩ = some (.int .i64 x.o) := cc 3 _ rfl
      have c4 : wr.cell? ⟨b, k * 15 + 4, none⟩ = some (.int .i64 x.pk) := cc 4 _ rfl
      have c5 : wr.cell? ⟨b, k * 15 + 5, none⟩ = some (.int .i64 x.bl) := cc 5 _ rfl
      have c6 : wr.cell? ⟨b, k * 15 + 6, none⟩ = some (.int .i64 x.en) := cc 6 _ rfl
      have c7 : wr.cell? ⟨b, k * 15 + 7, none⟩ = some (.int .i64 x.pw) := cc 7 _ rfl
      have c8 : wr.cell? ⟨b, k * 15 + 8, none⟩ = some (.int .i64 x.ap) := cc 8 _ rfl
      have c9 : wr.cell? ⟨b, k * 15 + 9, none⟩ = some (.int .i64 x.ex) := cc 9 _ rfl
      have c10 : wr.cell? ⟨b, k * 15 + 10, none⟩ = some (.int .i64 x.pd) := cc 10 _ rfl
      have c11 : wr.cell? ⟨b, k * 15 + 11, none⟩ = some (.int .i64 x.bk) := cc 11 _ rfl
      have c12 : wr.cell? ⟨b, k * 15 + 12, none⟩ = some (.int .i64 x.su) := cc 12 _ rfl
      have c13 : wr.cell? ⟨b, k * 15 + 13, none⟩ = some (.int .i64 x.tx) := cc 13 _ rfl
      have c14 : wr.cell? ⟨b, k * 15 + 14, none⟩ = some (.int .i64 x.to) := cc 14 _ rfl
      have vl := fun w1 => validLine_any x w1
      have TBr : TB wr := HTB.out.below hb
      clear cc hx hxe
      cases hv : lvB x
      · rw [hv] at vl
        have HF := hideP (HN.out hv)
        clear hv
        go_wp2_with (go_at_call 33; refine (vl _).mono ?_; rintro e w1 ⟨rfl, hb1⟩)
        go_ret
        refine ⟨?_, below_then hb hb1⟩
        unfold pB; rw [HF.out]; rfl
      · rw [hv] at vl
        have lt := fun w1 (h : TB w1) => lineText_any k x w1 h (by omega) hv
        have HF := hideP (HQ.out hv)
        have ad : ∀ w, (Op.stringOp .add (pbK l k) (lT k x)).run Tryz.prog w = .ok (.string (pbK l (k + 1))) w := by rw [HE.out]; exact sadd _ _ (HS.out hv)
        obtain ⟨A, hA⟩ : ∃ A, A = pbK l k := ⟨_, rfl⟩
        rw [← hA] at ad ⊢
        obtain ⟨A', hA'⟩ : ∃ A', A' = pbK l (k + 1) := ⟨_, rfl⟩
        rw [← hA'] at ad
        have HA' := hideP hA'
        obtain ⟨L, hL⟩ : ∃ L, L = lT k x := ⟨_, rfl⟩
        rw [← hL] at ad lt
        clear hA hA' hL hv
        go_wp2_with (first
          | (go_at_call 33; refine (vl _).mono ?_; rintro e w1 ⟨rfl, hb1⟩; have d0 := vcell_below hb1 hblt c0; have d1 := vcell_below hb1 hblt c1; have d2 := vcell_below hb1 hblt c2; have d3 := vcell_below hb1 hblt c3; have d4 := vcell_below hb1 hblt c4; have d5 := vcell_below hb1 hblt c5; have d6 := vcell_below hb1 hblt c6; have d7 := vcell_below hb1 hblt c7; have d8 := vcell_below hb1 hblt c8; have d9 := vcell_below hb1 hblt c9; have d10 := vcell_below hb1 hblt c10; have d11 := vcell_below hb1 hblt c11; have d12 := vcell_below hb1 hblt c12; have d13 := vcell_below hb1 hblt c13; have d14 := vcell_below hb1 hblt c14; have TB1 := TB.below TBr hb1)
          | (go_at_call 34; refine (lt _ TB1).mono ?_; rintro e w2 ⟨rfl, hb2⟩))
        go_roundw
        case rel => exact ⟨k + 1, by go_num, by omega, by rw [HA'.out], HF.out, below_then (below_then hb hb1) hb2⟩
        case measure => simp [intOf]; omega
    · have hlt' : ¬ (k : Int) < (l.length : Int) := by omega
      have hkn : k = l.length := by omega
      subst hkn
      have HF : Hid (pB l = pbK l l.length) := by
        show _ = _
        unfold pB; rw [pbB_yes (by omega) HA.out]; rfl
      obtain ⟨A, hA⟩ : ∃ A, A = pbK l l.length := ⟨_, rfl⟩
      rw [← hA] at HF ⊢
      clear hA
      go_wp2_with fail
      go_ret
      exact ⟨by rw [HF.out]; rfl, hb⟩
end Go.Proofs.YtjaffmmocbplaabGreatDoor
