/-
  LnpX, PrtD in one text.
-/
import Derived.Test.YtjaffmmocbplaabDoorJLnpW
import Derived.Test.YtjaffmmocbplaabDoorJ15
import Derived.Test.YtjaffmmocbplaabDoorJPrtX
import Derived.Laws.BytesArg
namespace Go.Proofs.YtjaffmmocbplaabDoor
open Go.RowKit Go.Shelf Bil
set_option linter.unusedVariables false
attribute [local go_sem ↓] Go.wp_at_zero Go.wp_at_succ

def ln0 : Ln := ⟨0, 0, 0, 0, 0, 0, 0, 0, 0, 0, 0, 0, 0, 0, 0⟩
def lAt (l : List Ln) (k : Nat) : Ln := l.getD k ln0
theorem lAt_get {l : List Ln} {k : Nat} (h : k < l.length) : l[k]? = some (lAt l k) := by
  unfold lAt; rw [List.getD_eq_getElem?_getD, List.getElem?_eq_getElem h]; rfl
/-- the text of the first k lines -/
def pbK (l : List Ln) : Nat → ByteArray
  | 0 => ⟨#[]⟩
  | k + 1 => pbK l k ++ lT k (lAt l k)
def pbB (l : List Ln) : Bool := decide (l.length ≤ 200) && l.all lvB
/-- what PrintBill answers -/
def pB (l : List Ln) : ByteArray := if pbB l then pbK l l.length else ⟨#[]⟩
theorem pbK_size {l : List Ln} : ∀ k, k ≤ 200 → (∀ j, j < k → lvB (lAt l j) = true) → (pbK l k).size ≤ 354 * k
  | 0, _, _ => Nat.le_refl _
  | k + 1, hk, h => by
    have := pbK_size k (by omega) (fun j hj => h j (by omega))
    have := lT_size (i := (k : Int)) (x := lAt l k) (by omega) (h k (by omega))
    show (pbK l k ++ lT k (lAt l k)).size ≤ _
    rw [app_size]; omega
theorem pbB_no {l : List Ln} {k : Nat} (hk : k < l.length) (h : lvB (lAt l k) = false) : pbB l = false := by
  cases q : pbB l
  · rfl
  · unfold pbB at q
    rw [Bool.and_eq_true] at q
    have := List.all_eq_true.mp q.2 _ (List.mem_of_getElem? (lAt_get hk))
    rw [this] at h; cases h
theorem pbB_yes {l : List Ln} (hl : l.length ≤ 200) (h : ∀ j, j < l.length → lvB (lAt l j) = true) : pbB l = true := by
  unfold pbB
  rw [Bool.and_eq_true, decide_eq_true_eq]
  refine ⟨hl, List.all_eq_true.mpr fun x hx => ?_⟩
  obtain ⟨i, hi, rfl⟩ := List.mem_iff_getElem.mp hx
  have := h i hi
  have e : lAt l i = l[i] := by unfold lAt; rw [List.getD_eq_getElem?_getD, List.getElem?_eq_getElem hi]; rfl
  rwa [e] at this

set_option maxRecDepth 1000000 in
set_option maxHeartbeats 2000000 in
theorem PrintBill_any (v : Value) (l : List Ln) (w : World) (h : LRow w v l) (ht : TB w) (hl : l.length ≤ maxLen) :
    Calls Tryd.prog 5 #[v] w fun e w' => e = .returned (.string (pB l)) ∧ Below w.heap.size w w' := by
  obtain ⟨a, cap, rfl⟩ := h.form
  unfold maxLen at hl
  by_cases h200 : 200 < l.length
  · have h2 : (200 : Int) < (l.length : Int) := by omega
    have HB : Hid (pB l = ⟨#[]⟩) := by
      show _ = _
      unfold pB pbB
      rw [decide_eq_false (by omega)]; rfl
    clear h ht
    go_enter Tryd.func5, Tryd.ntmps5
    go_wp2_with fail
    go_ret
    exact ⟨by rw [HB.out]; rfl, Below.refl _ _⟩
  have h2 : ¬ (200 : Int) < (l.length : Int) := by omega
  have HV := hideP h
  have HTB := hideP ht
  clear h ht
  go_enter Tryd.func5, Tryd.ntmps5
  go_wp2_with fail
  go_loopw [3, 4] (fun o p wr => ∃ k : Nat, p = .int .i64 k ∧ k ≤ l.length ∧ o = .string (pbK l k) ∧ (∀ j, j < k → lvB (lAt l j) = true) ∧ Below w.heap.size w wr) (fun _ p _ => l.length - (intOf p).toNat)
  case atStart => exact ⟨0, rfl, by omega, rfl, fun j hj => by omega, Below.refl _ _⟩
  case round =>
    obtain ⟨k, rfl, hk, rfl, hall, hb⟩ := hrel
    have HA := hideP hall
    clear hall
    have hsz := hb.size
    by_cases hlt : k < l.length
    · have hlt' : (k : Int) < (l.length : Int) := by omega
      have hk0 : (0 : Int) ≤ (k : Int) := by omega
      have hx := lAt_get hlt
      have HN := hideP (fun h => pbB_no (l := l) hlt h)
      have HS : Hid (∀ (h : lvB (lAt l k) = true), (pbK l k).size + (lT k (lAt l k)).size ≤ 9223372036854775807) := fun h => by
        have a1 := pbK_size (l := l) k (by omega) HA.out
        have a2 := lT_size (i := (k : Int)) (x := lAt l k) (by omega) h
        omega
      have HQ : Hid (lvB (lAt l k) = true → ∀ j, j < k + 1 → lvB (lAt l j) = true) := fun h j hj => by
        rcases Nat.lt_or_ge j k with q | q
        · exact HA.out j q
        · obtain rfl : j = k := by omega
          exact h
      have HE : Hid (pbK l (k + 1) = pbK l k ++ lT k (lAt l k)) := rfl
      obtain ⟨x, hxe⟩ : ∃ x, x = lAt l k := ⟨_, rfl⟩
      rw [← hxe] at hx HN HS HQ HE
      obtain ⟨b, rfl, hcap, hblt, cc⟩ := (HV.out.below hb).at hx
      have hcap' : (l.length : Int) ≤ (cap : Int) := by omega
      have c0 : wr.cell? ⟨b, k * 15, none⟩ = some (.int .i64 x.i0) := cc 0 _ rfl
      have c1 : wr.cell? ⟨b, k * 15 + 1, none⟩ = some (.int .i64 x.i1) := cc 1 _ rfl
      have c2 : wr.cell? ⟨b, k * 15 + 2, none⟩ = some (.int .i64 x.i2) := cc 2 _ rfl
      have c3 : wr.cell? ⟨b, k * 15 + 3, none⟩ = some (.int .i64 x.o) := cc 3 _ rfl
      have c4 : wr.cell? ⟨b, k * 15 + 4, none⟩ = some (.int .i64 x.pk) := cc 4 _ rfl
      have c5 : wr.cell? ⟨b, k * 15 + 5, none⟩ = some (.int .i64 x.bl) := cc 5 _ rfl
      have c6 : wr.cell? ⟨b, k * 15 + 6, none⟩ = some (.int .i64 x.en) := cc 6 _ rfl
      have c7 : wr.cell? ⟨b, k * 15 + 7, none⟩ = some (.int .i64 x.pw) := cc 7 _ rfl
      have c8 : wr.cell? ⟨b, k * 15 + 8, none⟩ = some (.int .i64 x.ap) := cc 8 _ rfl
      have c9 : wr.cell? ⟨b, k * 15 + 9, none⟩ = some (.int .i64 x.ex) := cc 9 _ rfl
      have c10 : wr.cell? ⟨b, k * 15 + 10, none⟩ = some (.int .i64 x.pd) := cc 10 _ rfl
      have c11 : wr.cell? ⟨b, k * 15 + 11, none⟩ = some (.int .i64 x.bk) := cc 11 _ rfl
      have c12 : wr.cell? ⟨b, k * 15 + 12, none⟩ = some (.int .i64 x.su) := cc 12 _ rfl
      have c13 : wr.cell? ⟨b, k * 15 + 13, none⟩ = some (.int .i64 x.tx) := cc 13 _ rfl
      have c14 : wr.cell? ⟨b, k * 15 + 14, none⟩ = some (.int .i64 x.to) := cc 14 _ rfl
      have vl := fun w1 => validLine_any x w1
      have TBr : TB wr := HTB.out.below hb
      clear cc hx hxe
      cases hv : lvB x
      · rw [hv] at vl
        have HF := hideP (HN.out hv)
        clear hv
        go_wp2_with (go_at_call 16; refine (vl _).mono ?_; rintro e w1 ⟨rfl, hb1⟩)
        go_ret
        refine ⟨?_, below_then hb hb1⟩
        unfold pB; rw [HF.out]; rfl
      · rw [hv] at vl
        have lt := fun w1 (h : TB w1) => lineText_any k x w1 h (by omega) hv
        have HF := hideP (HQ.out hv)
        have ad : ∀ w, (Op.stringOp .add (pbK l k) (lT k x)).run Tryd.prog w = .ok (.string (pbK l (k + 1))) w := by rw [HE.out]; exact sadd _ _ (HS.out hv)
        obtain ⟨A, hA⟩ : ∃ A, A = pbK l k := ⟨_, rfl⟩
        rw [← hA] at ad ⊢
        obtain ⟨A', hA'⟩ : ∃ A', A' = pbK l (k + 1) := ⟨_, rfl⟩
        rw [← hA'] at ad
        have HA' := hideP hA'
        obtain ⟨L, hL⟩ : ∃ L, L = lT k x := ⟨_, rfl⟩
        rw [← hL] at ad lt
        clear hA hA' hL hv
        go_wp2_with (first
          | (go_at_call 16; refine (vl _).mono ?_; rintro e w1 ⟨rfl, hb1⟩; have d0 := vcell_below hb1 hblt c0; have d1 := vcell_below hb1 hblt c1; have d2 := vcell_below hb1 hblt c2; have d3 := vcell_below hb1 hblt c3; have d4 := vcell_below hb1 hblt c4; have d5 := vcell_below hb1 hblt c5; have d6 := vcell_below hb1 hblt c6; have d7 := vcell_below hb1 hblt c7; have d8 := vcell_below hb1 hblt c8; have d9 := vcell_below hb1 hblt c9; have d10 := vcell_below hb1 hblt c10; have d11 := vcell_below hb1 hblt c11; have d12 := vcell_below hb1 hblt c12; have d13 := vcell_below hb1 hblt c13; have d14 := vcell_below hb1 hblt c14; have TB1 := TB.below TBr hb1)
          | (go_at_call 17; refine (lt _ TB1).mono ?_; rintro e w2 ⟨rfl, hb2⟩))
        go_roundw
        case rel => exact ⟨k + 1, by go_num, by omega, by rw [HA'.out], HF.out, below_then (below_then hb hb1) hb2⟩
        case measure => simp [intOf]; omega
    · have hlt' : ¬ (k : Int) < (l.length : Int) := by omega
      have hkn : k = l.length := by omega
      subst hkn
      have HF : Hid (pB l = pbK l l.length) := by
        show _ = _
        unfold pB; rw [pbB_yes (by omega) HA.out]; rfl
      obtain ⟨A, hA⟩ : ∃ A, A = pbK l l.length := ⟨_, rfl⟩
      rw [← hA] at HF ⊢
      clear hA
      go_wp2_with fail
      go_ret
      exact ⟨by rw [HF.out]; rfl, hb⟩
end Go.Proofs.YtjaffmmocbplaabDoor

namespace Go.Proofs.YtjaffmmocbplaabDoor
open Go.RowKit Go.Shelf
set_option linter.unusedVariables false
attribute [local go_sem ↓] Go.wp_at_zero Go.wp_at_succ
theorem dig_small {n : Nat} (h : n < 10) : dS (n : Int) = ⟨#[UInt8.ofNat (48 + n)]⟩ := by
  unfold dS; rw [Int.toNat_natCast, Lib.decDigits, dif_pos h]
theorem dig_big {n : Nat} (h : ¬ n < 10) : dS (n : Int) = dS ((n / 10 : Nat) : Int) ++ ⟨#[UInt8.ofNat (48 + n % 10)]⟩ := by
  unfold dS; rw [Int.toNat_natCast, Int.toNat_natCast, Lib.decDigits, dif_neg h]
  apply ByteArray.ext; simp
set_option maxRecDepth 100000 in
set_option maxHeartbeats 1000000 in
theorem Dec_any (n : Nat) (hn : n ≤ 9000000000000000) : ∀ w : World,
    Calls Tryd.prog 20 #[.int .i64 n] w fun e w' => e = .returned (.string (dS n)) ∧ Below w.heap.size w w' := by
  induction n using Nat.strongRecOn with
  | _ n ih =>
    intro w
    have hm : (n : Int).tmod 10 = ((n % 10 : Nat) : Int) := by rw [Int.tmod_eq_emod_of_nonneg (by omega)]; omega
    have hd : (n : Int).tdiv 10 = ((n / 10 : Nat) : Int) := by rw [Int.tdiv_eq_ediv_of_nonneg (by omega)]; omega
    have hk : n % 10 < 10 := Nat.mod_lt _ (by omega)
    obtain ⟨d, hdd⟩ : ∃ d, d = n % 10 := ⟨_, rfl⟩
    rw [← hdd] at hm hk
    have cv := fun (w0 : World) (c0 : w0.cell? ⟨w.heap.size, 0, none⟩ = some (.int .u8 (48 + (d : Int)))) => run_convert_bytes_arg (P := Tryd.prog) w0 104 5 Tryd.underlying104 Tryd.underlying5 w.heap.size 0 1 1 [48 + (d : Int)] rfl (fun i hi => by
      have e : i = 0 := by simp at hi; omega
      subst e; simpa using c0) 9 Tryd.underlying9
    have cv1 := cv (w.alloc (.cells #[.int .u8 (48 + (d : Int))] 5)) (by simp [go_sem])
    have es : strOfNums [48 + (d : Int)] = ⟨#[UInt8.ofNat (48 + d)]⟩ := by
      unfold strOfNums
      have : (48 + (d : Int)).toNat = 48 + d := by omega
      simp [this]
    rw [es] at cv1
    obtain ⟨D1, hD1⟩ : ∃ D : ByteArray, D = ⟨#[UInt8.ofNat (48 + d)]⟩ := ⟨_, rfl⟩
    rw [← hD1] at cv1
    have sD1 : D1.size = 1 := by rw [hD1]; rfl
    have HD1 := hideP hD1
    have kw : IntKind.u8.wrap (48 + (d : Int)) = 48 + (d : Int) := by
      show (48 + (d : Int)) % 256 = _
      omega
    clear cv es hD1
    by_cases h10 : n < 10
    · have h10' : (n : Int) < 10 := by omega
      have HS : Hid (dS (n : Int) = D1) := by show _ = _; rw [HD1.out, dig_small h10]; rw [show n = d by omega]
      clear ih hdd hd HD1
      go_enter Tryd.func20, Tryd.ntmps20
      go_wp2_with fail
      go_ret
      exact ⟨ret_str HS.out, below_more (Below.refl _ _) _⟩
    · have h10' : ¬ (n : Int) < 10 := by omega
      have HS : Hid (dS (n : Int) = dS ((n / 10 : Nat) : Int) ++ D1) := by show _ = _; rw [HD1.out, dig_big h10, hdd]
      have ihn := ih (n / 10) (by omega) (by omega)
      have sz := dS_size (n := ((n / 10 : Nat) : Int)) (by omega) (by omega)
      obtain ⟨m, hmm⟩ : ∃ m, m = n / 10 := ⟨_, rfl⟩
      rw [← hmm] at ihn sz HS hd
      have ad : ∀ w, (Op.stringOp .add (dS (m : Int)) D1).run Tryd.prog w = .ok (.string (dS (m : Int) ++ D1)) w := sadd _ _ (by omega)
      have mb : (m : Int) ≤ 9000000000000000 := by omega
      have mb0 : (0 : Int) ≤ (m : Int) := by omega
      clear ih hdd hmm HD1
      go_enter Tryd.func20, Tryd.ntmps20
      go_wp2_with (go_at_call 20; refine (ihn _).mono ?_; rintro e w1 ⟨rfl, hb1⟩)
      go_ret
      exact ⟨ret_str HS.out, below_then (below_more (Below.refl _ _) _) hb1⟩
/-- the numbers of a row, up to k -/
def rowK (c : ByteArray) (l : List Int) : Nat → ByteArray
  | 0 => c
  | k + 1 => rowK c l k ++ ⟨#[32]⟩ ++ dS (l.getD k 0)
def rowS (c : ByteArray) (l : List Int) : ByteArray := rowK c l l.length ++ ⟨#[10]⟩
theorem rowK_size {c : ByteArray} {l : List Int} (h : ∀ k, k < l.length → nB (l.getD k 0)) : ∀ k, k ≤ l.length → (rowK c l k).size ≤ c.size + 22 * k
  | 0, _ => Nat.le_refl _
  | k + 1, hk => by
    have := rowK_size (c := c) h k (by omega)
    have := (h k (by omega)).d
    show (rowK c l k ++ ⟨#[32]⟩ ++ dS (l.getD k 0)).size ≤ _
    rw [app_size, app_size]; show _ + 1 + _ ≤ _; omega
theorem rowS_size {c : ByteArray} {l : List Int} (h : ∀ k, k < l.length → nB (l.getD k 0)) : (rowS c l).size ≤ c.size + 22 * l.length + 1 := by
  have := rowK_size (c := c) h l.length (Nat.le_refl _)
  unfold rowS; rw [app_size]; show _ + 1 ≤ _; omega
set_option maxRecDepth 100000 in
set_option maxHeartbeats 1000000 in
theorem row_any (c : ByteArray) (l : List Int) (g : Nat) (w : World) (hg : g < w.heap.size) (hc : ∀ i, i < l.length → w.cell? ⟨g, i, none⟩ = some (.int .i64 (l.getD i 0))) (hn : ∀ k, k < l.length → nB (l.getD k 0)) (hl : l.length ≤ 20) (hs : c.size ≤ 1000) :
    Calls Tryd.prog 19 #[.string c, .slice (some ⟨g, 0, none⟩) l.length l.length] w fun e w' => e = .returned (.string (rowS c l)) ∧ Below w.heap.size w w' := by
  have RS := hideP (rowK_size (c := c) hn)
  have HC := hideP hc
  have HN := hideP hn
  clear hc hn
  go_enter Tryd.func19, Tryd.ntmps19
  go_wp2_with fail
  go_loopw [0, 5] (fun s p wr => ∃ k : Nat, p = .int .i64 k ∧ k ≤ l.length ∧ s = .string (rowK c l k) ∧ Below w.heap.size w wr) (fun _ p _ => l.length - (intOf p).toNat)
  case atStart => exact ⟨0, rfl, by omega, rfl, Below.refl _ _⟩
  case round =>
    obtain ⟨k, rfl, hk, rfl, hb⟩ := hrel
    have sk := RS.out k hk
    by_cases hlt : k < l.length
    · have hlt' : (k : Int) < (l.length : Int) := by omega
      have hk0 : (0 : Int) ≤ (k : Int) := by omega
      have ck := vcell_below hb hg (HC.out k hlt)
      have nk := HN.out k hlt
      have HS : Hid (rowK c l (k + 1) = rowK c l k ++ ⟨#[32]⟩ ++ dS (l.getD k 0)) := rfl
      obtain ⟨N, hN⟩ : ∃ N : Nat, l.getD k 0 = (N : Int) := ⟨(l.getD k 0).toNat, by have := nk.1; omega⟩
      rw [hN] at ck nk HS
      have dc := Dec_any N (by have := nk.2; omega)
      have sd := nk.d
      obtain ⟨X, hX⟩ : ∃ X, X = rowK c l k := ⟨_, rfl⟩
      rw [← hX] at sk HS
      rw [← hX]
      obtain ⟨Y, hY⟩ : ∃ Y, Y = X ++ (⟨#[32]⟩ : ByteArray) := ⟨_, rfl⟩
      have sY : Y.size = X.size + 1 := by rw [hY, app_size]; rfl
      have a1 : ∀ w, (Op.stringOp .add X ⟨#[32]⟩).run Tryd.prog w = .ok (.string Y) w := by rw [hY]; exact sadd _ _ (by show _ + 1 ≤ _; omega)
      have a2 : ∀ w, (Op.stringOp .add Y (dS (N : Int))).run Tryd.prog w = .ok (.string (Y ++ dS (N : Int))) w := sadd _ _ (by omega)
      have HY := hideP hY
      clear hN hX hY
      go_wp2_with (go_at_call 20; refine (dc _).mono ?_; rintro e w1 ⟨rfl, hb1⟩)
      go_roundw
      case rel => exact ⟨k + 1, by go_num, by omega, by rw [HS.out, HY.out], below_then hb hb1⟩
      case measure => simp [intOf]; omega
    · have hlt' : ¬ (k : Int) < (l.length : Int) := by omega
      have hke : k = l.length := by omega
      obtain ⟨X, hX⟩ : ∃ X, X = rowK c l k := ⟨_, rfl⟩
      rw [← hX] at sk
      rw [← hX]
      have a1 : ∀ w, (Op.stringOp .add X ⟨#[10]⟩).run Tryd.prog w = .ok (.string (X ++ ⟨#[10]⟩)) w := sadd _ _ (by show _ + 1 ≤ _; omega)
      have HX : Hid (X = rowK c l l.length) := by show _ = _; rw [hX, hke]
      clear hX hke
      go_wp2_with fail
      go_ret
      exact ⟨ret_str (by unfold rowS; rw [HX.out]), hb⟩
theorem nB.dec {n : Int} (h : nB n) (w : World) : Calls Tryd.prog 20 #[.int .i64 n] w fun e w' => e = .returned (.string (dS n)) ∧ Below w.heap.size w w' := by
  obtain ⟨N, rfl⟩ : ∃ N : Nat, n = (N : Int) := ⟨n.toNat, by have := h.1; omega⟩
  exact Dec_any N (by have := h.2; omega) w
theorem row_cells {w : World} {g : Nat} {xs : List Int} (h : w.heap[g]? = some (.cells (xs.map (Value.int .i64)).toArray 3 (0, 0))) : ∀ i, i < xs.length → w.cell? ⟨g, i, none⟩ = some (.int .i64 (xs.getD i 0)) := fun i hi => by
  rw [cell_of_row _ _ _ _ _ _ h]
  simp [hi]
theorem row_lt {w : World} {g : Nat} {o : Obj} (h : w.heap[g]? = some o) : g < w.heap.size := (Array.getElem?_eq_some_iff.1 h).1
theorem nb_nil : ∀ k, k < ([] : List Int).length → nB (([] : List Int).getD k 0) := fun k hk => by simp at hk
theorem nb_cons {x : Int} {xs : List Int} (h : nB x) (t : ∀ k, k < xs.length → nB (xs.getD k 0)) : ∀ k, k < (x :: xs).length → nB ((x :: xs).getD k 0)
  | 0, _ => h
  | k + 1, hk => t k (by simpa using hk)
theorem alloc_far {w : World} {g : Nat} {o : Obj} {q : Option Obj} (h : w.heap[g]? = q) (hg : g < w.heap.size) : (w.alloc o).heap[g]? = q := (heap_alloc_old _ _ hg).trans h
end Go.Proofs.YtjaffmmocbplaabDoor
