/-
  Lines that came in: PrintBill and the document's lines (made by tools/genlnpo.py).
-/
import Derived.Test.YtjaffmmocbplaabDoorJLnpX
import Derived.Test.YtjaffmmocbplaabDoorJLinW
namespace Go.Proofs.YtjaffmmocbplaabDoor
open Go.RowKit Go.Shelf Bil
set_option linter.unusedVariables false
attribute [local go_sem ↓] Go.wp_at_zero Go.wp_at_succ

/-- a slice of lines reads as the list l, wherever it begins -/
def LRowO (w : World) (v : Value) (l : List Ln) : Prop :=
  ∃ a cap, v = .slice a l.length cap ∧ (l = [] ∨ ∃ b off, a = some ⟨b, off, none⟩ ∧ l.length ≤ cap ∧ b < w.heap.size ∧
    ∀ i x, l[i]? = some x → ∀ j u, (lcell x)[j]? = some u → w.cell? ⟨b, off + i * 15 + j, none⟩ = some u)
theorem LRowO.form {w : World} {v : Value} {l : List Ln} (h : LRowO w v l) : ∃ a cap, v = .slice a l.length cap := by
  obtain ⟨a, cap, hv, _⟩ := h; exact ⟨a, cap, hv⟩
theorem LRowO.below {w w' : World} {v : Value} {l : List Ln} (h : LRowO w v l) (hb : Below w.heap.size w w') : LRowO w' v l := by
  obtain ⟨a, cap, hv, h⟩ := h
  refine ⟨a, cap, hv, h.imp id ?_⟩
  rintro ⟨b, off, ha, hc, hlt, h⟩
  have := hb.size
  exact ⟨b, off, ha, hc, by omega, fun i x hx j u hu => vcell_below hb hlt (h i x hx j u hu)⟩
theorem LRowO.at {w : World} {a : Option Addr} {n cap : Nat} {l : List Ln} (h : LRowO w (.slice a n cap) l) {k : Nat} {x : Ln} (hx : l[k]? = some x) :
    ∃ b off, a = some ⟨b, off, none⟩ ∧ n ≤ cap ∧ b < w.heap.size ∧ ∀ j u, (lcell x)[j]? = some u → w.cell? ⟨b, off + k * 15 + j, none⟩ = some u := by
  obtain ⟨a', cap', hv, h⟩ := h
  cases hv
  rcases h with rfl | ⟨b, off, rfl, hc, hlt, h⟩
  · simp at hx
  · exact ⟨b, off, rfl, hc, hlt, h k x hx⟩

set_option maxRecDepth 1000000 in
set_option maxHeartbeats 2000000 in
theorem PrintBillO_any (v : Value) (l : List Ln) (w : World) (h : LRowO w v l) (ht : TB w) (hl : l.length ≤ maxLen) :
    Calls Tryd.prog 5 #[v] w fun e w' => e = .returned (.string (pB l)) ∧ Below w.heap.size w w' := by
  obtain ⟨a, cap, rfl⟩ := h.form
  unfold maxLen at hl
  by_cases h200 : 200 < l.length
  · have h2 : (200 : Int) < (l.length : Int) := by omega
    have HB : Hid (pB l = ⟨#[]⟩) := by
      show _ = _
      unfold pB pbB
      rw [decide_eq_false (by omega)]; rfl
    clear h ht
    go_enter Tryd.func5, Tryd.ntmps5
    go_wp2_with fail
    go_ret
    exact ⟨by rw [HB.out]; rfl, Below.refl _ _⟩
  have h2 : ¬ (200 : Int) < (l.length : Int) := by omega
  have HV := hideP h
  have HTB := hideP ht
  clear h ht
  go_enter Tryd.func5, Tryd.ntmps5
  go_wp2_with fail
  go_loopw [3, 4] (fun o p wr => ∃ k : Nat, p = .int .i64 k ∧ k ≤ l.length ∧ o = .string (pbK l k) ∧ (∀ j, j < k → lvB (lAt l j) = true) ∧ Below w.heap.size w wr) (fun _ p _ => l.length - (intOf p).toNat)
  case atStart => exact ⟨0, rfl, by omega, rfl, fun j hj => by omega, Below.refl _ _⟩
  case round =>
    obtain ⟨k, rfl, hk, rfl, hall, hb⟩ := hrel
    have HA := hideP hall
    clear hall
    have hsz := hb.size
    by_cases hlt : k < l.length
    · have hlt' : (k : Int) < (l.length : Int) := by omega
      have hk0 : (0 : Int) ≤ (k : Int) := by omega
      have hx := lAt_get hlt
      have HN := hideP (fun h => pbB_no (l := l) hlt h)
      have HS : Hid (∀ (h : lvB (lAt l k) = true), (pbK l k).size + (lT k (lAt l k)).size ≤ 9223372036854775807) := fun h => by
        have a1 := pbK_size (l := l) k (by omega) HA.out
        have a2 := lT_size (i := (k : Int)) (x := lAt l k) (by omega) h
        omega
      have HQ : Hid (lvB (lAt l k) = true → ∀ j, j < k + 1 → lvB (lAt l j) = true) := fun h j hj => by
        rcases Nat.lt_or_ge j k with q | q
        · exact HA.out j q
        · obtain rfl : j = k := by omega
          exact h
      have HE : Hid (pbK l (k + 1) = pbK l k ++ lT k (lAt l k)) := rfl
      obtain ⟨x, hxe⟩ : ∃ x, x = lAt l k := ⟨_, rfl⟩
      rw [← hxe] at hx HN HS HQ HE
      obtain ⟨b, off, rfl, hcap, hblt, cc⟩ := (HV.out.below hb).at hx
      have hcap' : (l.length : Int) ≤ (cap : Int) := by omega
      have c0 : wr.cell? ⟨b, off + k * 15, none⟩ = some (.int .i64 x.i0) := cc 0 _ rfl
      have c1 : wr.cell? ⟨b, off + k * 15 + 1, none⟩ = some (.int .i64 x.i1) := cc 1 _ rfl
      have c2 : wr.cell? ⟨b, off + k * 15 + 2, none⟩ = some (.int .i64 x.i2) := cc 2 _ rfl
      have c3 : wr.cell? ⟨b, off + k * 15 + 3, none⟩ = some (.int .i64 x.o) := cc 3 _ rfl
      have c4 : wr.cell? ⟨b, off + k * 15 + 4, none⟩ = some (.int .i64 x.pk) := cc 4 _ rfl
      have c5 : wr.cell? ⟨b, off + k * 15 + 5, none⟩ = some (.int .i64 x.bl) := cc 5 _ rfl
      have c6 : wr.cell? ⟨b, off + k * 15 + 6, none⟩ = some (.int .i64 x.en) := cc 6 _ rfl
      have c7 : wr.cell? ⟨b, off + k * 15 + 7, none⟩ = some (.int .i64 x.pw) := cc 7 _ rfl
      have c8 : wr.cell? ⟨b, off + k * 15 + 8, none⟩ = some (.int .i64 x.ap) := cc 8 _ rfl
      have c9 : wr.cell? ⟨b, off + k * 15 + 9, none⟩ = some (.int .i64 x.ex) := cc 9 _ rfl
      have c10 : wr.cell? ⟨b, off + k * 15 + 10, none⟩ = some (.int .i64 x.pd) := cc 10 _ rfl
      have c11 : wr.cell? ⟨b, off + k * 15 + 11, none⟩ = some (.int .i64 x.bk) := cc 11 _ rfl
      have c12 : wr.cell? ⟨b, off + k * 15 + 12, none⟩ = some (.int .i64 x.su) := cc 12 _ rfl
      have c13 : wr.cell? ⟨b, off + k * 15 + 13, none⟩ = some (.int .i64 x.tx) := cc 13 _ rfl
      have c14 : wr.cell? ⟨b, off + k * 15 + 14, none⟩ = some (.int .i64 x.to) := cc 14 _ rfl
      have vl := fun w1 => validLine_any x w1
      have TBr : TB wr := HTB.out.below hb
      clear cc hx hxe
      cases hv : lvB x
      · rw [hv] at vl
        have HF := hideP (HN.out hv)
        clear hv
        go_wp2_with (go_at_call 16; refine (vl _).mono ?_; rintro e w1 ⟨rfl, hb1⟩)
        go_ret
        refine ⟨?_, below_then hb hb1⟩
        unfold pB; rw [HF.out]; rfl
      · rw [hv] at vl
        have lt := fun w1 (h : TB w1) => lineText_any k x w1 h (by omega) hv
        have HF := hideP (HQ.out hv)
        have ad : ∀ w, (Op.stringOp .add (pbK l k) (lT k x)).run Tryd.prog w = .ok (.string (pbK l (k + 1))) w := by rw [HE.out]; exact sadd _ _ (HS.out hv)
        obtain ⟨A, hA⟩ : ∃ A, A = pbK l k := ⟨_, rfl⟩
        rw [← hA] at ad ⊢
        obtain ⟨A', hA'⟩ : ∃ A', A' = pbK l (k + 1) := ⟨_, rfl⟩
        rw [← hA'] at ad
        have HA' := hideP hA'
        obtain ⟨L, hL⟩ : ∃ L, L = lT k x := ⟨_, rfl⟩
        rw [← hL] at ad lt
        clear hA hA' hL hv
        go_wp2_with (first
          | (go_at_call 16; refine (vl _).mono ?_; rintro e w1 ⟨rfl, hb1⟩; have d0 := vcell_below hb1 hblt c0; have d1 := vcell_below hb1 hblt c1; have d2 := vcell_below hb1 hblt c2; have d3 := vcell_below hb1 hblt c3; have d4 := vcell_below hb1 hblt c4; have d5 := vcell_below hb1 hblt c5; have d6 := vcell_below hb1 hblt c6; have d7 := vcell_below hb1 hblt c7; have d8 := vcell_below hb1 hblt c8; have d9 := vcell_below hb1 hblt c9; have d10 := vcell_below hb1 hblt c10; have d11 := vcell_below hb1 hblt c11; have d12 := vcell_below hb1 hblt c12; have d13 := vcell_below hb1 hblt c13; have d14 := vcell_below hb1 hblt c14; have TB1 := TB.below TBr hb1)
          | (go_at_call 17; refine (lt _ TB1).mono ?_; rintro e w2 ⟨rfl, hb2⟩))
        go_roundw
        case rel => exact ⟨k + 1, by go_num, by omega, by rw [HA'.out], HF.out, below_then (below_then hb hb1) hb2⟩
        case measure => simp [intOf]; omega
    · have hlt' : ¬ (k : Int) < (l.length : Int) := by omega
      have hkn : k = l.length := by omega
      subst hkn
      have HF : Hid (pB l = pbK l l.length) := by
        show _ = _
        unfold pB; rw [pbB_yes (by omega) HA.out]; rfl
      obtain ⟨A, hA⟩ : ∃ A, A = pbK l l.length := ⟨_, rfl⟩
      rw [← hA] at HF ⊢
      clear hA
      go_wp2_with fail
      go_ret
      exact ⟨by rw [HF.out]; rfl, hb⟩

set_option maxRecDepth 100000 in
set_option maxHeartbeats 2000000 in
theorem linesO_any (v : Value) (l : List Ln) (w : World) (h : LRowO w v l) (hl : l.length * 120 ≤ 140737488351232) :
    Calls Tryd.prog 7 #[v] w fun e w' => ∃ v', e = .returned v' ∧ w'.ownsRow w.heap.size 65 15 v' l.length (lcs l) ∧ Below w.heap.size w w' := by
  obtain ⟨i0, hi, hz0, hz1, hz2⟩ := info_parts infoRL
  obtain ⟨a, cap, rfl⟩ := h.form
  have HV := hideF h
  clear h
  go_enter Tryd.func7, Tryd.ntmps7
  go_wp2_with fail
  go_loopw [3, 4] (fun f p wr => ∃ k : Nat, p = .int .i64 k ∧ k ≤ l.length ∧ wr.ownsRow w.heap.size 65 15 f k (lcs (l.take k)) ∧ Below w.heap.size w wr) (fun _ p _ => l.length - (intOf p).toNat)
  case atStart => exact ⟨0, rfl, by omega, World.ownsRow_nil _ _ _ _, Below.refl _ _⟩
  case round =>
    obtain ⟨k, rfl, hk, hown, hb⟩ := hrel
    obtain ⟨a0, cap0, rfl⟩ := own_slice hown
    have hsz := hb.size
    by_cases hlt : k < l.length
    · have hlt' : (k : Int) < (l.length : Int) := by omega
      have hk0 : (0 : Int) ≤ (k : Int) := by omega
      obtain ⟨x, hx⟩ : ∃ x, l[k]? = some x := ⟨l[k], List.getElem?_eq_getElem hlt⟩
      obtain ⟨b, off, rfl, hcap, hblt, cc⟩ := (HV.out.below hb).at hx
      have hcap' : (l.length : Int) ≤ (cap : Int) := by omega
      have HT : Hid (l.take (k + 1) = l.take k ++ [x]) := take_snoc hx
      have c0 : wr.cell? ⟨b, off + k * 15, none⟩ = some (.int .i64 x.i0) := cc 0 _ rfl
      have c1 : wr.cell? ⟨b, off + k * 15 + 1, none⟩ = some (.int .i64 x.i1) := cc 1 _ rfl
      have c2 : wr.cell? ⟨b, off + k * 15 + 2, none⟩ = some (.int .i64 x.i2) := cc 2 _ rfl
      have c3 : wr.cell? ⟨b, off + k * 15 + 3, none⟩ = some (.int .i64 x.o) := cc 3 _ rfl
      have c4 : wr.cell? ⟨b, off + k * 15 + 4, none⟩ = some (.int .i64 x.pk) := cc 4 _ rfl
      have c5 : wr.cell? ⟨b, off + k * 15 + 5, none⟩ = some (.int .i64 x.bl) := cc 5 _ rfl
      have c6 : wr.cell? ⟨b, off + k * 15 + 6, none⟩ = some (.int .i64 x.en) := cc 6 _ rfl
      have c7 : wr.cell? ⟨b, off + k * 15 + 7, none⟩ = some (.int .i64 x.pw) := cc 7 _ rfl
      have c8 : wr.cell? ⟨b, off + k * 15 + 8, none⟩ = some (.int .i64 x.ap) := cc 8 _ rfl
      have c9 : wr.cell? ⟨b, off + k * 15 + 9, none⟩ = some (.int .i64 x.ex) := cc 9 _ rfl
      have c10 : wr.cell? ⟨b, off + k * 15 + 10, none⟩ = some (.int .i64 x.pd) := cc 10 _ rfl
      have c11 : wr.cell? ⟨b, off + k * 15 + 11, none⟩ = some (.int .i64 x.bk) := cc 11 _ rfl
      have c12 : wr.cell? ⟨b, off + k * 15 + 12, none⟩ = some (.int .i64 x.su) := cc 12 _ rfl
      have c13 : wr.cell? ⟨b, off + k * 15 + 13, none⟩ = some (.int .i64 x.tx) := cc 13 _ rfl
      have c14 : wr.cell? ⟨b, off + k * 15 + 14, none⟩ = some (.int .i64 x.to) := cc 14 _ rfl
      have hoN : ∀ j, (Value.ownBlock (.slice a0 k cap0)) = some j → w.heap.size ≤ j := fun j hj => (hown.lt j hj).1
      clear cc hx
      go_wp2_with (first
        | (go_at_call 21; refine (line1_any x _).mono ?_; rintro e w2 ⟨rfl, hb2⟩; have own2 := own_below hown hb2; have B2 := below_then hb hb2; have hs2 := hb2.size)
        | (at_builtin; have _ := B2; refine wpList_append_own _ rfl _ _ 25 rfl w.heap.size 65 i0 (.agg #[.int .i64 0, .int .i64 0, .int .i64 0, .int .i64 0, .int .i64 0, .int .i64 0, .int .i64 0, .int .i64 0, .int .i64 0, .int .i64 0, .int .i64 0, .int .i64 0, .int .i64 0, .int .i64 0, .int .i64 0]) 15 120 Tryd.underlying25 hi hz0 hz1 hz2 rfl (by decide) _ _ _ rfl (own2.alloc _) ⟨w2.heap.size, 0, none⟩ 1 1 (lcell x) rfl rfl (RL_cell _ x) (fun y hy => by simp [lcell] at hy; rcases hy with rfl | rfl | rfl | rfl | rfl | rfl | rfl | rfl | rfl | rfl | rfl | rfl | rfl | rfl | rfl <;> rfl) (by unfold maxLen; omega) (by omega) (by simp; omega) ?_; intro v' w6 own6 g6 nil6; obtain ⟨a6, cap6, rfl⟩ := own_slice own6))
      go_roundw
      case rel => exact ⟨k + 1, by go_num, by omega, by rw [HT.out, lcs_snoc]; exact own6, Below.grown (below_more B2 _) g6 (by simp; omega) (fun j hj => hoN j hj)⟩
      case measure => simp [intOf]; omega
    · have hlt' : ¬ (k : Int) < (l.length : Int) := by omega
      have HKE : Hid (k = l.length) := (by omega : k = l.length)
      have HK : Hid (l.take k = l) := List.take_of_length_le (by omega)
      go_wp2_with fail
      refine bodyPost_ret (v := .slice a0 k cap0) (by simp [results, Tryd.results7, go_sem]) rfl ⟨_, rfl, ?_, hb⟩
      rw [HK.out] at hown
      rw [← HKE.out]; exact hown

end Go.Proofs.YtjaffmmocbplaabDoor
