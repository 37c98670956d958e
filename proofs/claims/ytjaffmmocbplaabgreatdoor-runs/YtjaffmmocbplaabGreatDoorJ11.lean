/-
  FilX, FilT in one text.
-/
import Derived.Test.YtjaffmmocbplaabGreatDoorJ09
import Derived.Test.YtjaffmmocbplaabGreatDoorJ10
namespace Go.Proofs.YtjaffmmocbplaabGreatDoor
open Go.RowKit
set_option linter.unusedVariables false
attribute [local go_sem ↓] Go.wp_at_zero Go.wp_at_succ

def fOk (step start gap : Int) (l : List Txt.Val) : Bool := meterB step start l && inB gap 0 8
def fE (step start gap : Int) (l : List Txt.Val) : Int := if fOk step start gap l then (if Fil.rows l gap 0 = -1 then 0 else 6) else 3
def fA (step start gap : Int) (l : List Txt.Val) : Int := if fOk step start gap l then (if Fil.rows l gap 0 = -1 then 0 else Fil.rows l gap 0) else 0
def fL (step start gap : Int) (l : List Txt.Val) : List Txt.Val := if fOk step start gap l then (if Fil.rows l gap 0 = -1 then Fil.fl l l.length else []) else []
theorem f_no {step start gap : Int} {l : List Txt.Val} (h : fOk step start gap l = false) : fE step start gap l = 3 ∧ fA step start gap l = 0 ∧ fL step start gap l = [] := by
  unfold fE fA fL; rw [h]; exact ⟨rfl, rfl, rfl⟩
theorem f_yes {step start gap : Int} {l : List Txt.Val} (h : fOk step start gap l = true) (hr : Fil.rows l gap 0 = -1) : fE step start gap l = 0 ∧ fA step start gap l = 0 ∧ fL step start gap l = Fil.fl l l.length := by
  unfold fE fA fL; rw [h, hr]; exact ⟨rfl, rfl, rfl⟩
theorem f_gap {step start gap : Int} {l : List Txt.Val} (h : fOk step start gap l = true) (hr : ¬ Fil.rows l gap 0 = -1) : fE step start gap l = 6 ∧ fA step start gap l = Fil.rows l gap 0 ∧ fL step start gap l = [] := by
  unfold fE fA fL; rw [h]; simp [hr]
theorem meterB_fit {step start : Int} {l : List Txt.Val} (h : meterB step start l = true) : 1 ≤ l.length ∧ l.length ≤ 200 ∧ l.all valB = true := by
  unfold meterB at h
  simp only [Bool.and_eq_true] at h
  obtain ⟨⟨⟨⟨_, h1⟩, _⟩, _⟩, h2⟩ := h
  have := inB_iff.mp h1
  exact ⟨by omega, by omega, h2⟩
theorem fOk_iff {step start gap : Int} {l : List Txt.Val} : fOk step start gap l = true ↔ meterB step start l = true ∧ inB gap 0 8 = true := by simp [fOk]
theorem hideF {p : Prop} (h : p) : Hid p := h
theorem ret_fill {v v' : Value} {a b a' b' : Int} (hv : v = v') (ha : a = a') (hb : b = b') : Ending.returned (.tuple #[v, .int .i64 a, .int .i64 b]) = .returned (.tuple #[v', .int .i64 a', .int .i64 b']) := by rw [hv, ha, hb]

set_option maxHeartbeats 1000000 in
theorem Fill_no (step start gap : Int) (v : Value) (l : List Txt.Val) (w : World) (h : VRow w v l) (hok : fOk step start gap l = false) :
    Calls Tryz.prog 65 #[.agg #[.int .i64 step, .int .i64 start, v], .int .i64 gap] w fun e w' => e = .returned (.tuple #[.slice none 0 0, .int .i64 3, .int .i64 0]) ∧ Below w.heap.size w w' := by
  have vm := fun w1 (hb : Below w.heap.size w w1) => validMeter_any step start v l w1 (h.below hb)
  obtain ⟨a, cap, rfl⟩ := h.form
  cases hm : meterB step start l
  case false =>
    rw [hm] at vm
    clear h hok
    go_enter Tryz.func65, Tryz.ntmps65
    go_wp2_with (go_at_call 19; refine (vm _ (below_more (Below.refl _ _) _)).mono ?_; rintro e w1 ⟨rfl, hb1⟩)
    exact bodyPost_ret (v := .tuple #[.slice none 0 0, .int .i64 3, .int .i64 0]) (by simp [results, Tryz.results65, go_sem]) rfl ⟨rfl, below_then (below_more (Below.refl _ _) _) hb1⟩
  case true =>
    have hg : inB gap 0 8 = false := by simpa [fOk, hm] using hok
    rw [hm] at vm
    clear h hok
    go_enter Tryz.func65, Tryz.ntmps65
    go_wp2_with (first
      | (go_at_call 19; refine (vm _ (below_more (Below.refl _ _) _)).mono ?_; rintro e w1 ⟨rfl, hb1⟩)
      | (go_at_call 54; refine (within_any _ _ _ _).mono ?_; rintro e w' ⟨rfl, rfl⟩))
    exact bodyPost_ret (v := .tuple #[.slice none 0 0, .int .i64 3, .int .i64 0]) (by simp [results, Tryz.results65, go_sem]) rfl ⟨rfl, below_then (below_more (Below.refl _ _) _) hb1⟩

set_option maxRecDepth 1000000 in
set_option maxHeartbeats 2000000 in
theorem Fill_yes (step start gap : Int) (v : Value) (l : List Txt.Val) (w : World) (h : VRow w v l) (hok : fOk step start gap l = true) :
    Calls Tryz.prog 65 #[.agg #[.int .i64 step, .int .i64 start, v], .int .i64 gap] w fun e w' => ∃ v', e = .returned (.tuple #[v', .int .i64 (fE step start gap l), .int .i64 (fA step start gap l)]) ∧
      w'.ownsRow w.heap.size 126 3 v' (fL step start gap l).length (vcs (fL step start gap l)) ∧ Below w.heap.size w w' := by
  obtain ⟨i0, hi, hz0, hz1, hz2⟩ := info_parts infoV
  obtain ⟨hm, hg⟩ := fOk_iff.mp hok
  obtain ⟨len1, len2, hall⟩ := meterB_fit hm
  obtain ⟨g1, g2⟩ := inB_iff.mp hg
  have vm := fun w1 (hb : Below w.heap.size w w1) => validMeter_any step start v l w1 (h.below hb)
  have rend := fun w1 (k : Nat) (hk : k ≤ l.length) (hb : Below w.heap.size w w1) => rowEnd_any v l k w1 (h.below hb) hk (by omega)
  obtain ⟨a, cap, rfl⟩ := h.form
  rw [hm] at vm
  clear hm
  go_enter Tryz.func65, Tryz.ntmps65
  go_wp2_with (first
    | (go_at_call 19; refine (vm _ (below_more (Below.refl _ _) _)).mono ?_; rintro e w1 ⟨rfl, hb1⟩; obtain ⟨hc1, hf1⟩ := bcell hb1)
    | (go_at_call 54; refine (within_any _ _ _ _).mono ?_; rintro e w' ⟨rfl, rfl⟩))
  go_loopw [7, 8] (fun f p wr => ∃ k : Nat, p = .int .i64 k ∧ k ≤ l.length ∧ Fil.rows l gap k = Fil.rows l gap 0 ∧ (k = 0 ∨ Fil.mAt l (k - 1) = false ∨ Fil.mAt l k = false) ∧
      wr.ownsRow (w.heap.size + 1) 126 3 f k (vcs (Fil.fl l k)) ∧ Below w.heap.size w wr ∧ w.heap.size < wr.heap.size ∧ wr.cell? ⟨w.heap.size, 2, none⟩ = some (.slice a l.length cap)) (fun _ p _ => l.length - (intOf p).toNat)
  case atStart => exact ⟨0, rfl, by omega, rfl, .inl rfl, World.ownsRow_nil _ _ _ _, below_then (below_more (Below.refl _ _) _) hb1, by have := hb1.size; simp at this; omega, by simp [go_sem, hc1]⟩
  case round =>
    clear hc1 hf1 hb1 vm
    obtain ⟨k, rfl, hk, hr, hpre, hown, hbw, hsz, m2⟩ := hrel
    obtain ⟨a0, cap0, rfl⟩ := own_slice hown
    by_cases hlt : k < l.length
    · have hlt' : (k : Int) < (l.length : Int) := by omega
      have hk0 : (0 : Int) ≤ (k : Int) := by omega
      obtain ⟨x, hx⟩ : ∃ x, l[k]? = some x := ⟨l[k], List.getElem?_eq_getElem hlt⟩
      obtain ⟨b, off, rfl, hcap, hblt, c0, c1, c2⟩ := (h.below hbw).at hx
      have hcap' : (l.length : Int) ≤ (cap : Int) := by omega
      have hoN : ∀ j, (Value.ownBlock (.slice a0 k cap0)) = some j → w.heap.size ≤ j := fun j hj => by have := (hown.lt j hj).1; omega
      cases hmx : x.m
      case false =>
        obtain ⟨xi, xo, xm⟩ := x
        simp only at hmx; subst hmx
        have hma : Fil.mAt l k = false := Fil.mAt_some hx
        have HR : Hid (Fil.rows l gap (k + 1) = Fil.rows l gap 0) := by show _ = _; rw [← hr, Fil.rows_not hlt hma]
        have HF : Hid (Fil.fl l (k + 1) = Fil.fl l k ++ [⟨xi, xo, false⟩]) := by show _ = _; rw [Fil.fl_succ, Fil.fv_not hma, Fil.vAt_some hx]
        have HM : Hid (Fil.mAt l k = false) := hma
        clear hx hr hpre hma
        go_wp2_with (at_builtin; refine wpList_append_own _ rfl _ _ 29 rfl (w.heap.size + 1) 126 i0 (.agg #[.int .i64 0, .int .i64 0, .bool false]) 3 24 Tryz.underlying29 hi hz0 hz1 hz2 rfl (by decide) _ _ _ rfl (hown.alloc _) ⟨wr.heap.size, 0, none⟩ 1 1 (vcell ⟨xi, xo, false⟩) rfl rfl (by have := cell_three_new wr (.int .i64 xi) (.int .i64 xo) (.bool false) 126; simpa [vcell] using this) (fun x hx => by simp [vcell] at hx; rcases hx with rfl | rfl | rfl <;> rfl) (by unfold maxLen; omega) (by omega) (by simp; omega) ?_; intro v' w4 own4 g4 nil4; obtain ⟨a4, cap4, rfl⟩ := own_slice own4)
        go_roundw
        case rel =>
          refine ⟨k + 1, by go_num, by omega, HR.out, .inr (.inl (by simpa using HM.out)), by rw [HF.out, vcs_snoc]; exact own4, Below.grown (below_more hbw _) g4 (by simp; omega) hoN, by have := g4.size; simp at this; omega, ?_⟩
          rw [World.cell?_of_block (a := ⟨w.heap.size, 2, none⟩) (g4.block w.heap.size (by simp; omega) (fun h => by have := (hown.lt _ h.symm).1; omega))]
          simp [go_sem, hsz, m2]
        case measure => simp [intOf]; omega
      case true =>
        have hma : Fil.mAt l k = true := by rw [Fil.mAt_some hx, hmx]
        rw [hmx] at c2
        have hgt := Fil.re_gt hma
        have hle := Fil.re_le (l := l) (i := k) (by omega)
        have hend := Fil.re_end (l := l) (i := k) (by omega)
        have rk := rend wr k hk hbw
        by_cases hbad : k = 0 ∨ Fil.re l k = l.length ∨ gap < (Fil.re l k : Int) - k
        · have HR : Hid (Fil.rows l gap 0 = k) := by show _ = _; rw [← hr, Fil.rows_bad hma hbad]
          have HG := f_gap hok (by rw [HR.out]; omega)
          rw [HR.out] at HG
          obtain ⟨e1, e2, e3⟩ := HG
          have HG := hideF (And.intro e1.symm (And.intro e2.symm e3))
          obtain ⟨R, hR⟩ : ∃ R, R = Fil.re l k := ⟨_, rfl⟩
          rw [← hR] at hgt hle rk hbad
          clear hR hx hr hpre hma hend e1 e2 e3 HR hok rend
          by_cases q1 : gap < (R : Int) - k
          · go_wp2_with (go_at_call 86; refine rk.mono ?_; rintro e w1 ⟨rfl, rfl⟩)
            exact bodyPost_ret (v := .tuple #[.slice none 0 0, .int .i64 6, .int .i64 k]) (by simp [results, Tryz.results65, go_sem]) rfl ⟨_, ret_fill rfl HG.out.1 HG.out.2.1, by rw [HG.out.2.2]; exact World.ownsRow_nil _ _ _ _, hbw⟩
          · by_cases q2 : k = 0
            · have q2B : ((k : Int) == 0) = true := by simp; omega
              clear q2 hbad
              go_wp2_with (go_at_call 86; refine rk.mono ?_; rintro e w1 ⟨rfl, rfl⟩)
              exact bodyPost_ret (v := .tuple #[.slice none 0 0, .int .i64 6, .int .i64 k]) (by simp [results, Tryz.results65, go_sem]) rfl ⟨_, ret_fill rfl HG.out.1 HG.out.2.1, by rw [HG.out.2.2]; exact World.ownsRow_nil _ _ _ _, hbw⟩
            · have q2B : ((k : Int) == 0) = false := by simp; omega
              have q3B : ((R : Int) == (l.length : Int)) = true := by simp; omega
              go_wp2_with (go_at_call 86; refine rk.mono ?_; rintro e w1 ⟨rfl, rfl⟩)
              exact bodyPost_ret (v := .tuple #[.slice none 0 0, .int .i64 6, .int .i64 k]) (by simp [results, Tryz.results65, go_sem]) rfl ⟨_, ret_fill rfl HG.out.1 HG.out.2.1, by rw [HG.out.2.2]; exact World.ownsRow_nil _ _ _ _, hbw⟩
        · have hk1 : ¬ k = 0 := fun g => hbad (.inl g)
          obtain ⟨q, hq⟩ : ∃ q, k = q + 1 := ⟨k - 1, by omega⟩
          have hpm : Fil.mAt l q = false := by
            rcases hpre with g | g | g
            · omega
            · rw [hq] at g; simpa using g
            · rw [hma] at g; cases g
          have HR : Hid (Fil.rows l gap (Fil.re l k) = Fil.rows l gap 0) := by show _ = _; rw [← hr, Fil.rows_good hma hbad]
          have hRlt : Fil.re l k < l.length := by omega
          have hRg : (Fil.re l k : Int) - k ≤ gap := by omega
          obtain ⟨x1, hx1⟩ : ∃ x, l[q]? = some x := ⟨l[q], List.getElem?_eq_getElem (by omega)⟩
          obtain ⟨x2, hx2⟩ : ∃ x, l[Fil.re l k]? = some x := ⟨l[Fil.re l k], List.getElem?_eq_getElem hRlt⟩
          have v1 := List.all_eq_true.mp hall x1 (List.mem_of_getElem? hx1)
          have v2 := List.all_eq_true.mp hall x2 (List.mem_of_getElem? hx2)
          have HROW : Hid (∀ j : Nat, 1 ≤ j → q + j < Fil.re l k → Fil.fv l (q + j) = ⟨Fil.btw x1.i x2.i j ((Fil.re l k : Int) - k + 1), Fil.btw x1.o x2.o j ((Fil.re l k : Int) - k + 1), false⟩) := by
            intro j j1 j2
            have := Fil.fv_row hpm (by rw [← hq]; exact hma) j1 (by rw [← hq]; exact j2)
            rw [← hq, Fil.vAt_some hx1, Fil.vAt_some hx2, show ((Fil.re l k : Nat) : Int) - (q : Int) = (Fil.re l k : Int) - k + 1 by omega] at this
            exact this
          have HE : Hid (Fil.mAt l (Fil.re l k) = false) := hend
          obtain ⟨R, hR⟩ : ∃ R, R = Fil.re l k := ⟨_, rfl⟩
          rw [← hR] at hgt hle rk hbad HROW HR HE hRlt hRg hx2
          have q1 : ¬ gap < (R : Int) - k := by omega
          have q2B : ((k : Int) == 0) = false := by simp; omega
          have q3B : ((R : Int) == (l.length : Int)) = false := by simp; omega
          have HQ : Hid (k = q + 1) := hq
          clear hR hx hr hpre hma hend rend hbad hpm c0 c1 hq
          go_wp2_with (go_at_call 86; refine rk.mono ?_; rintro e w1 ⟨rfl, rfl⟩)
          go_loopw [7, 11] (fun f p wr2 => ∃ j : Nat, p = .int .i64 j ∧ 1 ≤ j ∧ j + k ≤ R + 1 ∧ wr2.ownsRow (w.heap.size + 1) 126 3 f (q + j) (vcs (Fil.fl l (q + j))) ∧ Below w.heap.size w wr2 ∧ w.heap.size < wr2.heap.size ∧ wr2.cell? ⟨w.heap.size, 2, none⟩ = some (.slice (some ⟨b, off, none⟩) l.length cap)) (fun _ p _ => R + 1 - k - (intOf p).toNat)
          case atStart => exact ⟨1, rfl, by omega, by omega, by rw [← HQ.out]; exact hown, hbw, hsz, m2⟩
          case round =>
            clear rk hown hoN c2 m2 hblt
            obtain ⟨j, rfl, hj1, hj2, hown2, hbw2, hsz2, m22⟩ := hrel
            obtain ⟨a02, cap02, rfl⟩ := own_slice hown2
            by_cases hjl : j + k ≤ R
            · have hjl' : (j : Int) < (R : Int) - k + 1 := by omega
              have vb := fun w1 => valueBetween_any x1 x2 j ((R : Int) - k + 1) w1 v1 v2 (by omega) (by omega) (by omega) (by omega)
              obtain ⟨b1, off1, e1, _, hb1lt, d0, d1, d2⟩ := (h.below hbw2).at hx1
              cases e1
              obtain ⟨b2, off2, e2, _, hb2lt, d3, d4, d5⟩ := (h.below hbw2).at hx2
              cases e2
              have HF : Hid (Fil.fl l (q + (j + 1)) = Fil.fl l (q + j) ++ [⟨Fil.btw x1.i x2.i j ((R : Int) - k + 1), Fil.btw x1.o x2.o j ((R : Int) - k + 1), false⟩]) := by
                show _ = _
                rw [show q + (j + 1) = q + j + 1 by omega, Fil.fl_succ, HROW.out j hj1 (by have := HQ.out; omega)]
              obtain ⟨I, hI⟩ : ∃ I, I = Fil.btw x1.i x2.i j ((R : Int) - k + 1) := ⟨_, rfl⟩
              obtain ⟨O, hO⟩ : ∃ O, O = Fil.btw x1.o x2.o j ((R : Int) - k + 1) := ⟨_, rfl⟩
              rw [← hI, ← hO] at vb HF
              have kq : (k : Int) - 1 = (q : Int) := by have := HQ.out; omega
              have kw : IntKind.i64.wrap ((k : Int) - 1) = (q : Int) := by rw [kq]; exact Go.IntWalk.i64_in _ (by omega)
              have kw2 : IntKind.i64.wrap (q : Int) = (q : Int) := Go.IntWalk.i64_in _ (by omega)
              have q0 : (0 : Int) ≤ (q : Int) := by omega
              have qlt : (q : Int) < (l.length : Int) := by have := HQ.out; omega
              have R0 : (0 : Int) ≤ (R : Int) := by omega
              have Rlt : (R : Int) < (l.length : Int) := by omega
              have hoN2 : ∀ j', (Value.ownBlock (.slice a02 (q + j) cap02)) = some j' → w.heap.size + 1 ≤ j' := fun j' hj => (hown2.lt j' hj).1
              clear hI hO HROW h hx1 hx2 v1 v2
              go_wp2_with fail
              go_region_held3 (fun w' => w'.cell? ⟨w.heap.size, 2, none⟩ = some (.slice (some ⟨b, off, none⟩) l.length cap) ∧ w'.cell? ⟨b, off + q * 3, none⟩ = some (.int .i64 x1.i) ∧ w'.cell? ⟨b, off + q * 3 + 1, none⟩ = some (.int .i64 x1.o) ∧ w'.cell? ⟨b, off + q * 3 + 2, none⟩ = some (.bool x1.m) ∧ w'.cell? ⟨b, off + R * 3, none⟩ = some (.int .i64 x2.i) ∧ w'.cell? ⟨b, off + R * 3 + 1, none⟩ = some (.int .i64 x2.o) ∧ w'.cell? ⟨b, off + R * 3 + 2, none⟩ = some (.bool x2.m))
                (first | (simp [go_sem, hb1lt, hsz2, m22, d0, d1, d2, d3, d4, d5]; done) | (simp [go_sem, hc3, hb1lt, hsz2, hy3, hx3, m22, d0, d1, d2, d3, d4, d5]; done))
                (first
                  | (go_at_call 87; refine (vb _).mono ?_; rintro e w3 ⟨rfl, hb3'⟩; have hb3 : Below wr.heap.size wr w3 := below_then (Below.drew (Below.refl _ _)) hb3'; clear hb3'; obtain ⟨hc3, hf3⟩ := bcell hb3; have hs3 := hb3.size; have hy3 : w.heap.size < w3.heap.size := (by omega); have hx3 : b < w3.heap.size := (by omega))
                  | (go_at_call 87; refine (vb _).mono ?_; rintro e w3 ⟨rfl, hb3'⟩; have hb5 : Below (wr.alloc (.cells #[.int .i64 0, .int .i64 0, .bool false] 126)).heap.size (wr.alloc (.cells #[.int .i64 0, .int .i64 0, .bool false] 126)) w3 := below_then (Below.drew (Below.refl _ _)) hb3'; clear hb3'; have hb3 : Below wr.heap.size wr w3 := below_then (below_more (Below.refl _ _) _) hb5; obtain ⟨hc3, hf3⟩ := bcell hb3; obtain ⟨hc5, hf5⟩ := bcell hb5; have hs3 := hb3.size; have hy3 : w.heap.size < w3.heap.size := (by omega); have hx3 : b < w3.heap.size := (by omega); have n0 : w3.cell? ⟨wr.heap.size, 0, none⟩ = some (.int .i64 0) := (by rw [hc5 _ _ (by simp)]; simp [go_sem]); have n1 : w3.cell? ⟨wr.heap.size, 1, none⟩ = some (.int .i64 0) := (by rw [hc5 _ _ (by simp)]; simp [go_sem]); have n2 : w3.cell? ⟨wr.heap.size, 2, none⟩ = some (.bool false) := (by rw [hc5 _ _ (by simp)]; simp [go_sem]); have f0 : w3.frozen? ⟨wr.heap.size, 0, none⟩ = false := (by rw [hf5 _ _ (by simp)]; simp [go_sem]); have f1 : w3.frozen? ⟨wr.heap.size, 1, none⟩ = false := (by rw [hf5 _ _ (by simp)]; simp [go_sem]); have f2 : w3.frozen? ⟨wr.heap.size, 2, none⟩ = false := (by rw [hf5 _ _ (by simp)]; simp [go_sem]); have hz5 : wr.heap.size < w3.heap.size := (by have := hb5.size; simp at this; omega); clear hc5 hf5 hb5))
              all_goals
                go_wp2_with (at_builtin; refine wpList_append_own _ rfl _ _ 29 rfl (w.heap.size + 1) 126 i0 (.agg #[.int .i64 0, .int .i64 0, .bool false]) 3 24 Tryz.underlying29 hi hz0 hz1 hz2 rfl (by decide) _ _ _ rfl (own_below hown2 (by repeat (first | exact hb3 | refine Below.setCell ?_ (by first | omega | (simp; done) | (simp; omega)) _ | refine below_more ?_ _ | refine Below.drew ?_ | refine below_drewN ?_ _))) ⟨_, 0, none⟩ 1 1 (vcell ⟨I, O, false⟩) rfl rfl (by intro jj u hj; change [Value.int .i64 I, .int .i64 O, .bool false][jj]? = some u at hj; exact (match jj, hj with | 0, hj => (by simp at hj; subst hj; simp [Addr.add, go_sem]) | 1, hj => (by simp at hj; subst hj; simp [Addr.add, go_sem]) | 2, hj => (by simp at hj; subst hj; simp [Addr.add, go_sem]))) (fun x hx => by simp [vcell] at hx; rcases hx with rfl | rfl | rfl <;> rfl) (by unfold maxLen; have := HQ.out; omega) (by have := HQ.out; omega) (by simp; omega) ?_; intro v' w4 own4 g4 nil4; obtain ⟨a4, cap4, rfl⟩ := own_slice own4)
                go_roundw
                case rel =>
                  refine ⟨j + 1, by go_num, by omega, by omega, by rw [HF.out, vcs_snoc]; exact own4, Below.grown (below_then hbw2 (by repeat (first | exact hb3 | refine Below.setCell ?_ (by first | omega | (simp; done) | (simp; omega)) _ | refine below_more ?_ _ | refine Below.drew ?_ | refine below_drewN ?_ _))) g4 (by simp; omega) (fun j' hj' => by have := hoN2 j' hj'; omega), by have := g4.size; simp at this; omega, ?_⟩
                  rw [World.cell?_of_block (a := ⟨w.heap.size, 2, none⟩) (g4.block w.heap.size (by simp; omega) (fun h => by have := hoN2 _ h.symm; omega))]
                  simp [go_sem, hc3, hsz2, hy3, m22]
                case measure => simp [intOf]; omega
            · have hjl' : ¬ (j : Int) < (R : Int) - k + 1 := by omega
              have HJ : Hid (q + j = R) := by show _ = _; have := HQ.out; omega
              go_wp2_with fail
              go_roundw
              case rel => exact ⟨R, rfl, by omega, HR.out, .inr (.inr HE.out), by rw [← HJ.out]; exact hown2, hbw2, hsz2, m22⟩
              case measure => simp [intOf]; omega
    · have hlt' : ¬ (k : Int) < (l.length : Int) := by omega
      have hkn : k = l.length := by omega
      subst hkn
      have HR : Hid (Fil.rows l gap 0 = -1) := by show _ = _; rw [← hr, Fil.rows_end hlt]
      have HG := hideF (f_yes hok HR.out)
      clear hr hpre
      go_wp2_with fail
      exact bodyPost_ret (v := .tuple #[.slice a0 l.length cap0, .int .i64 0, .int .i64 0]) (by simp [results, Tryz.results65, go_sem]) rfl ⟨_, ret_fill rfl HG.out.1.symm HG.out.2.1.symm, by rw [HG.out.2.2, Fil.fl_len]; exact own_base hown (by omega), hbw⟩

end Go.Proofs.YtjaffmmocbplaabGreatDoor

namespace Go.Proofs.YtjaffmmocbplaabGreatDoor
open Go.RowKit
set_option linter.unusedVariables false
attribute [local go_sem ↓] Go.wp_at_zero Go.wp_at_succ

theorem val_m {x : Txt.Val} (h : x.m = false) : ([⟨x.i, x.o, false⟩] : List Txt.Val) = [x] := by
  obtain ⟨a, b, c⟩ := x
  simp only at h; subst h; rfl

set_option maxHeartbeats 1000000 in
theorem refFill_no (step start gap : Int) (v : Value) (l : List Txt.Val) (w : World) (h : VRow w v l) (hok : fOk step start gap l = false) :
    Calls Tryz.prog 77 #[.agg #[.int .i64 step, .int .i64 start, v], .int .i64 gap] w fun e w' => e = .returned (.tuple #[.slice none 0 0, .int .i64 3, .int .i64 0]) ∧ Below w.heap.size w w' := by
  have gm := fun w1 (hb : Below w.heap.size w w1) => GoodMeter_any step start v l w1 (h.below hb)
  obtain ⟨a, cap, rfl⟩ := h.form
  cases hm : meterB step start l
  case false =>
    rw [hm] at gm
    clear h hok
    go_enter Tryz.func77, Tryz.ntmps77
    go_wp2_with (go_at_call 39; refine (gm _ (below_more (Below.refl _ _) _)).mono ?_; rintro e w1 ⟨rfl, hb1⟩)
    exact bodyPost_ret (v := .tuple #[.slice none 0 0, .int .i64 3, .int .i64 0]) (by simp [results, Tryz.results77, go_sem]) rfl ⟨rfl, below_then (below_more (Below.refl _ _) _) hb1⟩
  case true =>
    have hg : inB gap 0 8 = false := by simpa [fOk, hm] using hok
    rw [hm] at gm
    have hg' : gap < 0 ∨ (¬ gap < 0 ∧ 8 < gap) := by simp [inB] at hg; omega
    clear h hok hg
    rcases hg' with hg | ⟨hg, hg2⟩
    all_goals
      go_enter Tryz.func77, Tryz.ntmps77
      go_wp2_with (go_at_call 39; refine (gm _ (below_more (Below.refl _ _) _)).mono ?_; rintro e w1 ⟨rfl, hb1⟩)
      exact bodyPost_ret (v := .tuple #[.slice none 0 0, .int .i64 3, .int .i64 0]) (by simp [results, Tryz.results77, go_sem]) rfl ⟨rfl, below_then (below_more (Below.refl _ _) _) hb1⟩

set_option maxRecDepth 1000000 in
set_option maxHeartbeats 2000000 in
theorem refFill_yes (step start gap : Int) (v : Value) (l : List Txt.Val) (w : World) (h : VRow w v l) (hok : fOk step start gap l = true) :
    Calls Tryz.prog 77 #[.agg #[.int .i64 step, .int .i64 start, v], .int .i64 gap] w fun e w' => ∃ v', e = .returned (.tuple #[v', .int .i64 (fE step start gap l), .int .i64 (fA step start gap l)]) ∧
      w'.ownsRow w.heap.size 107 3 v' (fL step start gap l).length (vcs (fL step start gap l)) ∧ Below w.heap.size w w' := by
  obtain ⟨i0, hi, hz0, hz1, hz2⟩ := info_parts infoRV
  obtain ⟨hm, hg⟩ := fOk_iff.mp hok
  obtain ⟨len1, len2, hall⟩ := meterB_fit hm
  obtain ⟨g1, g2⟩ := inB_iff.mp hg
  have gm := fun w1 (hb : Below w.heap.size w w1) => GoodMeter_any step start v l w1 (h.below hb)
  have rw_ := fun w1 (hb : Below w.heap.size w w1) => rows_any v l gap w1 (h.below hb) (by omega)
  have ng1 : ¬ gap < 0 := by omega
  have ng2 : ¬ 8 < gap := by omega
  rw [hm] at gm
  have rng := Fil.rows_rng l gap _ 0 (Nat.le_refl _)
  by_cases hr : Fil.rows l gap 0 = -1
  case neg =>
    obtain ⟨a, cap, rfl⟩ := h.form
    have HG := hideF (f_gap hok hr)
    have hr0 : 0 ≤ Fil.rows l gap 0 := by omega
    obtain ⟨R, hR⟩ : ∃ R, R = Fil.rows l gap 0 := ⟨_, rfl⟩
    rw [← hR] at rw_ hr0 HG
    clear hR hr rng h hm hg hok
    go_enter Tryz.func77, Tryz.ntmps77
    go_wp2_with (first
      | (go_at_call 39; refine (gm _ (below_more (Below.refl _ _) _)).mono ?_; rintro e w1 ⟨rfl, hb1⟩; obtain ⟨hc1, hf1⟩ := bcell hb1)
      | (go_at_call 94; refine (rw_ _ (below_then (below_more (Below.refl _ _) _) hb1)).mono ?_; rintro e w2 ⟨rfl, rfl⟩))
    exact bodyPost_ret (v := .tuple #[.slice none 0 0, .int .i64 6, .int .i64 R]) (by simp [results, Tryz.results77, go_sem]) rfl ⟨_, ret_fill rfl HG.out.1.symm HG.out.2.1.symm, by rw [HG.out.2.2]; exact World.ownsRow_nil _ _ _ _, below_then (below_more (Below.refl _ _) _) hb1⟩
  case pos =>
    have HG := hideF (f_yes hok hr)
    have h0 := Fil.rows_first hr
    have fd := fun w1 (k : Nat) (hk : k < l.length) (hb : Below w.heap.size w w1) => filled_any v l k w1 (h.below hb) hk h0 (Fil.rows_ok l gap _ 0 (Nat.le_refl _) hr k (by omega) hk) hall len2
    obtain ⟨a, cap, rfl⟩ := h.form
    rw [hr] at rw_
    clear hr rng h hm hg hok h0
    go_enter Tryz.func77, Tryz.ntmps77
    go_wp2_with (first
      | (go_at_call 39; refine (gm _ (below_more (Below.refl _ _) _)).mono ?_; rintro e w1 ⟨rfl, hb1⟩; obtain ⟨hc1, hf1⟩ := bcell hb1)
      | (go_at_call 94; refine (rw_ _ (below_then (below_more (Below.refl _ _) _) hb1)).mono ?_; rintro e w2 ⟨rfl, rfl⟩))
    go_loopw [9, 10] (fun f p wr => ∃ k : Nat, p = .int .i64 k ∧ k ≤ l.length ∧ wr.ownsRow (w.heap.size + 1) 107 3 f k (vcs (Fil.fl l k)) ∧ Below w.heap.size w wr ∧ w.heap.size < wr.heap.size ∧ wr.cell? ⟨w.heap.size, 2, none⟩ = some (.slice a l.length cap)) (fun _ p _ => l.length - (intOf p).toNat)
    case atStart => exact ⟨0, rfl, by omega, World.ownsRow_nil _ _ _ _, below_then (below_more (Below.refl _ _) _) hb1, by have := hb1.size; simp at this; omega, by simp [go_sem, hc1]⟩
    case round =>
      clear gm rw_
      obtain ⟨k, rfl, hk, hown, hbw, hsz, m2⟩ := hrel
      obtain ⟨a0, cap0, rfl⟩ := own_slice hown
      by_cases hlt : k < l.length
      · have hlt' : (k : Int) < (l.length : Int) := by omega
        have hoN : ∀ j, (Value.ownBlock (.slice a0 k cap0)) = some j → w.heap.size + 1 ≤ j := fun j hj => (hown.lt j hj).1
        have HF : Hid (Fil.fl l (k + 1) = Fil.fl l k ++ [⟨(Fil.fv l k).i, (Fil.fv l k).o, false⟩]) := by
          show _ = _
          rw [Fil.fl_succ]
          rw [val_m (Fil.fv_m hlt)]
        have fk := fd wr k hlt hbw
        obtain ⟨I, hI⟩ : ∃ I, I = (Fil.fv l k).i := ⟨_, rfl⟩
        obtain ⟨O, hO⟩ : ∃ O, O = (Fil.fv l k).o := ⟨_, rfl⟩
        rw [← hI, ← hO] at fk HF
        clear hI hO fd
        go_wp2_with (first
          | (go_at_call 95; refine fk.mono ?_; rintro e w3 ⟨rfl, hb3⟩; obtain ⟨hc3, hf3⟩ := bcell hb3; have hs3 := hb3.size)
          | (at_builtin; refine wpList_append_own _ rfl _ _ 54 rfl (w.heap.size + 1) 107 i0 (.agg #[.int .i64 0, .int .i64 0, .bool false]) 3 24 Tryz.underlying54 hi hz0 hz1 hz2 rfl (by decide) _ _ _ rfl (own_below hown (below_more (below_more hb3 _) _)) ⟨w3.heap.size + 1, 0, none⟩ 1 1 (vcell ⟨I, O, false⟩) rfl rfl (by have := cell_three_new (w3.alloc (.cells #[.int .i64 I, .int .i64 O, .bool false] 107)) (.int .i64 I) (.int .i64 O) (.bool false) 107; simpa [vcell] using this) (fun x hx => by simp [vcell] at hx; rcases hx with rfl | rfl | rfl <;> rfl) (by unfold maxLen; omega) (by omega) (by simp; omega) ?_; intro v' w4 own4 g4 nil4; obtain ⟨a4, cap4, rfl⟩ := own_slice own4))
        go_roundw
        case rel =>
          refine ⟨k + 1, by go_num, by omega, by rw [HF.out, vcs_snoc]; exact own4, Below.grown (below_then hbw (below_more (below_more hb3 _) _)) g4 (by simp; omega) (fun j' hj' => by have := hoN j' hj'; omega), by have := g4.size; simp at this; omega, ?_⟩
          rw [World.cell?_of_block (a := ⟨w.heap.size, 2, none⟩) (g4.block w.heap.size (by simp; omega) (fun h => by have := hoN _ h.symm; omega))]
          have q1 : w.heap.size < w3.heap.size := by omega
          simp [go_sem, hc3, hsz, q1, m2]
        case measure => simp [intOf]; omega
      · have hlt' : ¬ (k : Int) < (l.length : Int) := by omega
        have hkn : k = l.length := by omega
        subst hkn
        go_wp2_with fail
        exact bodyPost_ret (v := .tuple #[.slice a0 l.length cap0, .int .i64 0, .int .i64 0]) (by simp [results, Tryz.results77, go_sem]) rfl ⟨_, ret_fill rfl HG.out.1.symm HG.out.2.1.symm, by rw [HG.out.2.2, Fil.fl_len]; exact own_base hown (by omega), hbw⟩

/-- both, at every input -/
theorem Fill_any (step start gap : Int) (v : Value) (l : List Txt.Val) (w : World) (h : VRow w v l) :
    Calls Tryz.prog 65 #[.agg #[.int .i64 step, .int .i64 start, v], .int .i64 gap] w fun e w' => ∃ v', e = .returned (.tuple #[v', .int .i64 (fE step start gap l), .int .i64 (fA step start gap l)]) ∧
      w'.ownsRow w.heap.size 126 3 v' (fL step start gap l).length (vcs (fL step start gap l)) ∧ Below w.heap.size w w' := by
  cases hok : fOk step start gap l
  · obtain ⟨e1, e2, e3⟩ := f_no hok
    refine (Fill_no step start gap v l w h hok).mono ?_
    rintro e w' ⟨rfl, hb⟩
    exact ⟨_, ret_fill rfl e1.symm e2.symm, by rw [e3]; exact World.ownsRow_nil _ _ _ _, hb⟩
  · exact Fill_yes step start gap v l w h hok
theorem refFill_any (step start gap : Int) (v : Value) (l : List Txt.Val) (w : World) (h : VRow w v l) :
    Calls Tryz.prog 77 #[.agg #[.int .i64 step, .int .i64 start, v], .int .i64 gap] w fun e w' => ∃ v', e = .returned (.tuple #[v', .int .i64 (fE step start gap l), .int .i64 (fA step start gap l)]) ∧
      w'.ownsRow w.heap.size 107 3 v' (fL step start gap l).length (vcs (fL step start gap l)) ∧ Below w.heap.size w w' := by
  cases hok : fOk step start gap l
  · obtain ⟨e1, e2, e3⟩ := f_no hok
    refine (refFill_no step start gap v l w h hok).mono ?_
    rintro e w' ⟨rfl, hb⟩
    exact ⟨_, ret_fill rfl e1.symm e2.symm, by rw [e3]; exact World.ownsRow_nil _ _ _ _, hb⟩
  · exact refFill_yes step start gap v l w h hok
theorem fL_len (step start gap : Int) (l : List Txt.Val) : (fL step start gap l).length ≤ l.length ∧ (fL step start gap l).length ≤ 200 := by
  unfold fL
  split
  · rename_i h
    have := (meterB_fit (fOk_iff.mp h).1).2.1
    split
    · rw [Fil.fl_len]; omega
    · simp
  · simp

end Go.Proofs.YtjaffmmocbplaabGreatDoor
