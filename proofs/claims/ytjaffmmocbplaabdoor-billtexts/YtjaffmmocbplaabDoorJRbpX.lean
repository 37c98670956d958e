/-
  The program's ReadBill (made by tools/genrbq.py).
-/
import Derived.Test.YtjaffmmocbplaabDoorJRbpW
import Derived.BigQuiet
namespace Go.Proofs.YtjaffmmocbplaabDoor
open Go.RowKit Go.Shelf Bil
set_option linter.unusedVariables false
attribute [local go_sem ↓] Go.wp_at_zero Go.wp_at_succ

def slen : Value → Nat
  | .slice _ n _ => n
  | _ => 0
theorem rb_bad {t : ByteArray} {n : Nat} (ht : t.size ≤ 80000) (h : (Txt.fin t (rbS t n)).bad = true) : rbErr t n = 2 ∧ rbAt t n = (Txt.fin t (rbS t n)).pos ∧ rbR t n = [] := by
  have e : rbErr t n = 2 := by unfold rbErr; rw [if_neg (by omega), if_pos h]
  refine ⟨e, by unfold rbAt; rw [if_neg (by omega), if_pos h], by unfold rbR; rw [e, if_neg (by omega)]⟩
theorem rb_ok {t : ByteArray} {n : Nat} (ht : t.size ≤ 80000) (h : (Txt.fin t (rbS t n)).bad = false) : rbErr t n = 0 ∧ rbAt t n = 0 ∧ rbR t n = rbL t n := by
  have e : rbErr t n = 0 := by unfold rbErr; rw [if_neg (by omega), if_neg (by simp [h])]
  refine ⟨e, by unfold rbAt; rw [if_neg (by omega), if_neg (by simp [h])], by unfold rbR; rw [e, if_pos rfl]⟩
theorem rb_long {t : ByteArray} {n : Nat} (ht : 80000 < t.size) : rbErr t n = 1 ∧ rbAt t n = 0 ∧ rbR t n = [] := by
  have e : rbErr t n = 1 := by unfold rbErr; rw [if_pos ht]
  refine ⟨e, by unfold rbAt; rw [if_pos ht], by unfold rbR; rw [e, if_neg (by omega)]⟩
theorem rbB_iff {t : ByteArray} {k : Nat} : rbB t k = true ↔ (rbS t k).bad = false ∧ (rbS t k).pos < t.size ∧ k < 200 := by
  unfold rbB; simp [and_assoc]

set_option maxRecDepth 1000000 in
set_option maxHeartbeats 2000000 in
theorem ReadBill_long (t : ByteArray) (w : World) (ht : 80000 < t.size) (hm : t.size ≤ maxLen) :
    Calls Tryd.prog 8 #[.string t] w fun e w' => e = .returned (.tuple #[.slice none 0 0, .int .i64 1, .int .i64 0]) ∧ Below w.heap.size w w' := by
  unfold maxLen at hm
  have h1 : (80000 : Int) < (t.size : Int) := by omega
  go_enter Tryd.func8, Tryd.ntmps8
  go_wp2_with fail
  exact bodyPost_ret (v := .tuple #[.slice none 0 0, .int .i64 1, .int .i64 0]) (by simp [results, Tryd.results8, go_sem]) rfl ⟨rfl, Below.refl _ _⟩

set_option maxRecDepth 1000000 in
set_option maxHeartbeats 4000000 in
theorem ReadBill_short (t : ByteArray) (n : Nat) (hn : EndsB t n) (w : World) (hT : TB w) (ht : t.size ≤ 80000) :
    Calls Tryd.prog 8 #[.string t] w fun e w' => ∃ v, e = .returned (.tuple #[v, .int .i64 (rbErr t n), .int .i64 (rbAt t n)]) ∧ w'.ownsRow (w.heap.size + 1) 32 15 v (rbR t n).length (lcs (rbR t n)) ∧ Below w.heap.size w w' := by
  obtain ⟨i0, hi, hz0, hz1, hz2⟩ := info_parts infoLn
  have h1 : ¬ (80000 : Int) < (t.size : Int) := by omega
  have hA : ScanAt (w.alloc (.cells #[.string t, .int .i64 0, .bool false] 70)) w.heap.size t (rbS t 0) := ⟨by simp, by simp [go_sem], by simp [go_sem]; rfl, by simp [go_sem]; rfl, by simp [go_sem], by simp [go_sem]⟩
  have BA : Below w.heap.size w (w.alloc (.cells #[.string t, .int .i64 0, .bool false] 70)) := below_more (Below.refl _ _) _
  have hn200 := hn.le
  have ln := fun k (hk : k ≤ 1000) x hx W (hB : Below w.heap.size w W) (h : ScanAt W w.heap.size t (rbS t k)) => scan_line_any t (rbS t k) k hk x hx w.heap.size w W hT hB (Nat.le_refl _) h (rbS_le t k) (by omega)
  have en := fun W (h : ScanAt W w.heap.size t (rbS t n)) => end_any t (rbS t n) w.heap.size W h (rbS_le t n) (by omega)
  have HN := hideD hn
  have HBAD := hideD (fun h => rb_bad (t := t) (n := n) ht h)
  have HOK := hideD (fun h => rb_ok (t := t) (n := n) ht h)
  have HLEN := hideD (rbL_len t)
  have HE := hideD (Txt.fin_le (t := t) (rbS_le t n))
  clear hn hT
  go_enter Tryd.func8, Tryd.ntmps8
  go_wp2_with fail
  go_loopw [6] (fun v wr => ∃ k : Nat, k ≤ n ∧ wr.ownsRow (w.heap.size + 1) 32 15 v k (lcs (rbL t k)) ∧ ScanAt wr w.heap.size t (rbS t k) ∧ Below w.heap.size w wr) (fun v _ => n - slen v)
  case atStart => exact ⟨0, by omega, World.ownsRow_nil _ _ _ _, hA, BA⟩
  case round =>
    clear hA BA
    obtain ⟨k, hk, hown, hsc, hb⟩ := hrel
    obtain ⟨a0, cap0, rfl⟩ := own_slice hown
    have hsz := hb.size
    have hbs := hsc.lt
    by_cases hlt : k < n
    · obtain ⟨q1, q2, q3⟩ := rbB_iff.mp (HN.out.go k hlt)
      have k1 := hsc.c1
      have k2 := hsc.c2
      have lnk := ln k (by omega)
      have HS : Hid (rbS t (k + 1) = rbE t (rbS t k) k) := rfl
      have HL : Hid (rbL t (k + 1) = rbL t k ++ [rbN t (rbS t k) k]) := rfl
      obtain ⟨x, hx⟩ : ∃ x, x = rbN t (rbS t k) k := ⟨_, rfl⟩
      have lnx := lnk x hx
      rw [← hx] at HL
      clear hx lnk
      obtain ⟨s, hs⟩ : ∃ s, s = rbS t k := ⟨_, rfl⟩
      rw [← hs] at q1 q2 k1 k2 lnx hsc HS
      rw [q1] at k2
      have q2' : (s.pos : Int) < (t.size : Int) := by omega
      have q3' : (k : Int) < 200 := by omega
      have hoN : ∀ j, (Value.ownBlock (.slice a0 k cap0)) = some j → w.heap.size + 1 ≤ j := fun j hj => (hown.lt j hj).1
      clear hs q1 q2 q3
      go_wp2_with (first
        | (go_at_call 22; refine (lnx _ hb hsc).mono ?_; rintro e w2 ⟨rfl, g2, s2⟩; have own2 := own_grown hown g2 (by omega); have B2 := Below.grown hb g2 hsz (fun j hj => by cases hj; exact Nat.le_refl _); have hs2 := g2.size)
        | (at_builtin; have _ := s2; refine wpList_append_own _ rfl _ _ 22 rfl (w.heap.size + 1) 32 i0 (.agg #[.int .i64 0, .int .i64 0, .int .i64 0, .int .i64 0, .int .i64 0, .int .i64 0, .int .i64 0, .int .i64 0, .int .i64 0, .int .i64 0, .int .i64 0, .int .i64 0, .int .i64 0, .int .i64 0, .int .i64 0]) 15 120 Tryd.underlying22 hi hz0 hz1 hz2 rfl (by decide) _ _ _ rfl ((own2.alloc _).alloc _) ⟨w2.heap.size + 1, 0, none⟩ 1 1 (lcell x) rfl rfl (by have := LR_cell (w2.alloc (.cells #[.int .i64 x.i0, .int .i64 x.i1, .int .i64 x.i2, .int .i64 x.o, .int .i64 x.pk, .int .i64 x.bl, .int .i64 x.en, .int .i64 x.pw, .int .i64 x.ap, .int .i64 x.ex, .int .i64 x.pd, .int .i64 x.bk, .int .i64 x.su, .int .i64 x.tx, .int .i64 x.to] 32)) x; rw [show (w2.alloc (.cells #[.int .i64 x.i0, .int .i64 x.i1, .int .i64 x.i2, .int .i64 x.o, .int .i64 x.pk, .int .i64 x.bl, .int .i64 x.en, .int .i64 x.pw, .int .i64 x.ap, .int .i64 x.ex, .int .i64 x.pd, .int .i64 x.bk, .int .i64 x.su, .int .i64 x.tx, .int .i64 x.to] 32)).heap.size = w2.heap.size + 1 by simp] at this; exact this) (fun y hy => by simp [lcell] at hy; rcases hy with rfl | rfl | rfl | rfl | rfl | rfl | rfl | rfl | rfl | rfl | rfl | rfl | rfl | rfl | rfl <;> rfl) (by unfold maxLen; omega) (by omega) (by simp; omega) ?_; intro v' w6 own6 g6 nil6; obtain ⟨a6, cap6, rfl⟩ := own_slice own6))
      go_roundw
      case rel => exact ⟨k + 1, by omega, by rw [HL.out, lcs_snoc]; exact own6, by rw [HS.out]; exact ((s2.alloc _).alloc _).grown g6 (fun e => by have := hoN _ e; omega), Below.grown (below_more (below_more B2 _) _) g6 (by simp; omega) (fun j hj => by have := hoN j hj; omega)⟩
      case measure => simp [slen]; omega
    · have hkn : k = n := by omega
      subst hkn
      have k1 := hsc.c1
      have k2 := hsc.c2
      have hno : ¬ ((rbS t k).bad = false ∧ (rbS t k).pos < t.size ∧ k < 200) := fun q => by have := rbB_iff.mpr q; rw [HN.out.no] at this; cases this
      have HK := hideD hno
      clear hno ln hlt hk
      obtain ⟨s, hs⟩ : ∃ s, s = rbS t k := ⟨_, rfl⟩
      rw [← hs] at k1 k2 en HK hsc HBAD HOK HE
      clear hs HN
      obtain ⟨f, hf⟩ : ∃ f, f = Txt.fin t s := ⟨_, rfl⟩
      rw [← hf] at en HBAD HOK HE
      clear hf
      cases hbd : s.bad
      · rw [hbd] at k2
        by_cases hp : s.pos < t.size
        · have hp' : (s.pos : Int) < (t.size : Int) := by omega
          have hk' : ¬ (k : Int) < 200 := fun q => HK.out ⟨hbd, hp, by omega⟩
          clear HK hbd hp
          cases hfb : f.bad
          · have HQ := hideD (HOK.out hfb)
            clear HBAD HOK
            go_wp2_with (go_at_call 23; refine (en _ hsc).mono ?_; rintro e w3 ⟨rfl, g3, s3⟩; have d1 := s3.c1; have d2 := s3.c2; rw [hfb] at d2; have B3 := Below.grown hb g3 hsz (fun j hj => by cases hj; exact Nat.le_refl _); have own3 := own_grown hown g3 (by omega))
            exact bodyPost_ret (v := .tuple #[.slice a0 k cap0, .int .i64 0, .int .i64 0]) (by simp [results, Tryd.results8, go_sem]) rfl ⟨_, by rw [HQ.out.1, HQ.out.2.1], by rw [HQ.out.2.2, HLEN.out]; exact own3, B3⟩
          · have HQ := hideD (HBAD.out hfb)
            clear HBAD HOK
            go_wp2_with (go_at_call 23; refine (en _ hsc).mono ?_; rintro e w3 ⟨rfl, g3, s3⟩; have d1 := s3.c1; have d2 := s3.c2; rw [hfb] at d2; have B3 := Below.grown hb g3 hsz (fun j hj => by cases hj; exact Nat.le_refl _); have own3 := own_grown hown g3 (by omega))
            go_quiet (fail)
            go_wp2_with fail
            exact bodyPost_ret (v := .tuple #[.slice none 0 0, .int .i64 2, .int .i64 f.pos]) (by simp [results, Tryd.results8, go_sem]) rfl ⟨_, by rw [HQ.out.1, HQ.out.2.1], by rw [HQ.out.2.2]; exact World.ownsRow_nil _ _ _ _, below_drewN B3 _⟩
        · have hp' : ¬ (s.pos : Int) < (t.size : Int) := by omega
          clear HK hbd hp
          cases hfb : f.bad
          · have HQ := hideD (HOK.out hfb)
            clear HBAD HOK
            go_wp2_with (go_at_call 23; refine (en _ hsc).mono ?_; rintro e w3 ⟨rfl, g3, s3⟩; have d1 := s3.c1; have d2 := s3.c2; rw [hfb] at d2; have B3 := Below.grown hb g3 hsz (fun j hj => by cases hj; exact Nat.le_refl _); have own3 := own_grown hown g3 (by omega))
            exact bodyPost_ret (v := .tuple #[.slice a0 k cap0, .int .i64 0, .int .i64 0]) (by simp [results, Tryd.results8, go_sem]) rfl ⟨_, by rw [HQ.out.1, HQ.out.2.1], by rw [HQ.out.2.2, HLEN.out]; exact own3, B3⟩
          · have HQ := hideD (HBAD.out hfb)
            clear HBAD HOK
            go_wp2_with (go_at_call 23; refine (en _ hsc).mono ?_; rintro e w3 ⟨rfl, g3, s3⟩; have d1 := s3.c1; have d2 := s3.c2; rw [hfb] at d2; have B3 := Below.grown hb g3 hsz (fun j hj => by cases hj; exact Nat.le_refl _); have own3 := own_grown hown g3 (by omega))
            go_quiet (fail)
            go_wp2_with fail
            exact bodyPost_ret (v := .tuple #[.slice none 0 0, .int .i64 2, .int .i64 f.pos]) (by simp [results, Tryd.results8, go_sem]) rfl ⟨_, by rw [HQ.out.1, HQ.out.2.1], by rw [HQ.out.2.2]; exact World.ownsRow_nil _ _ _ _, below_drewN B3 _⟩
      · rw [hbd] at k2
        clear HK hbd
        cases hfb : f.bad
        · have HQ := hideD (HOK.out hfb)
          clear HBAD HOK
          go_wp2_with (go_at_call 23; refine (en _ hsc).mono ?_; rintro e w3 ⟨rfl, g3, s3⟩; have d1 := s3.c1; have d2 := s3.c2; rw [hfb] at d2; have B3 := Below.grown hb g3 hsz (fun j hj => by cases hj; exact Nat.le_refl _); have own3 := own_grown hown g3 (by omega))
          exact bodyPost_ret (v := .tuple #[.slice a0 k cap0, .int .i64 0, .int .i64 0]) (by simp [results, Tryd.results8, go_sem]) rfl ⟨_, by rw [HQ.out.1, HQ.out.2.1], by rw [HQ.out.2.2, HLEN.out]; exact own3, B3⟩
        · have HQ := hideD (HBAD.out hfb)
          clear HBAD HOK
          go_wp2_with (go_at_call 23; refine (en _ hsc).mono ?_; rintro e w3 ⟨rfl, g3, s3⟩; have d1 := s3.c1; have d2 := s3.c2; rw [hfb] at d2; have B3 := Below.grown hb g3 hsz (fun j hj => by cases hj; exact Nat.le_refl _); have own3 := own_grown hown g3 (by omega))
          go_quiet (fail)
          go_wp2_with fail
          exact bodyPost_ret (v := .tuple #[.slice none 0 0, .int .i64 2, .int .i64 f.pos]) (by simp [results, Tryd.results8, go_sem]) rfl ⟨_, by rw [HQ.out.1, HQ.out.2.1], by rw [HQ.out.2.2]; exact World.ownsRow_nil _ _ _ _, below_drewN B3 _⟩

theorem ReadBill_any (t : ByteArray) (n : Nat) (hn : EndsB t n) (w : World) (hT : TB w) (ht : t.size ≤ maxLen) :
    Calls Tryd.prog 8 #[.string t] w fun e w' => ∃ v, e = .returned (.tuple #[v, .int .i64 (rbErr t n), .int .i64 (rbAt t n)]) ∧ w'.ownsRow w.heap.size 32 15 v (rbR t n).length (lcs (rbR t n)) ∧ Below w.heap.size w w' := by
  by_cases h1 : 80000 < t.size
  · obtain ⟨a, b, c⟩ := rb_long (n := n) h1
    refine (ReadBill_long t w h1 ht).mono ?_
    rintro e w' ⟨rfl, hb⟩
    exact ⟨_, by rw [a, b], by rw [c]; exact World.ownsRow_nil _ _ _ _, hb⟩
  · refine (ReadBill_short t n hn w hT (by omega)).mono ?_
    rintro e w' ⟨v, he, own, hb⟩
    exact ⟨v, he, own_base own (by omega), hb⟩
end Go.Proofs.YtjaffmmocbplaabDoor
