/-
  SamP, BnkW in one text.
-/
import Derived.Test.YtjaffmmocbplaabGreatDoorJ15
import Derived.BigQuiet
import Derived.Test.YtjaffmmocbplaabGreatDoorJ03
import Derived.Lib.OwnKind
namespace Go.Proofs.YtjaffmmocbplaabGreatDoor
open Go.RowKit
set_option linter.unusedVariables false
attribute [local go_sem ↓] Go.wp_at_zero Go.wp_at_succ

/-- a slice of periods reads as the list l -/
def PRow (w : World) (v : Value) (l : List Per) : Prop :=
  ∃ a cap, v = .slice a l.length cap ∧ (l = [] ∨ ∃ b, a = some ⟨b, 0, none⟩ ∧ l.length ≤ cap ∧ b < w.heap.size ∧
    ∀ i x, l[i]? = some x → w.cell? ⟨b, i * 5, none⟩ = some (.int .i64 x.i0) ∧ w.cell? ⟨b, i * 5 + 1, none⟩ = some (.int .i64 x.i1) ∧ w.cell? ⟨b, i * 5 + 2, none⟩ = some (.int .i64 x.i2) ∧ w.cell? ⟨b, i * 5 + 3, none⟩ = some (.int .i64 x.o) ∧ w.cell? ⟨b, i * 5 + 4, none⟩ = some (.int .i64 x.pk))
theorem PRow.form {w : World} {v : Value} {l : List Per} (h : PRow w v l) : ∃ a cap, v = .slice a l.length cap := by
  obtain ⟨a, cap, hv, _⟩ := h; exact ⟨a, cap, hv⟩
theorem PRow.below {w w' : World} {v : Value} {l : List Per} (h : PRow w v l) (hb : Below w.heap.size w w') : PRow w' v l := by
  obtain ⟨a, cap, hv, h⟩ := h
  refine ⟨a, cap, hv, h.imp id ?_⟩
  rintro ⟨b, ha, hc, hlt, h⟩
  have := hb.size
  refine ⟨b, ha, hc, by omega, fun i x hx => ?_⟩
  obtain ⟨h1, h2, h3, h4, h5⟩ := h i x hx
  exact ⟨vcell_below hb hlt h1, vcell_below hb hlt h2, vcell_below hb hlt h3, vcell_below hb hlt h4, vcell_below hb hlt h5⟩
theorem PRow.at {w : World} {a : Option Addr} {n cap : Nat} {l : List Per} (h : PRow w (.slice a n cap) l) {k : Nat} {x : Per} (hx : l[k]? = some x) :
    ∃ b, a = some ⟨b, 0, none⟩ ∧ n ≤ cap ∧ b < w.heap.size ∧ w.cell? ⟨b, k * 5, none⟩ = some (.int .i64 x.i0) ∧ w.cell? ⟨b, k * 5 + 1, none⟩ = some (.int .i64 x.i1) ∧ w.cell? ⟨b, k * 5 + 2, none⟩ = some (.int .i64 x.i2) ∧ w.cell? ⟨b, k * 5 + 3, none⟩ = some (.int .i64 x.o) ∧ w.cell? ⟨b, k * 5 + 4, none⟩ = some (.int .i64 x.pk) := by
  obtain ⟨a', cap', hv, h⟩ := h
  cases hv
  rcases h with rfl | ⟨b, rfl, hc, hlt, h⟩
  · simp at hx
  · exact ⟨b, rfl, hc, hlt, h k x hx⟩
theorem PRow.of_own {w : World} {base : Nat} {e : TypeId} {v : Value} {n : Nat} {l : List Per} (h : w.ownsRow base e 5 v n (pcs l)) (hn : l.length = n) : PRow w v l := by
  subst hn
  by_cases h0 : l.length = 0
  · obtain ⟨a, cap, rfl⟩ := own_slice h
    have : l = [] := List.eq_nil_of_length_eq_zero h0
    subst this
    exact ⟨a, cap, rfl, .inl rfl⟩
  · obtain ⟨g, cap, rfl, hb, hlt⟩ := h.form (by omega)
    have hcap : l.length ≤ cap := by
      rcases h.2 with ⟨h1, _⟩ | ⟨g', cap', cur, hv, _, _, hc, _⟩
      · cases h1
      · cases hv; exact hc
    refine ⟨some ⟨g, 0, none⟩, cap, rfl, .inr ⟨g, rfl, hcap, hlt, fun i x hx => ?_⟩⟩
    have hi : i < l.length := by
      rcases Nat.lt_or_ge i l.length with q | q
      · exact q
      · rw [List.getElem?_eq_none q] at hx; cases hx
    obtain ⟨h1, h2, h3, h4, h5⟩ := pcs_get l i x hx
    exact ⟨by rw [h.cellAt _ (by omega)]; exact h1, by rw [h.cellAt _ (by omega)]; exact h2, by rw [h.cellAt _ (by omega)]; exact h3, by rw [h.cellAt _ (by omega)]; exact h4, by rw [h.cellAt _ (by omega)]; exact h5⟩

end Go.Proofs.YtjaffmmocbplaabGreatDoor

namespace Go.Proofs.YtjaffmmocbplaabGreatDoor
open Go.RowKit Bil
set_option linter.unusedVariables false
attribute [local go_sem ↓] Go.wp_at_zero Go.wp_at_succ

theorem rounded_any (n : Int) (w : World) (h0 : 0 ≤ n) (h1 : n ≤ 9000000000000000000) :
    Calls Tryz.prog 28 #[.int .i64 n] w fun e w' => e = .returned (.int .i64 (rnd n)) ∧ w' = w := by
  have ht : (n + 500).tdiv 1000 = rnd n := Int.tdiv_eq_ediv_of_nonneg (by omega)
  have hb := rnd_bd h0 h1
  go_enter Tryz.func28, Tryz.ntmps28
  go_wp2
  go_ret
  exact ⟨rfl, rfl⟩
theorem larger_any (a b : Int) (w : World) : Calls Tryz.prog 26 #[.int .i64 a, .int .i64 b] w fun e w' => e = .returned (.int .i64 (mx a b)) ∧ w' = w := by
  by_cases h : b < a
  all_goals
    go_enter Tryz.func26, Tryz.ntmps26
    go_wp2
    go_ret
    exact ⟨ret_int (by unfold mx; split <;> omega), rfl⟩
theorem smaller_any (a b : Int) (w : World) : Calls Tryz.prog 67 #[.int .i64 a, .int .i64 b] w fun e w' => e = .returned (.int .i64 (mn a b)) ∧ w' = w := by
  by_cases h : a < b
  all_goals
    go_enter Tryz.func67, Tryz.ntmps67
    go_wp2
    go_ret
    exact ⟨ret_int (by unfold mn; split <;> omega), rfl⟩

/-- the bank in block b: its list in memory is v -/
structure BankAt (w : World) (base b : Nat) (v : Value) (c : List Int) : Prop where
  lt : b < w.heap.size
  c0 : w.cell? ⟨b, 0, none⟩ = some v
  f0 : w.frozen? ⟨b, 0, none⟩ = false
  own : w.ownsRow base 3 1 v c.length (ints c)
  hb : b < base
  hz : base ≤ w.heap.size
theorem BankAt.ne {w : World} {base b : Nat} {v : Value} {c : List Int} (h : BankAt w base b v c) : v.ownBlock ≠ some b := fun e => by have := (h.own.lt b e).1; have := h.hb; omega
theorem BankAt.kept {w w' : World} {base b : Nat} {v : Value} {c : List Int} {r : Option Nat} (h : BankAt w base b v c) (hg : w.grownBy w' r) (h1 : some b ≠ r) (h2 : v.ownBlock = none ∨ v.ownBlock ≠ r) : BankAt w' base b v c := by
  have e : w'.heap[b]? = w.heap[b]? := hg.block b h.lt h1
  exact ⟨Nat.lt_of_lt_of_le h.lt hg.size, (World.cell?_of_block (a := ⟨b, 0, none⟩) e).trans h.c0, (World.frozen?_of_block (a := ⟨b, 0, none⟩) e).trans h.f0, h.own.kept hg h2, h.hb, Nat.le_trans h.hz hg.size⟩
theorem BankAt.below {w w' : World} {base b : Nat} {v : Value} {c : List Int} (h : BankAt w base b v c) (hb : Below w.heap.size w w') : BankAt w' base b v c := by
  have e := hb.block b h.lt
  exact ⟨Nat.lt_of_lt_of_le h.lt hb.size, (World.cell?_of_block (a := ⟨b, 0, none⟩) e).trans h.c0, (World.frozen?_of_block (a := ⟨b, 0, none⟩) e).trans h.f0, own_below h.own hb, h.hb, Nat.le_trans h.hz hb.size⟩
theorem BankAt.drewN {w : World} {base b : Nat} {v : Value} {c : List Int} (h : BankAt w base b v c) (n : Nat) : BankAt (w.drewN n) base b v c := ⟨h.lt, h.c0, h.f0, h.own, h.hb, h.hz⟩
theorem ints_get {c : List Int} {k : Nat} (h : k < c.length) : (ints c)[k]? = some (.int .i64 (cAt c k)) := by
  simp [ints, cAt_get h]
/-- the credit at k, and its place -/
theorem BankAt.at {w : World} {base b n : Nat} {v : Value} {c : List Int} (h : BankAt w base b v c) (hn : c.length = n) {k : Nat} (hk : k < n) :
    ∃ g cap, v = .slice (some ⟨g, 0, none⟩) n cap ∧ n ≤ cap ∧ g < w.heap.size ∧ ¬ g = b ∧ w.cell? ⟨g, k, none⟩ = some (.int .i64 (cAt c k)) ∧ w.frozen? ⟨g, k, none⟩ = false := by
  subst hn
  have own := h.own
  obtain ⟨g, cap, rfl, hb, hlt⟩ := own.form (by omega)
  have hcap : c.length ≤ cap := by
    rcases own.2 with ⟨h1, _⟩ | ⟨g', cap', cur, hv, _, _, hc, _⟩
    · cases h1
    · cases hv; exact hc
  refine ⟨g, cap, rfl, hcap, hlt, fun e => h.ne (by rw [e]; rfl), ?_, own.frozenAt k⟩
  rw [own.cellAt k (by omega), ints_get hk]
theorem BankAt.put {w : World} {base b g cap n : Nat} {c : List Int} (h : BankAt w base b (.slice (some ⟨g, 0, none⟩) n cap) c) (hn : c.length = n) (k : Nat) (x : Int) :
    BankAt (w.setCell ⟨g, k, none⟩ (.int .i64 x)) base b (.slice (some ⟨g, 0, none⟩) n cap) (c.set k x) := by
  subst hn
  have hne : ¬ b = g := fun e => h.ne (by rw [e]; rfl)
  obtain ⟨s1, s2⟩ := h.own.stored k (.int .i64 x)
  have e : (w.setCell ⟨g, k, none⟩ (.int .i64 x)).heap[b]? = w.heap[b]? := s2.block b h.lt (fun e => hne (by injection e))
  refine ⟨Nat.lt_of_lt_of_le h.lt s2.size, (World.cell?_of_block (a := ⟨b, 0, none⟩) e).trans h.c0, (World.frozen?_of_block (a := ⟨b, 0, none⟩) e).trans h.f0, ?_, h.hb, Nat.le_trans h.hz s2.size⟩
  rw [List.length_set]
  have : ints (c.set k x) = (ints c).set k (.int .i64 x) := by simp [ints, List.map_set]
  rw [this]; exact s1
theorem BankAt.form {w : World} {base b n : Nat} {v : Value} {c : List Int} (h : BankAt w base b v c) (hn : c.length = n) : ∃ a cap, v = .slice a n cap := by
  subst hn; exact own_slice h.own

set_option maxHeartbeats 1000000 in
theorem expire_any (c : List Int) (q : Int) (base b : Nat) (v : Value) (w : World) (h : BankAt w base b v c) (hc : okL 20000000000001 c) (hl : c.length ≤ 40000) (q0 : 0 ≤ q) (q1 : q ≤ 12) :
    Calls Tryz.prog 29 #[.pointer (some ⟨b, 0, none⟩), .int .i64 q] w fun e w' => e = .returned (.int .i64 ((c.take ((c.length : Int) - q).toNat).sum)) ∧ w.grownBy w' v.ownBlock ∧ BankAt w' base b v (expC c ((c.length : Int) - q).toNat) := by
  obtain ⟨n, hn⟩ : ∃ n, n = ((c.length : Int) - q).toNat := ⟨_, rfl⟩
  rw [← hn]
  obtain ⟨N, hN⟩ : ∃ N, N = c.length := ⟨_, rfl⟩
  have HLE : n ≤ N := by omega
  have HQ : (n : Int) = N - q ∨ (n = 0 ∧ (N : Int) - q ≤ 0) := by omega
  have SUM := hideF (fun k (hk : k ≤ N) => okL_sum hc k (by omega))
  have HLN := hideF hN.symm
  have hNl : N ≤ 40000 := by omega
  clear hn hl hc
  have HN : Hid (N = c.length) := hN
  clear hN
  obtain ⟨a, cap, rfl⟩ := h.form HN.out.symm
  go_enter Tryz.func29, Tryz.ntmps29
  go_wp2_with fail
  go_loopw [5, 6] (fun x i wr => ∃ k : Nat, i = .int .i64 k ∧ k ≤ n ∧ x = .int .i64 (c.take k).sum ∧ w.grownBy wr (Value.ownBlock (.slice a N cap)) ∧ BankAt wr base b (.slice a N cap) (expC c k)) (fun _ i _ => n - (intOf i).toNat)
  case atStart => exact ⟨0, rfl, by omega, rfl, grown_refl _ _, h⟩
  case round =>
    obtain ⟨k, rfl, hk, rfl, hg, hB⟩ := hrel
    have S0 := SUM.out k (by omega)
    have b0 := hB.c0
    have bl := hB.lt
    by_cases hlt : k < n
    · obtain ⟨g, cap', e1, hcap, hglt, hgb, cg, fg⟩ := hB.at (n := N) (by rw [expC_len]; exact HN.out.symm) (show k < N by omega)
      cases e1
      rw [expC_get c k k (Nat.le_refl _)] at cg
      have S1 := SUM.out (k + 1) (by omega)
      have HS : Hid ((c.take (k + 1)).sum = (c.take k).sum + cAt c k) := sum_take (by rw [← HN.out]; omega)
      rw [HS.out] at S1
      have hk0 : (0 : Int) ≤ (k : Int) := by omega
      have hkN : (k : Int) < (N : Int) := by omega
      have hcap' : (N : Int) ≤ (cap : Int) := by omega
      have hkn : (k : Int) < (N : Int) - q := by omega
      have hgb' : ¬ b = g := fun e => hgb e.symm
      obtain ⟨X, hX⟩ : ∃ X, X = cAt c k := ⟨_, rfl⟩
      obtain ⟨Y, hY⟩ : ∃ Y, Y = (c.take k).sum := ⟨_, rfl⟩
      rw [← hX] at cg HS S1
      rw [← hY] at S0 S1 HS
      rw [← hY]
      clear hX hY
      go_wp2_with fail
      go_roundw
      case rel => exact ⟨k + 1, by go_num, by omega, by rw [HS.out], grown_trans hg ⟨rfl, rfl, rfl, by simp [World.setCell], fun j hj hr => Below.heap_setCell _ _ _ _ (by intro e; apply hr; rw [e]; rfl)⟩, hB.put (by rw [expC_len]; exact HN.out.symm) k 0⟩
      case measure => simp [intOf]; omega
    · have hkn : ¬ (k : Int) < (N : Int) - q := by omega
      have hke : k = n := by omega
      have HK := hideF hke
      clear hke
      go_wp2_with fail
      go_ret
      exact ⟨ret_int (by rw [HK.out]), hg, by rw [← HK.out]; exact hB⟩

set_option maxHeartbeats 1000000 in
theorem apply_any (c : List Int) (m : Int) (base b : Nat) (v : Value) (w : World) (h : BankAt w base b v c) (hc : okL 20000000000001 c) (hl : c.length ≤ 40000) (m0 : 0 ≤ m) (m1 : m ≤ 70000000000000) :
    Calls Tryz.prog 30 #[.pointer (some ⟨b, 0, none⟩), .int .i64 m] w fun e w' => e = .returned (.int .i64 (appA m c c.length)) ∧ w.grownBy w' v.ownBlock ∧ BankAt w' base b v (appC m c c.length) := by
  obtain ⟨N, hN⟩ : ∃ N, N = c.length := ⟨_, rfl⟩
  have BD := hideF (fun k (hk : k ≤ N) => appA_bd hc m0 k (by omega))
  have CD := hideF (fun k (hk : k < N) => hc k (by omega))
  have HN : Hid (N = c.length) := hN
  rw [← hN]
  have hNl : N ≤ 40000 := by omega
  clear hl hc hN
  obtain ⟨a, cap, rfl⟩ := h.form HN.out.symm
  go_enter Tryz.func30, Tryz.ntmps30
  go_wp2_with fail
  go_loopw [5, 6] (fun x i wr => ∃ k : Nat, i = .int .i64 k ∧ k ≤ N ∧ x = .int .i64 (appA m c k) ∧ w.grownBy wr (Value.ownBlock (.slice a N cap)) ∧ BankAt wr base b (.slice a N cap) (appC m c k)) (fun _ i _ => N - (intOf i).toNat)
  case atStart => exact ⟨0, rfl, by omega, rfl, grown_refl _ _, h⟩
  case round =>
    obtain ⟨k, rfl, hk, rfl, hg, hB⟩ := hrel
    have S0 := BD.out k (by omega)
    have b0 := hB.c0
    have bl := hB.lt
    by_cases hlt : k < N
    · obtain ⟨g, cap', e1, hcap, hglt, hgb, cg, fg⟩ := hB.at (n := N) (by rw [appC_len]; exact HN.out.symm) (show k < N by omega)
      cases e1
      rw [appC_get m c k k (Nat.le_refl _)] at cg
      have C0 := CD.out k hlt
      have S1 := BD.out (k + 1) (by omega)
      have HS : Hid (appA m c (k + 1) = appA m c k + mn (cAt c k) (m - appA m c k)) := rfl
      have HC : Hid (appC m c (k + 1) = (appC m c k).set k (cAt c k - mn (cAt c k) (m - appA m c k))) := rfl
      rw [HS.out] at S1
      have hk0 : (0 : Int) ≤ (k : Int) := by omega
      have hkN : (k : Int) < (N : Int) := by omega
      have hcap' : (N : Int) ≤ (cap : Int) := by omega
      have hgb' : ¬ b = g := fun e => hgb e.symm
      obtain ⟨X, hX⟩ : ∃ X, X = cAt c k := ⟨_, rfl⟩
      obtain ⟨Y, hY⟩ : ∃ Y, Y = appA m c k := ⟨_, rfl⟩
      rw [← hX] at cg HS HC S1 C0
      rw [← hY] at S0 S1 HS HC
      rw [← hY]
      have ml := mn_le X (m - Y)
      have sm := fun w => smaller_any X (m - Y) w
      obtain ⟨Z, hZ⟩ : ∃ Z, Z = mn X (m - Y) := ⟨_, rfl⟩
      rw [← hZ] at HS HC S1 ml sm
      have hz0 : X - 20000000000001 - 70000000000000 ≤ X - Z := by omega
      clear hX hY hZ
      go_wp2_with (go_at_call 67; refine (sm _).mono ?_; rintro e w7 ⟨rfl, h7⟩; have h8 := h7.symm; subst h8)
      go_roundw
      case rel => exact ⟨k + 1, by go_num, by omega, by rw [HS.out], grown_trans hg ⟨rfl, rfl, rfl, by simp [World.setCell], fun j hj hr => Below.heap_setCell _ _ _ _ (by intro e; apply hr; rw [e]; rfl)⟩, by rw [HC.out]; exact hB.put (by rw [appC_len]; exact HN.out.symm) k (X - Z)⟩
      case measure => simp [intOf]; omega
    · have hkn : ¬ (k : Int) < (N : Int) := by omega
      have hke : k = N := by omega
      have HK := hideF hke
      clear hke
      go_wp2_with fail
      go_ret
      exact ⟨ret_int (by rw [HK.out]), hg, by have e : appC m c N = appC m c k := (by rw [HK.out]); rw [e]; exact hB⟩

set_option maxHeartbeats 1000000 in
theorem left_any (c : List Int) (base b : Nat) (v : Value) (w : World) (h : BankAt w base b v c) (hc : okL 20000000000001 c) (hl : c.length ≤ 40000) :
    Calls Tryz.prog 32 #[.pointer (some ⟨b, 0, none⟩)] w fun e w' => e = .returned (.int .i64 c.sum) ∧ w' = w := by
  obtain ⟨N, hN⟩ : ∃ N, N = c.length := ⟨_, rfl⟩
  have SUM := hideF (fun k (hk : k ≤ N) => okL_sum hc k (by omega))
  have HN : Hid (N = c.length) := hN
  have hNl : N ≤ 40000 := by omega
  clear hl hc hN
  obtain ⟨a, cap, rfl⟩ := h.form HN.out.symm
  have b0 := h.c0
  have bl := h.lt
  go_enter Tryz.func32, Tryz.ntmps32
  go_wp2_with fail
  go_loopw [3, 4] (fun x i wr => ∃ k : Nat, i = .int .i64 k ∧ k ≤ N ∧ x = .int .i64 (c.take k).sum ∧ wr = w) (fun _ i _ => N - (intOf i).toNat)
  case atStart => exact ⟨0, rfl, by omega, rfl, rfl⟩
  case round =>
    obtain ⟨k, rfl, hk, rfl, rfl⟩ := hrel
    have S0 := SUM.out k (by omega)
    by_cases hlt : k < N
    · obtain ⟨g, cap', e1, hcap, hglt, hgb, cg, fg⟩ := h.at (n := N) HN.out.symm (show k < N by omega)
      cases e1
      have S1 := SUM.out (k + 1) (by omega)
      have HS : Hid ((c.take (k + 1)).sum = (c.take k).sum + cAt c k) := sum_take (by rw [← HN.out]; omega)
      rw [HS.out] at S1
      have hk0 : (0 : Int) ≤ (k : Int) := by omega
      have hkN : (k : Int) < (N : Int) := by omega
      have hcap' : (N : Int) ≤ (cap : Int) := by omega
      obtain ⟨X, hX⟩ : ∃ X, X = cAt c k := ⟨_, rfl⟩
      obtain ⟨Y, hY⟩ : ∃ Y, Y = (c.take k).sum := ⟨_, rfl⟩
      rw [← hX] at cg HS S1
      rw [← hY] at S0 S1 HS
      rw [← hY]
      clear hX hY
      go_wp2_with fail
      go_roundw
      case rel => exact ⟨k + 1, by go_num, by omega, by rw [HS.out], by first | exact rfl | trivial⟩
      case measure => simp [intOf]; omega
    · have hkn : ¬ (k : Int) < (N : Int) := by omega
      have hke : c.length ≤ k := by have := HN.out; omega
      have HK : Hid (c.take k = c) := List.take_of_length_le hke
      clear hke
      go_wp2_with fail
      go_ret
      exact ⟨ret_int (by rw [HK.out]), rfl⟩

set_option maxHeartbeats 1000000 in
theorem add_any (c : List Int) (x : Int) (base b : Nat) (v : Value) (w : World) (h : BankAt w base b v c) (hl : c.length ≤ 40000) :
    Calls Tryz.prog 31 #[.pointer (some ⟨b, 0, none⟩), .int .i64 x] w fun e w' => e = .returned (.tuple #[]) ∧ ∃ v', BankAt w' base b v' (c ++ [x]) ∧ w'.heap.size ≥ w.heap.size ∧
      (∀ k, k < w.heap.size → ¬ k = b → some k ≠ v.ownBlock → w'.heap[k]? = w.heap[k]?) ∧ w'.os = w.os ∧ w'.tape = w.tape ∧ w'.output = w.output := by
  obtain ⟨i0, hi, hz0, hz1, hz2⟩ := info_parts info3
  obtain ⟨a, cap, rfl⟩ := h.form rfl
  have b0 := h.c0
  have f0 := h.f0
  have bl := h.lt
  have own := h.own
  have hne := h.ne
  have hbz := h.hz
  go_enter Tryz.func31, Tryz.ntmps31
  go_wp2_with (at_builtin; refine wpList_append_own _ rfl _ _ 87 rfl base 3 i0 (.int .i64 0) 1 8 Tryz.underlying87 hi hz0 hz1 hz2 rfl (by decide) _ _ _ rfl (own.alloc _) ⟨w.heap.size, 0, none⟩ 1 1 [.int .i64 x] rfl rfl (cell_one_new _ _ _) (fun x hx => by simp at hx; subst hx; rfl) (by unfold maxLen; omega) (by omega) (by simp; omega) ?_; intro v' w4 own4 g4 nil4; obtain ⟨a4, cap4, rfl⟩ := own_slice own4; have e4 : w4.heap[b]? = w.heap[b]? := ((g4.block b (by simp; omega) (fun e => hne e.symm)).trans (heap_alloc_old _ _ bl)); have b4 := (World.cell?_of_block (a := ⟨b, 0, none⟩) e4).trans b0; have k4 := (World.frozen?_of_block (a := ⟨b, 0, none⟩) e4).trans f0)
  go_end0
  have hbb := h.hb
  have o4 : w4.ownsRow base 3 1 (.slice a4 (c.length + 1) cap4) (c ++ [x]).length (ints (c ++ [x])) := by rw [ints_snoc, List.length_append]; exact own4
  refine ⟨rfl, .slice a4 (c.length + 1) cap4, ⟨?_, ?_, ?_, ownsRow_setCell_below o4 hbb _, hbb, ?_⟩, ?_, ?_, g4.os, g4.tape, g4.output⟩
  · have := g4.size; simp at this; simp; omega
  · simp [go_sem, b4]
  · simp [go_sem, k4]
  · have := g4.size; simp at this; simp; omega
  · have := g4.size; simp at this; simp; omega
  · intro k hk h1 h2
    rw [Below.heap_setCell _ _ _ _ (fun e => h1 e), g4.block k (by simp; omega) h2, heap_alloc_old _ _ hk]

end Go.Proofs.YtjaffmmocbplaabGreatDoor
