/-
  PrtD, BakM in one text.
-/
import Derived.Test.YtjaffmmocbplaabDoorKPrtX
import Derived.Laws.BytesArg
import Derived.Test.YtjaffmmocbplaabDoorVals
namespace Go.Proofs.YtjaffmmocbplaabDoor
open Go.RowKit Go.Shelf
set_option linter.unusedVariables false
attribute [local go_sem ↓] Go.wp_at_zero Go.wp_at_succ
theorem dig_small {n : Nat} (h : n < 10) : dS (n : Int) = ⟨#[UInt8.ofNat (48 + n)]⟩ := by
  unfold dS; rw [Int.toNat_natCast, Lib.decDigits, dif_pos h]
theorem dig_big {n : Nat} (h : ¬ n < 10) : dS (n : Int) = dS ((n / 10 : Nat) : Int) ++ ⟨#[UInt8.ofNat (48 + n % 10)]⟩ := by
  unfold dS; rw [Int.toNat_natCast, Int.toNat_natCast, Lib.decDigits, dif_neg h]
  apply ByteArray.ext; simp
set_option maxRecDepth 100000 in
set_option maxHeartbeats 1000000 in
theorem Dec_any (n : Nat) (hn : n ≤ 9000000000000000) : ∀ w : World,
    Calls Tryd.prog 20 #[.int .i64 n] w fun e w' => e = .returned (.string (dS n)) ∧ Below w.heap.size w w' := by
  induction n using Nat.strongRecOn with
  | _ n ih =>
    intro w
    have hm : (n : Int).tmod 10 = ((n % 10 : Nat) : Int) := by rw [Int.tmod_eq_emod_of_nonneg (by omega)]; omega
    have hd : (n : Int).tdiv 10 = ((n / 10 : Nat) : Int) := by rw [Int.tdiv_eq_ediv_of_nonneg (by omega)]; omega
    have hk : n % 10 < 10 := Nat.mod_lt _ (by omega)
    obtain ⟨d, hdd⟩ : ∃ d, d = n % 10 := ⟨_, rfl⟩
    rw [← hdd] at hm hk
    have cv := fun (w0 : World) (c0 : w0.cell? ⟨w.heap.size, 0, none⟩ = some (.int .u8 (48 + (d : Int)))) => run_convert_bytes_arg (P := Tryd.prog) w0 104 5 Tryd.underlying104 Tryd.underlying5 w.heap.size 0 1 1 [48 + (d : Int)] rfl (fun i hi => by
      have e : i = 0 := by simp at hi; omega
      subst e; simpa using c0) 9 Tryd.underlying9
    have cv1 := cv (w.alloc (.cells #[.int .u8 (48 + (d : Int))] 5)) (by simp [go_sem])
    have es : strOfNums [48 + (d : Int)] = ⟨#[UInt8.ofNat (48 + d)]⟩ := by
      unfold strOfNums
      have : (48 + (d : Int)).toNat = 48 + d := by omega
      simp [this]
    rw [es] at cv1
    obtain ⟨D1, hD1⟩ : ∃ D : ByteArray, D = ⟨#[UInt8.ofNat (48 + d)]⟩ := ⟨_, rfl⟩
    rw [← hD1] at cv1
    have sD1 : D1.size = 1 := by rw [hD1]; rfl
    have HD1 := hideP hD1
    have kw : IntKind.u8.wrap (48 + (d : Int)) = 48 + (d : Int) := by
      show (48 + (d : Int)) % 256 = _
      omega
    clear cv es hD1
    by_cases h10 : n < 10
    · have h10' : (n : Int) < 10 := by omega
      have HS : Hid (dS (n : Int) = D1) := by show _ = _; rw [HD1.out, dig_small h10]; rw [show n = d by omega]
      clear ih hdd hd HD1
      go_enter Tryd.func20, Tryd.ntmps20
      go_wp2_with fail
      go_ret
      exact ⟨ret_str HS.out, below_more (Below.refl _ _) _⟩
    · have h10' : ¬ (n : Int) < 10 := by omega
      have HS : Hid (dS (n : Int) = dS ((n / 10 : Nat) : Int) ++ D1) := by show _ = _; rw [HD1.out, dig_big h10, hdd]
      have ihn := ih (n / 10) (by omega) (by omega)
      have sz := dS_size (n := ((n / 10 : Nat) : Int)) (by omega) (by omega)
      obtain ⟨m, hmm⟩ : ∃ m, m = n / 10 := ⟨_, rfl⟩
      rw [← hmm] at ihn sz HS hd
      have ad : ∀ w, (Op.stringOp .add (dS (m : Int)) D1).run Tryd.prog w = .ok (.string (dS (m : Int) ++ D1)) w := sadd _ _ (by omega)
      have mb : (m : Int) ≤ 9000000000000000 := by omega
      have mb0 : (0 : Int) ≤ (m : Int) := by omega
      clear ih hdd hmm HD1
      go_enter Tryd.func20, Tryd.ntmps20
      go_wp2_with (go_at_call 20; refine (ihn _).mono ?_; rintro e w1 ⟨rfl, hb1⟩)
      go_ret
      exact ⟨ret_str HS.out, below_then (below_more (Below.refl _ _) _) hb1⟩
/-- the numbers of a row, up to k -/
def rowK (c : ByteArray) (l : List Int) : Nat → ByteArray
  | 0 => c
  | k + 1 => rowK c l k ++ ⟨#[32]⟩ ++ dS (l.getD k 0)
def rowS (c : ByteArray) (l : List Int) : ByteArray := rowK c l l.length ++ ⟨#[10]⟩
theorem rowK_size {c : ByteArray} {l : List Int} (h : ∀ k, k < l.length → nB (l.getD k 0)) : ∀ k, k ≤ l.length → (rowK c l k).size ≤ c.size + 22 * k
  | 0, _ => Nat.le_refl _
  | k + 1, hk => by
    have := rowK_size (c := c) h k (by omega)
    have := (h k (by omega)).d
    show (rowK c l k ++ ⟨#[32]⟩ ++ dS (l.getD k 0)).size ≤ _
    rw [app_size, app_size]; show _ + 1 + _ ≤ _; omega
theorem rowS_size {c : ByteArray} {l : List Int} (h : ∀ k, k < l.length → nB (l.getD k 0)) : (rowS c l).size ≤ c.size + 22 * l.length + 1 := by
  have := rowK_size (c := c) h l.length (Nat.le_refl _)
  unfold rowS; rw [app_size]; show _ + 1 ≤ _; omega
set_option maxRecDepth 100000 in
set_option maxHeartbeats 1000000 in
theorem row_any (c : ByteArray) (l : List Int) (g : Nat) (w : World) (hg : g < w.heap.size) (hc : ∀ i, i < l.length → w.cell? ⟨g, i, none⟩ = some (.int .i64 (l.getD i 0))) (hn : ∀ k, k < l.length → nB (l.getD k 0)) (hl : l.length ≤ 20) (hs : c.size ≤ 1000) :
    Calls Tryd.prog 19 #[.string c, .slice (some ⟨g, 0, none⟩) l.length l.length] w fun e w' => e = .returned (.string (rowS c l)) ∧ Below w.heap.size w w' := by
  have RS := hideP (rowK_size (c := c) hn)
  have HC := hideP hc
  have HN := hideP hn
  clear hc hn
  go_enter Tryd.func19, Tryd.ntmps19
  go_wp2_with fail
  go_loopw [0, 5] (fun s p wr => ∃ k : Nat, p = .int .i64 k ∧ k ≤ l.length ∧ s = .string (rowK c l k) ∧ Below w.heap.size w wr) (fun _ p _ => l.length - (intOf p).toNat)
  case atStart => exact ⟨0, rfl, by omega, rfl, Below.refl _ _⟩
  case round =>
    obtain ⟨k, rfl, hk, rfl, hb⟩ := hrel
    have sk := RS.out k hk
    by_cases hlt : k < l.length
    · have hlt' : (k : Int) < (l.length : Int) := by omega
      have hk0 : (0 : Int) ≤ (k : Int) := by omega
      have ck := vcell_below hb hg (HC.out k hlt)
      have nk := HN.out k hlt
      have HS : Hid (rowK c l (k + 1) = rowK c l k ++ ⟨#[32]⟩ ++ dS (l.getD k 0)) := rfl
      obtain ⟨N, hN⟩ : ∃ N : Nat, l.getD k 0 = (N : Int) := ⟨(l.getD k 0).toNat, by have := nk.1; omega⟩
      rw [hN] at ck nk HS
      have dc := Dec_any N (by have := nk.2; omega)
      have sd := nk.d
      obtain ⟨X, hX⟩ : ∃ X, X = rowK c l k := ⟨_, rfl⟩
      rw [← hX] at sk HS
      rw [← hX]
      obtain ⟨Y, hY⟩ : ∃ Y, Y = X ++ (⟨#[32]⟩ : ByteArray) := ⟨_, rfl⟩
      have sY : Y.size = X.size + 1 := by rw [hY, app_size]; rfl
      have a1 : ∀ w, (Op.stringOp .add X ⟨#[32]⟩).run Tryd.prog w = .ok (.string Y) w := by rw [hY]; exact sadd _ _ (by show _ + 1 ≤ _; omega)
      have a2 : ∀ w, (Op.stringOp .add Y (dS (N : Int))).run Tryd.prog w = .ok (.string (Y ++ dS (N : Int))) w := sadd _ _ (by omega)
      have HY := hideP hY
      clear hN hX hY
      go_wp2_with (go_at_call 20; refine (dc _).mono ?_; rintro e w1 ⟨rfl, hb1⟩)
      go_roundw
      case rel => exact ⟨k + 1, by go_num, by omega, by rw [HS.out, HY.out], below_then hb hb1⟩
      case measure => simp [intOf]; omega
    · have hlt' : ¬ (k : Int) < (l.length : Int) := by omega
      have hke : k = l.length := by omega
      obtain ⟨X, hX⟩ : ∃ X, X = rowK c l k := ⟨_, rfl⟩
      rw [← hX] at sk
      rw [← hX]
      have a1 : ∀ w, (Op.stringOp .add X ⟨#[10]⟩).run Tryd.prog w = .ok (.string (X ++ ⟨#[10]⟩)) w := sadd _ _ (by show _ + 1 ≤ _; omega)
      have HX : Hid (X = rowK c l l.length) := by show _ = _; rw [hX, hke]
      clear hX hke
      go_wp2_with fail
      go_ret
      exact ⟨ret_str (by unfold rowS; rw [HX.out]), hb⟩
theorem nB.dec {n : Int} (h : nB n) (w : World) : Calls Tryd.prog 20 #[.int .i64 n] w fun e w' => e = .returned (.string (dS n)) ∧ Below w.heap.size w w' := by
  obtain ⟨N, rfl⟩ : ∃ N : Nat, n = (N : Int) := ⟨n.toNat, by have := h.1; omega⟩
  exact Dec_any N (by have := h.2; omega) w
theorem row_cells {w : World} {g : Nat} {xs : List Int} (h : w.heap[g]? = some (.cells (xs.map (Value.int .i64)).toArray 3 (0, 0))) : ∀ i, i < xs.length → w.cell? ⟨g, i, none⟩ = some (.int .i64 (xs.getD i 0)) := fun i hi => by
  rw [cell_of_row _ _ _ _ _ _ h]
  simp [hi]
theorem row_lt {w : World} {g : Nat} {o : Obj} (h : w.heap[g]? = some o) : g < w.heap.size := (Array.getElem?_eq_some_iff.1 h).1
theorem nb_nil : ∀ k, k < ([] : List Int).length → nB (([] : List Int).getD k 0) := fun k hk => by simp at hk
theorem nb_cons {x : Int} {xs : List Int} (h : nB x) (t : ∀ k, k < xs.length → nB (xs.getD k 0)) : ∀ k, k < (x :: xs).length → nB ((x :: xs).getD k 0)
  | 0, _ => h
  | k + 1, hk => t k (by simpa using hk)
theorem alloc_far {w : World} {g : Nat} {o : Obj} {q : Option Obj} (h : w.heap[g]? = q) (hg : g < w.heap.size) : (w.alloc o).heap[g]? = q := (heap_alloc_old _ _ hg).trans h
end Go.Proofs.YtjaffmmocbplaabDoor

namespace Go.Proofs.YtjaffmmocbplaabDoor
set_option linter.unusedVariables false
open Txt (byteAt Sc digB runD num take field fin seesB)

theorem byteAt_data (x : ByteArray) (i : Nat) : byteAt x i = (x.data[i]?).elim (-1) (fun c => (c.toNat : Int)) := by
  unfold Txt.byteAt
  by_cases h : i < x.size
  · rw [dif_pos h]
    have h' : i < x.data.size := h
    rw [Array.getElem?_eq_getElem h']; rfl
  · rw [dif_neg h]
    have h' : ¬ i < x.data.size := h
    rw [Array.getElem?_eq_none (by omega)]; rfl
theorem byteAt_left {a b : ByteArray} {i : Nat} (h : i < a.size) : byteAt (a ++ b) i = byteAt a i := by
  rw [byteAt_data, byteAt_data]
  have h' : i < a.data.size := h
  rw [ByteArray.data_append, Array.getElem?_append_left h']
theorem byteAt_right (a b : ByteArray) (i : Nat) : byteAt (a ++ b) (a.size + i) = byteAt b i := by
  rw [byteAt_data, byteAt_data, ByteArray.data_append]
  have e : a.size = a.data.size := rfl
  rw [e, Array.getElem?_append_right (by omega), Nat.add_sub_cancel_left]
theorem u8N {m : Nat} (h : m < 256) : (UInt8.ofNat m).toNat = m := by rw [UInt8.toNat_ofNat']; exact Nat.mod_eq_of_lt h
theorem byteAt_one (c : UInt8) : byteAt ⟨#[c]⟩ 0 = (c.toNat : Int) := by rw [byteAt_data]; rfl
/-- at place p the text goes on with x -/
def At (t : ByteArray) (p : Nat) (x : ByteArray) : Prop := ∀ i, i < x.size → byteAt t (p + i) = byteAt x i
theorem At.left {t : ByteArray} {p : Nat} {a b : ByteArray} (h : At t p (a ++ b)) : At t p a := fun i hi => by
  rw [h i (by rw [app_size]; omega), byteAt_left hi]
theorem At.right {t : ByteArray} {p : Nat} {a b : ByteArray} (h : At t p (a ++ b)) : At t (p + a.size) b := fun i hi => by
  rw [Nat.add_assoc, h (a.size + i) (by rw [app_size]; omega), byteAt_right]
theorem At.app {t : ByteArray} {p : Nat} {a b : ByteArray} (h : At t p a) (g : At t (p + a.size) b) : At t p (a ++ b) := fun i hi => by
  rw [app_size] at hi
  by_cases q : i < a.size
  · rw [h i q, byteAt_left q]
  · have e : i = a.size + (i - a.size) := by omega
    rw [e, byteAt_right, ← g (i - a.size) (by omega), Nat.add_assoc]
theorem At.one {t : ByteArray} {p : Nat} {c : UInt8} (h : At t p ⟨#[c]⟩) : byteAt t p = (c.toNat : Int) := by
  have := h 0 (by show 0 < 1; omega); rw [byteAt_one] at this; exact this
theorem At.mk1 {t : ByteArray} {p : Nat} {c : UInt8} (h : byteAt t p = (c.toNat : Int)) : At t p ⟨#[c]⟩ := fun i hi => by
  have hi' : i < 1 := hi
  obtain rfl : i = 0 := by omega
  rw [byteAt_one]; exact h
theorem At.self (t : ByteArray) : At t 0 t := fun i hi => by rw [Nat.zero_add]
theorem At.whole {t x : ByteArray} (h : At t 0 x) (hs : t.size = x.size) : t = x := by
  apply ByteArray.ext
  apply Array.ext (show t.data.size = x.data.size from hs)
  intro i h1 h2
  have h1' : i < t.size := h1
  have h2' : i < x.size := h2
  have := h i h2'
  rw [Nat.zero_add, Txt.byteAt_lt h1', Txt.byteAt_lt h2'] at this
  have : t[i].toNat = x[i].toNat := by omega
  exact UInt8.toNat_inj.mp this
theorem At.inside {t : ByteArray} {p : Nat} {x : ByteArray} (h : At t p x) (hp : p ≤ t.size) : p + x.size ≤ t.size := by
  rcases Nat.eq_zero_or_pos x.size with e | e
  · omega
  · have := h (x.size - 1) (by omega)
    have hb : 0 ≤ byteAt x (x.size - 1) := by rw [Txt.byteAt_lt (by omega)]; omega
    have := Txt.lt_of_byteAt (t := t) (i := p + (x.size - 1)) (by omega)
    omega

/-! ### numbers -/
theorem digit_byte {d : Nat} (h : d < 10) : byteAt ⟨#[UInt8.ofNat (48 + d)]⟩ 0 = (48 + d : Int) := by
  rw [byteAt_one, u8N (by show 48 + d < 256; omega)]; omega
theorem dS_one (n : Nat) : 1 ≤ (dS (n : Int)).size := by
  by_cases h : n < 10
  · rw [dig_small h]; show 1 ≤ 1; omega
  · rw [dig_big h, app_size]; show 1 ≤ _ + 1; omega
theorem dS_len : ∀ (k n : Nat), n < 10 ^ (k + 1) → (dS (n : Int)).size ≤ k + 1
  | 0, n, h => by rw [dig_small (by simpa using h)]; show 1 ≤ 0 + 1; omega
  | k + 1, n, h => by
    by_cases g : n < 10
    · rw [dig_small g]; show 1 ≤ _; omega
    · rw [dig_big g, app_size]
      have := dS_len k (n / 10) (by rw [Nat.pow_succ] at h; omega)
      show _ + 1 ≤ _; omega
/-- the first letter of a number above nothing -/
theorem dS_first (n : Nat) : 48 ≤ byteAt (dS (n : Int)) 0 ∧ byteAt (dS (n : Int)) 0 ≤ 57 ∧ (0 < n → 49 ≤ byteAt (dS (n : Int)) 0) := by
  induction n using Nat.strongRecOn with
  | _ n ih =>
    by_cases h : n < 10
    · rw [dig_small h, digit_byte h]; omega
    · rw [dig_big h, byteAt_left (dS_one _)]
      have := ih (n / 10) (by omega)
      omega
theorem run_stop {t : ByteArray} {p : Nat} (h : digB (byteAt t p) = false) (n : Int) : ∀ k, runD t k p n = (n, p)
  | 0 => rfl
  | k + 1 => by unfold Txt.runD; rw [h]; simp
theorem run_on {t : ByteArray} {p : Nat} (n : Nat) : At t p (dS (n : Int)) → ∀ k, (dS (n : Int)).size ≤ k → runD t k p 0 = runD t (k - (dS (n : Int)).size) (p + (dS (n : Int)).size) n := by
  induction n using Nat.strongRecOn with
  | _ n ih =>
    intro h k hk
    by_cases g : n < 10
    · rw [dig_small g] at h hk ⊢
      have hb := h 0 (by show 0 < 1; omega)
      rw [digit_byte g] at hb
      rw [Nat.add_zero] at hb
      have e1 : (⟨#[UInt8.ofNat (48 + n)]⟩ : ByteArray).size = 1 := rfl
      rw [e1] at hk ⊢
      obtain ⟨k', rfl⟩ : ∃ k', k = k' + 1 := ⟨k - 1, by omega⟩
      conv => lhs; unfold Txt.runD
      rw [hb, if_pos (by rw [Txt.digB_iff]; omega)]
      congr 1; omega
    · rw [dig_big g] at h hk ⊢
      have r := ih (n / 10) (by omega) h.left k (by rw [app_size] at hk; omega)
      have hb := h.right.one
      rw [u8N (by show 48 + n % 10 < 256; omega)] at hb
      have e1 : (dS ((n / 10 : Nat) : Int) ++ ⟨#[UInt8.ofNat (48 + n % 10)]⟩).size = (dS ((n / 10 : Nat) : Int)).size + 1 := by rw [app_size]; rfl
      rw [e1] at hk ⊢
      rw [r]
      obtain ⟨k', hk'⟩ : ∃ k', k - (dS ((n / 10 : Nat) : Int)).size = k' + 1 := ⟨k - (dS ((n / 10 : Nat) : Int)).size - 1, by omega⟩
      rw [hk']
      conv => lhs; unfold Txt.runD
      rw [hb, if_pos (by rw [Txt.digB_iff]; omega)]
      have e2 : k - ((dS ((n / 10 : Nat) : Int)).size + 1) = k' := by omega
      rw [e2]
      congr 1; omega
theorem numF {t : ByteArray} {p : Nat} {n : Int} (h0 : 0 ≤ n) (h1 : n ≤ 999999999) (h : At t p (dS n)) (hx : digB (byteAt t (p + (dS n).size)) = false) : num t 9 ⟨p, false⟩ = (n, ⟨p + (dS n).size, false⟩) := by
  obtain ⟨m, rfl⟩ : ∃ m : Nat, n = m := ⟨n.toNat, by omega⟩
  have hf := dS_first m
  have h1' := dS_one m
  have hb := h 0 (by omega)
  rw [Nat.add_zero] at hb
  unfold Txt.num
  rw [if_neg (by simp)]
  rcases Nat.eq_zero_or_pos m with rfl | hm
  · rw [dig_small (by omega)] at hb ⊢
    rw [digit_byte (by omega)] at hb
    rw [if_pos (by rw [hb]; rfl)]; rfl
  · have := hf.2.2 hm
    rw [if_neg (by show ¬ byteAt t p = 48; omega), if_pos (by show digB (byteAt t p) = true; rw [Txt.digB_iff]; omega)]
    have r := run_on m h 9 (dS_len 8 m (by omega))
    show ((runD t 9 p 0).1, (⟨(runD t 9 p 0).2, false⟩ : Sc)) = _
    rw [r, run_stop hx]
theorem run_back {t : ByteArray} : ∀ (k p n a : Nat), 1 ≤ n → At t a (dS (n : Int)) → p = a + (dS (n : Int)).size → ∃ v : Nat, 1 ≤ v ∧ runD t k p n = ((v : Int), a + (dS (v : Int)).size) ∧ At t a (dS (v : Int))
  | 0, p, n, a, hn, h, hp => ⟨n, hn, by rw [hp]; rfl, h⟩
  | k + 1, p, n, a, hn, h, hp => by
    by_cases g : digB (byteAt t p) = true
    · have g' := Txt.digB_iff.mp g
      obtain ⟨d, hd⟩ : ∃ d : Nat, byteAt t p = 48 + d := ⟨(byteAt t p - 48).toNat, by omega⟩
      have hd10 : d < 10 := by omega
      have e : dS ((n * 10 + d : Nat) : Int) = dS (n : Int) ++ ⟨#[UInt8.ofNat (48 + d)]⟩ := by
        rw [dig_big (by omega)]
        have e1 : (n * 10 + d) / 10 = n := by omega
        have e2 : (n * 10 + d) % 10 = d := by omega
        rw [e1, e2]
      have hA : At t a (dS ((n * 10 + d : Nat) : Int)) := by
        rw [e]
        refine h.app (At.mk1 ?_)
        rw [← hp, hd, u8N (by show 48 + d < 256; omega)]; omega
      have hq : p + 1 = a + (dS ((n * 10 + d : Nat) : Int)).size := by rw [e, app_size, hp]; rfl
      obtain ⟨v, hv, r, hAv⟩ := run_back k (p + 1) (n * 10 + d) a (by omega) hA hq
      refine ⟨v, hv, ?_, hAv⟩
      conv => lhs; unfold Txt.runD
      rw [if_pos g, hd]
      have e3 : (n : Int) * 10 + (48 + (d : Int) - 48) = ((n * 10 + d : Nat) : Int) := by omega
      rw [e3]; exact r
    · refine ⟨n, hn, ?_, h⟩
      rw [run_stop (by simpa using g), hp]

/-- from s the reader has taken just x, and stands at s' -/
structure St (t : ByteArray) (s : Sc) (x : ByteArray) (s' : Sc) : Prop where
  good : s.bad = false
  at_ : At t s.pos x
  next : s' = ⟨s.pos + x.size, false⟩
theorem St.app {t : ByteArray} {s s' s'' : Sc} {x y : ByteArray} (h : St t s x s') (g : St t s' y s'') : St t s (x ++ y) s'' := by
  obtain ⟨h1, h2, rfl⟩ := h
  obtain ⟨_, g2, rfl⟩ := g
  exact ⟨h1, h2.app g2, by rw [app_size, ← Nat.add_assoc]⟩
theorem take_back {t : ByteArray} {s : Sc} {c : UInt8} (h : (take t s (c.toNat : Int)).bad = false) : St t s ⟨#[c]⟩ (take t s (c.toNat : Int)) := by
  unfold Txt.take at h ⊢
  split at h
  · rename_i g
    rw [if_pos g]
    obtain ⟨g1, g2⟩ := Txt.seesB_iff.mp g
    exact ⟨g1, At.mk1 g2, rfl⟩
  · cases h
theorem num_back {t : ByteArray} {s : Sc} (h : (num t 9 s).2.bad = false) : St t s (dS (num t 9 s).1) (num t 9 s).2 := by
  unfold Txt.num at h ⊢
  split
  · rename_i g; rw [if_pos g] at h; rw [h] at g; cases g
  · rename_i g
    rw [if_neg g] at h
    have hb : s.bad = false := by simpa using g
    split
    · rename_i q
      refine ⟨hb, ?_, ?_⟩
      · show At t s.pos (dS ((0 : Nat) : Int))
        rw [dig_small (by omega)]
        exact At.mk1 q
      · show _ = (⟨s.pos + (dS ((0 : Nat) : Int)).size, false⟩ : Sc)
        rw [dig_small (by omega)]; rfl
    · rename_i q
      split
      · rename_i z
        have z' := Txt.digB_iff.mp z
        obtain ⟨d, hd⟩ : ∃ d : Nat, byteAt t s.pos = 48 + d := ⟨(byteAt t s.pos - 48).toNat, by omega⟩
        have hA : At t s.pos (dS (d : Int)) := by
          rw [dig_small (by omega)]
          refine At.mk1 ?_
          rw [hd, u8N (by show 48 + d < 256; omega)]; omega
        obtain ⟨v, hv, r, hAv⟩ := run_back 8 (s.pos + 1) d s.pos (by omega) hA (by rw [dig_small (by omega)]; rfl)
        have e : runD t 9 s.pos 0 = ((v : Int), s.pos + (dS (v : Int)).size) := by
          conv => lhs; unfold Txt.runD
          rw [if_pos z, hd]
          have e3 : (0 : Int) * 10 + (48 + (d : Int) - 48) = (d : Int) := by omega
          rw [e3]; exact r
        rw [e]
        exact ⟨hb, hAv, rfl⟩
      · rename_i z
        rw [if_neg q, if_neg z] at h; cases h
theorem field_back {t : ByteArray} {s : Sc} (h : (field t 9 s).2.bad = false) : St t s (fS (field t 9 s).1) (field t 9 s).2 := by
  have a := num_back (t := t) (s := take t s 32) h
  exact (take_back (c := 32) (s := s) a.good).app a
theorem takeF {t : ByteArray} {p : Nat} {c : Int} (h : byteAt t p = c) : take t ⟨p, false⟩ c = ⟨p + 1, false⟩ := by
  unfold Txt.take; rw [if_pos (Txt.seesB_iff.mpr ⟨rfl, h⟩)]
theorem fieldF {t : ByteArray} {p : Nat} {n : Int} (h0 : 0 ≤ n) (h1 : n ≤ 999999999) (h : At t p (fS n)) (hx : digB (byteAt t (p + (fS n).size)) = false) : field t 9 ⟨p, false⟩ = (n, ⟨p + (fS n).size, false⟩) := by
  have e : p + (fS n).size = p + 1 + (dS n).size := by unfold fS; rw [app_size]; show p + (1 + _) = _; omega
  rw [e] at hx ⊢
  unfold Txt.field
  rw [takeF (c := 32) h.left.one]
  exact numF h0 h1 h.right hx
end Go.Proofs.YtjaffmmocbplaabDoor
