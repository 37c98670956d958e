/-
  The document's numbers in base ten, and its rows.
-/
import Derived.Test.YtjaffmmocbplaabGreatDoorJPrtX
import Derived.Laws.BytesArg
namespace Go.Proofs.YtjaffmmocbplaabGreatDoor
open Go.RowKit Go.Shelf
set_option linter.unusedVariables false
attribute [local go_sem ↓] Go.wp_at_zero Go.wp_at_succ
theorem dig_small {n : Nat} (h : n < 10) : dS (n : Int) = ⟨#[UInt8.ofNat (48 + n)]⟩ := by
  unfold dS; rw [Int.toNat_natCast, Lib.decDigits, dif_pos h]
theorem dig_big {n : Nat} (h : ¬ n < 10) : dS (n : Int) = dS ((n / 10 : Nat) : Int) ++ ⟨#[UInt8.ofNat (48 + n % 10)]⟩ := by
  unfold dS; rw [Int.toNat_natCast, Int.toNat_natCast, Lib.decDigits, dif_neg h]
  apply ByteArray.ext; simp
set_option maxRecDepth 100000 in
set_option maxHeartbeats 1000000 in
theorem Dec_any (n : Nat) (hn : n ≤ 9000000000000000) : ∀ w : World,
    Calls Tryz.prog 50 #[.int .i64 n] w fun e w' => e = .returned (.string (dS n)) ∧ Below w.heap.size w w' := by
  induction n using Nat.strongRecOn with
  | _ n ih =>
    intro w
    have hm : (n : Int).tmod 10 = ((n % 10 : Nat) : Int) := by rw [Int.tmod_eq_emod_of_nonneg (by omega)]; omega
    have hd : (n : Int).tdiv 10 = ((n / 10 : Nat) : Int) := by rw [Int.tdiv_eq_ediv_of_nonneg (by omega)]; omega
    have hk : n % 10 < 10 := Nat.mod_lt _ (by omega)
    obtain ⟨d, hdd⟩ : ∃ d, d = n % 10 := ⟨_, rfl⟩
    rw [← hdd] at hm hk
    have cv := fun (w0 : World) (c0 : w0.cell? ⟨w.heap.size, 0, none⟩ = some (.int .u8 (48 + (d : Int)))) => run_convert_bytes_arg (P := Tryz.prog) w0 151 5 Tryz.underlying151 Tryz.underlying5 w.heap.size 0 1 1 [48 + (d : Int)] rfl (fun i hi => by
      have e : i = 0 := by simp at hi; omega
      subst e; simpa using c0) 9 Tryz.underlying9
    have cv1 := cv (w.alloc (.cells #[.int .u8 (48 + (d : Int))] 5)) (by simp [go_sem])
    have es : strOfNums [48 + (d : Int)] = ⟨#[UInt8.ofNat (48 + d)]⟩ := by
      unfold strOfNums
      have : (48 + (d : Int)).toNat = 48 + d := by omega
      simp [this]
    rw [es] at cv1
    obtain ⟨D1, hD1⟩ : ∃ D : ByteArray, D = ⟨#[UInt8.ofNat (48 + d)]⟩ := ⟨_, rfl⟩
    rw [← hD1] at cv1
    have sD1 : D1.size = 1 := by rw [hD1]; rfl
    have HD1 := hideP hD1
    have kw : IntKind.u8.wrap (48 + (d : Int)) = 48 + (d : Int) := by
      show (48 + (d : Int)) % 256 = _
      omega
    clear cv es hD1
    by_cases h10 : n < 10
    · have h10' : (n : Int) < 10 := by omega
      have HS : Hid (dS (n : Int) = D1) := by show _ = _; rw [HD1.out, dig_small h10]; rw [show n = d by omega]
      clear ih hdd hd HD1
      go_enter Tryz.func50, Tryz.ntmps50
      go_wp2_with fail
      go_ret
      exact ⟨ret_str HS.out, below_more (Below.refl _ _) _⟩
    · have h10' : ¬ (n : Int) < 10 := by omega
      have HS : Hid (dS (n : Int) = dS ((n / 10 : Nat) : Int) ++ D1) := by show _ = _; rw [HD1.out, dig_big h10, hdd]
      have ihn := ih (n / 10) (by omega) (by omega)
      have sz := dS_size (n := ((n / 10 : Nat) : Int)) (by omega) (by omega)
      obtain ⟨m, hmm⟩ : ∃ m, m = n / 10 := ⟨_, rfl⟩
      rw [← hmm] at ihn sz HS hd
      have ad : ∀ w, (Op.stringOp .add (dS (m : Int)) D1).run Tryz.prog w = .ok (.string (dS (m : Int) ++ D1)) w := sadd _ _ (by omega)
      have mb : (m : Int) ≤ 9000000000000000 := by omega
      have mb0 : (0 : Int) ≤ (m : Int) := by omega
      clear ih hdd hmm HD1
      go_enter Tryz.func50, Tryz.ntmps50
      go_wp2_with (go_at_call 50; refine (ihn _).mono ?_; rintro e w1 ⟨rfl, hb1⟩)
      go_ret
      exact ⟨ret_str HS.out, below_then (below_more (Below.refl _ _) _) hb1⟩
/-- the numbers of a row, up to k -/
def rowK (c : ByteArray) (l : List Int) : Nat → ByteArray
  | 0 => c
  | k + 1 => rowK c l k ++ ⟨#[32]⟩ ++ dS (l.getD k 0)
def rowS (c : ByteArray) (l : List Int) : ByteArray := rowK c l l.length ++ ⟨#[10]⟩
theorem rowK_size {c : ByteArray} {l : List Int} (h : ∀ k, k < l.length → nB (l.getD k 0)) : ∀ k, k ≤ l.length → (rowK c l k).size ≤ c.size + 22 * k
  | 0, _ => Nat.le_refl _
  | k + 1, hk => by
    have := rowK_size (c := c) h k (by omega)
    have := (h k (by omega)).d
    show (rowK c l k ++ ⟨#[32]⟩ ++ dS (l.getD k 0)).size ≤ _
    rw [app_size, app_size]; show _ + 1 + _ ≤ _; omega
theorem rowS_size {c : ByteArray} {l : List Int} (h : ∀ k, k < l.length → nB (l.getD k 0)) : (rowS c l).size ≤ c.size + 22 * l.length + 1 := by
  have := rowK_size (c := c) h l.length (Nat.le_refl _)
  unfold rowS; rw [app_size]; show _ + 1 ≤ _; omega
set_option maxRecDepth 100000 in
set_option maxHeartbeats 1000000 in
theorem row_any (c : ByteArray) (l : List Int) (g : Nat) (w : World) (hg : g < w.heap.size) (hc : ∀ i, i < l.length → w.cell? ⟨g, i, none⟩ = some (.int .i64 (l.getD i 0))) (hn : ∀ k, k < l.length → nB (l.getD k 0)) (hl : l.length ≤ 20) (hs : c.size ≤ 1000) :
    Calls Tryz.prog 49 #[.string c, .slice (some ⟨g, 0, none⟩) l.length l.length] w fun e w' => e = .returned (.string (rowS c l)) ∧ Below w.heap.size w w' := by
  have RS := hideP (rowK_size (c := c) hn)
  have HC := hideP hc
  have HN := hideP hn
  clear hc hn
  go_enter Tryz.func49, Tryz.ntmps49
  go_wp2_with fail
  go_loopw [0, 5] (fun s p wr => ∃ k : Nat, p = .int .i64 k ∧ k ≤ l.length ∧ s = .string (rowK c l k) ∧ Below w.heap.size w wr) (fun _ p _ => l.length - (intOf p).toNat)
  case atStart => exact ⟨0, rfl, by omega, rfl, Below.refl _ _⟩
  case round =>
    obtain ⟨k, rfl, hk, rfl, hb⟩ := hrel
    have sk := RS.out k hk
    by_cases hlt : k < l.length
    · have hlt' : (k : Int) < (l.length : Int) := by omega
      have hk0 : (0 : Int) ≤ (k : Int) := by omega
      have ck := vcell_below hb hg (HC.out k hlt)
      have nk := HN.out k hlt
      have HS : Hid (rowK c l (k + 1) = rowK c l k ++ ⟨#[32]⟩ ++ dS (l.getD k 0)) := rfl
      obtain ⟨N, hN⟩ : ∃ N : Nat, l.getD k 0 = (N : Int) := ⟨(l.getD k 0).toNat, by have := nk.1; omega⟩
      rw [hN] at ck nk HS
      have dc := Dec_any N (by have := nk.2; omega)
      have sd := nk.d
      obtain ⟨X, hX⟩ : ∃ X, X = rowK c l k := ⟨_, rfl⟩
      rw [← hX] at sk HS
      rw [← hX]
      obtain ⟨Y, hY⟩ : ∃ Y, Y = X ++ (⟨#[32]⟩ : ByteArray) := ⟨_, rfl⟩
      have sY : Y.size = X.size + 1 := by rw [hY, app_size]; rfl
      have a1 : ∀ w, (Op.stringOp .add X ⟨#[32]⟩).run Tryz.prog w = .ok (.string Y) w := by rw [hY]; exact sadd _ _ (by show _ + 1 ≤ _; omega)
      have a2 : ∀ w, (Op.stringOp .add Y (dS (N : Int))).run Tryz.prog w = .ok (.string (Y ++ dS (N : Int))) w := sadd _ _ (by omega)
      have HY := hideP hY
      clear hN hX hY
      go_wp2_with (go_at_call 50; refine (dc _).mono ?_; rintro e w1 ⟨rfl, hb1⟩)
      go_roundw
      case rel => exact ⟨k + 1, by go_num, by omega, by rw [HS.out, HY.out], below_then hb hb1⟩
      case measure => simp [intOf]; omega
    · have hlt' : ¬ (k : Int) < (l.length : Int) := by omega
      have hke : k = l.length := by omega
      obtain ⟨X, hX⟩ : ∃ X, X = rowK c l k := ⟨_, rfl⟩
      rw [← hX] at sk
      rw [← hX]
      have a1 : ∀ w, (Op.stringOp .add X ⟨#[10]⟩).run Tryz.prog w = .ok (.string (X ++ ⟨#[10]⟩)) w := sadd _ _ (by show _ + 1 ≤ _; omega)
      have HX : Hid (X = rowK c l l.length) := by show _ = _; rw [hX, hke]
      clear hX hke
      go_wp2_with fail
      go_ret
      exact ⟨ret_str (by unfold rowS; rw [HX.out]), hb⟩
theorem nB.dec {n : Int} (h : nB n) (w : World) : Calls Tryz.prog 50 #[.int .i64 n] w fun e w' => e = .returned (.string (dS n)) ∧ Below w.heap.size w w' := by
  obtain ⟨N, rfl⟩ : ∃ N : Nat, n = (N : Int) := ⟨n.toNat, by have := h.1; omega⟩
  exact Dec_any N (by have := h.2; omega) w
theorem row_cells {w : World} {g : Nat} {xs : List Int} (h : w.heap[g]? = some (.cells (xs.map (Value.int .i64)).toArray 3 (0, 0))) : ∀ i, i < xs.length → w.cell? ⟨g, i, none⟩ = some (.int .i64 (xs.getD i 0)) := fun i hi => by
  rw [cell_of_row _ _ _ _ _ _ h]
  simp [hi]
theorem row_lt {w : World} {g : Nat} {o : Obj} (h : w.heap[g]? = some o) : g < w.heap.size := (Array.getElem?_eq_some_iff.1 h).1
theorem nb_nil : ∀ k, k < ([] : List Int).length → nB (([] : List Int).getD k 0) := fun k hk => by simp at hk
theorem nb_cons {x : Int} {xs : List Int} (h : nB x) (t : ∀ k, k < xs.length → nB (xs.getD k 0)) : ∀ k, k < (x :: xs).length → nB ((x :: xs).getD k 0)
  | 0, _ => h
  | k + 1, hk => t k (by simpa using hk)
theorem alloc_far {w : World} {g : Nat} {o : Obj} {q : Option Obj} (h : w.heap[g]? = q) (hg : g < w.heap.size) : (w.alloc o).heap[g]? = q := (heap_alloc_old _ _ hg).trans h
end Go.Proofs.YtjaffmmocbplaabGreatDoor
