/-
  How a list of lines that came in lies (made by tools/genforml.py).
-/
import Derived.Test.YtjaffmmocbplaabDoorJFormM
import Derived.Test.YtjaffmmocbplaabDoorJLnpO
import Derived.OpenShut
namespace Go.Proofs.YtjaffmmocbplaabDoor
open Go.ChangeShapes Go.WideShapes Go.ChangeAt Go.RowKit Go.Joins Bil
set_option linter.unusedVariables false

theorem cellsIn : Tryd.prog.cellsOf 30 = 3 := by kernel_rfl
theorem cellsLn : Tryd.prog.cellsOf 32 = 15 := by kernel_rfl
theorem bytesLn : Tryd.prog.bytesOf 32 = 120 := by kernel_rfl

section
variable {H : Type} {enc : TypeId × Value → H} {w : World} {base : Nat} {spare : Nat → Bool} {held : Bool}
theorem lst_len {α : Type} : ∀ (n : Nat) (l : List α), l.length = n + 1 → ∃ a r, l = a :: r ∧ r.length = n
  | n, a :: r, h => ⟨a, r, rfl, by simpa using h⟩
theorem in_form {fuel : Nat} {c0 c1 c2 : Value} {x : DataW H × List MemPlace} (h : DataW.trod enc Tryd.prog w base spare held fuel 30 [c0, c1, c2] = some x) : ∃ a b c : Int, c0 = .int .i64 a ∧ c1 = .int .i64 b ∧ c2 = .int .i64 c := by
  obtain ⟨xs, n, _, _, _, hlen, hf⟩ := DataW.trod_array Tryd.underlying30 h
  obtain ⟨y0, rr3, rfl, qq3⟩ := lst_len 2 xs hlen
  obtain ⟨y1, rr4, rfl, qq4⟩ := lst_len 1 rr3 qq3
  obtain ⟨y2, rr5, rfl, qq5⟩ := lst_len 0 rr4 qq4
  have h0 := hf 0 (by omega)
  have h1 := hf 1 (by omega)
  have h2 := hf 2 (by omega)
  simp only [cells3, Nat.mul_one, List.drop, List.take] at h0 h1 h2
  obtain ⟨a, e0, _⟩ := DataW.trod_int Tryd.underlying3 h0
  obtain ⟨b, e1, _⟩ := DataW.trod_int Tryd.underlying3 (h1)
  obtain ⟨c, e2, _⟩ := DataW.trod_int Tryd.underlying3 (h2)
  exact ⟨a, b, c, one_of e0, one_of e1, one_of e2⟩
set_option maxRecDepth 100000 in
theorem line_form {fuel : Nat} {cs : List Value} {x : DataW H × List MemPlace} (h : DataW.trod enc Tryd.prog w base spare held fuel 32 cs = some x) : ∃ y : Ln, cs = lcell y := by
  obtain ⟨xs, n, _, _, hl, hlen, hf⟩ := DataW.trod_struct Tryd.underlying32 h
  rw [cellsLn] at hl
  obtain ⟨c0, rr0, rfl, qq0⟩ := lst_len 14 cs hl
  obtain ⟨c1, rr1, rfl, qq1⟩ := lst_len 13 rr0 qq0
  obtain ⟨c2, rr2, rfl, qq2⟩ := lst_len 12 rr1 qq1
  obtain ⟨c3, rr3, rfl, qq3⟩ := lst_len 11 rr2 qq2
  obtain ⟨c4, rr4, rfl, qq4⟩ := lst_len 10 rr3 qq3
  obtain ⟨c5, rr5, rfl, qq5⟩ := lst_len 9 rr4 qq4
  obtain ⟨c6, rr6, rfl, qq6⟩ := lst_len 8 rr5 qq5
  obtain ⟨c7, rr7, rfl, qq7⟩ := lst_len 7 rr6 qq6
  obtain ⟨c8, rr8, rfl, qq8⟩ := lst_len 6 rr7 qq7
  obtain ⟨c9, rr9, rfl, qq9⟩ := lst_len 5 rr8 qq8
  obtain ⟨c10, rr10, rfl, qq10⟩ := lst_len 4 rr9 qq9
  obtain ⟨c11, rr11, rfl, qq11⟩ := lst_len 3 rr10 qq10
  obtain ⟨c12, rr12, rfl, qq12⟩ := lst_len 2 rr11 qq11
  obtain ⟨c13, rr13, rfl, qq13⟩ := lst_len 1 rr12 qq12
  obtain ⟨c14, rr14, rfl, qq14⟩ := lst_len 0 rr13 qq13
  obtain rfl := List.eq_nil_of_length_eq_zero qq14
  obtain ⟨y0, ss0, rfl, tt0⟩ := lst_len 12 xs hlen
  obtain ⟨y1, ss1, rfl, tt1⟩ := lst_len 11 ss0 tt0
  obtain ⟨y2, ss2, rfl, tt2⟩ := lst_len 10 ss1 tt1
  obtain ⟨y3, ss3, rfl, tt3⟩ := lst_len 9 ss2 tt2
  obtain ⟨y4, ss4, rfl, tt4⟩ := lst_len 8 ss3 tt3
  obtain ⟨y5, ss5, rfl, tt5⟩ := lst_len 7 ss4 tt4
  obtain ⟨y6, ss6, rfl, tt6⟩ := lst_len 6 ss5 tt5
  obtain ⟨y7, ss7, rfl, tt7⟩ := lst_len 5 ss6 tt6
  obtain ⟨y8, ss8, rfl, tt8⟩ := lst_len 4 ss7 tt7
  obtain ⟨y9, ss9, rfl, tt9⟩ := lst_len 3 ss8 tt8
  obtain ⟨y10, ss10, rfl, tt10⟩ := lst_len 2 ss9 tt9
  obtain ⟨y11, ss11, rfl, tt11⟩ := lst_len 1 ss10 tt10
  obtain ⟨y12, ss12, rfl, tt12⟩ := lst_len 0 ss11 tt11
  have h0 : DataW.trod enc Tryd.prog w base spare held n 30 ((List.drop 0 [c0, c1, c2, c3, c4, c5, c6, c7, c8, c9, c10, c11, c12, c13, c14]).take (Tryd.prog.cellsOf 30)) = some y0 := hf 0 _ rfl
  have h1 : DataW.trod enc Tryd.prog w base spare held n 3 ((List.drop 3 [c0, c1, c2, c3, c4, c5, c6, c7, c8, c9, c10, c11, c12, c13, c14]).take (Tryd.prog.cellsOf 3)) = some y1 := hf 1 _ rfl
  have h2 : DataW.trod enc Tryd.prog w base spare held n 3 ((List.drop 4 [c0, c1, c2, c3, c4, c5, c6, c7, c8, c9, c10, c11, c12, c13, c14]).take (Tryd.prog.cellsOf 3)) = some y2 := hf 2 _ rfl
  have h3 : DataW.trod enc Tryd.prog w base spare held n 3 ((List.drop 5 [c0, c1, c2, c3, c4, c5, c6, c7, c8, c9, c10, c11, c12, c13, c14]).take (Tryd.prog.cellsOf 3)) = some y3 := hf 3 _ rfl
  have h4 : DataW.trod enc Tryd.prog w base spare held n 3 ((List.drop 6 [c0, c1, c2, c3, c4, c5, c6, c7, c8, c9, c10, c11, c12, c13, c14]).take (Tryd.prog.cellsOf 3)) = some y4 := hf 4 _ rfl
  have h5 : DataW.trod enc Tryd.prog w base spare held n 3 ((List.drop 7 [c0, c1, c2, c3, c4, c5, c6, c7, c8, c9, c10, c11, c12, c13, c14]).take (Tryd.prog.cellsOf 3)) = some y5 := hf 5 _ rfl
  have h6 : DataW.trod enc Tryd.prog w base spare held n 3 ((List.drop 8 [c0, c1, c2, c3, c4, c5, c6, c7, c8, c9, c10, c11, c12, c13, c14]).take (Tryd.prog.cellsOf 3)) = some y6 := hf 6 _ rfl
  have h7 : DataW.trod enc Tryd.prog w base spare held n 3 ((List.drop 9 [c0, c1, c2, c3, c4, c5, c6, c7, c8, c9, c10, c11, c12, c13, c14]).take (Tryd.prog.cellsOf 3)) = some y7 := hf 7 _ rfl
  have h8 : DataW.trod enc Tryd.prog w base spare held n 3 ((List.drop 10 [c0, c1, c2, c3, c4, c5, c6, c7, c8, c9, c10, c11, c12, c13, c14]).take (Tryd.prog.cellsOf 3)) = some y8 := hf 8 _ rfl
  have h9 : DataW.trod enc Tryd.prog w base spare held n 3 ((List.drop 11 [c0, c1, c2, c3, c4, c5, c6, c7, c8, c9, c10, c11, c12, c13, c14]).take (Tryd.prog.cellsOf 3)) = some y9 := hf 9 _ rfl
  have h10 : DataW.trod enc Tryd.prog w base spare held n 3 ((List.drop 12 [c0, c1, c2, c3, c4, c5, c6, c7, c8, c9, c10, c11, c12, c13, c14]).take (Tryd.prog.cellsOf 3)) = some y10 := hf 10 _ rfl
  have h11 : DataW.trod enc Tryd.prog w base spare held n 3 ((List.drop 13 [c0, c1, c2, c3, c4, c5, c6, c7, c8, c9, c10, c11, c12, c13, c14]).take (Tryd.prog.cellsOf 3)) = some y11 := hf 11 _ rfl
  have h12 : DataW.trod enc Tryd.prog w base spare held n 3 ((List.drop 14 [c0, c1, c2, c3, c4, c5, c6, c7, c8, c9, c10, c11, c12, c13, c14]).take (Tryd.prog.cellsOf 3)) = some y12 := hf 12 _ rfl
  clear hf h
  simp only [cells3, cellsIn, List.drop, List.take] at h0 h1 h2 h3 h4 h5 h6 h7 h8 h9 h10 h11 h12
  obtain ⟨i0, i1, i2, e0, e1, e2⟩ := in_form h0
  obtain ⟨z1, f1, _⟩ := DataW.trod_int Tryd.underlying3 (h1)
  obtain ⟨z2, f2, _⟩ := DataW.trod_int Tryd.underlying3 (h2)
  obtain ⟨z3, f3, _⟩ := DataW.trod_int Tryd.underlying3 (h3)
  obtain ⟨z4, f4, _⟩ := DataW.trod_int Tryd.underlying3 (h4)
  obtain ⟨z5, f5, _⟩ := DataW.trod_int Tryd.underlying3 (h5)
  obtain ⟨z6, f6, _⟩ := DataW.trod_int Tryd.underlying3 (h6)
  obtain ⟨z7, f7, _⟩ := DataW.trod_int Tryd.underlying3 (h7)
  obtain ⟨z8, f8, _⟩ := DataW.trod_int Tryd.underlying3 (h8)
  obtain ⟨z9, f9, _⟩ := DataW.trod_int Tryd.underlying3 (h9)
  obtain ⟨z10, f10, _⟩ := DataW.trod_int Tryd.underlying3 (h10)
  obtain ⟨z11, f11, _⟩ := DataW.trod_int Tryd.underlying3 (h11)
  obtain ⟨z12, f12, _⟩ := DataW.trod_int Tryd.underlying3 (h12)
  refine ⟨⟨i0, i1, i2, z1, z2, z3, z4, z5, z6, z7, z8, z9, z10, z11, z12⟩, ?_⟩
  rw [e0, e1, e2, one_of f1, one_of f2, one_of f3, one_of f4, one_of f5, one_of f6, one_of f7, one_of f8, one_of f9, one_of f10, one_of f11, one_of f12]
  rfl
theorem lines_form {fuel : Nat} {cs : List Value} {x : DataW H × List MemPlace} (h : DataW.trod enc Tryd.prog w base spare held fuel 22 cs = some x) : ∃ (v : Value) (l : List Ln), cs = [v] ∧ LRowO w v l ∧ l.length ≤ elemsN x.1 := by
  rcases Deep.open_slice Tryd.underlying22 h with ⟨rfl, rfl⟩ | ⟨a, len, cap, m, n, D, Pl, rfl, hb, hl, hm, hmm, rfl, hx⟩
  · exact ⟨_, [], rfl, ⟨none, 0, rfl, .inl rfl⟩, by simp⟩
  · have hlm : len ≤ m := by rw [hmm]; split <;> omega
    rw [cellsLn] at hx
    have each : ∀ i, i < len → ∃ y : Ln, ∀ j u, (lcell y)[j]? = some u → w.cell? (a.add (i * 15 + j)) = some u := by
      intro i hi
      obtain ⟨cs', h1, h2⟩ := hx i (by omega)
      obtain ⟨y, rfl⟩ := line_form h2
      obtain ⟨_, hlen, hcell⟩ := World.cells?_some h1
      refine ⟨y, fun j u hu => ?_⟩
      have hj : j < 15 := by
        rcases Nat.lt_or_ge j 15 with q | q
        · exact q
        · rw [List.getElem?_eq_none (by simp [lcell]; omega)] at hu; cases hu
      have e := hcell j (by omega)
      rw [Deep.add_add] at e
      rw [e, hu]
    have inh : Inhabited Ln := ⟨ln0⟩
    obtain ⟨f, hf⟩ := Deep.choose_lt each
    refine ⟨_, (List.range len).map f, rfl, ⟨some a, cap, by simp, ?_⟩, by simp [elemsN]⟩
    rcases Nat.eq_zero_or_pos len with h0 | h0
    · left; subst h0; rfl
    · right
      have hs : a.spot = none := by
        have := hf 0 h0 0 _ rfl
        simp only [Nat.zero_mul, Nat.add_zero] at this
        have := World.cell?_spot this
        simpa [Addr.add] using this
      obtain ⟨ab, ao, asp⟩ := a
      simp only at hs; subst hs
      refine ⟨ab, ao, rfl, by simpa using hl, ?_, fun i y hy j u hu => ?_⟩
      · have := World.block_lt_of_cell? w _ (hf 0 h0 0 _ rfl)
        simpa [Addr.add] using this
      have hi : i < len := by
        rcases Nat.lt_or_ge i len with q | q
        · exact q
        · rw [List.getElem?_eq_none (by simpa using q)] at hy; cases hy
      have e : y = f i := by simp [hi] at hy; exact hy.symm
      subst e
      have h1 := hf i hi j u hu
      have hadd : (⟨ab, ao, none⟩ : Addr).add (i * 15 + j) = ⟨ab, ao + i * 15 + j, none⟩ := by
        unfold Addr.add; split <;> simp_all [Nat.add_assoc]
      rw [hadd] at h1; exact h1
set_option maxRecDepth 100000 in
theorem open_lines {r : Reach} {b0 : Nat} {v : Value} {d : DataW H} {p : List MemPlace} (hv : Value.okWide Tryd.prog w r b0 22 v) (h : DataW.Trod enc Tryd.prog w base spare held 22 v d p) : ∃ l : List Ln, LRowO w v l ∧ l.length ≤ elemsN d := by
  obtain ⟨a0, len, cap, rfl⟩ := okWide_slice Tryd.underlying22 hv
  obtain ⟨fuel, hf⟩ := h
  obtain ⟨v, l, e, hl, hn⟩ := lines_form hf
  have e' : Value.slice a0 len cap = v := by simpa [Value.cells] using e
  subst e'
  exact ⟨l, hl, hn⟩
theorem reach_lines {d : DataW H} {ts : List TypeId} {ds : List (DataW H)} (hsz : (DataW.weightsEach Tryd.prog (22 :: ts) (d :: ds)).all (· ≤ reachBytes) = true) : elemsN d * 120 ≤ 140737488351232 := by
  cases d with
  | slice e sp =>
    have h2 : (e.length + sp.length) * Tryd.prog.bytesOf 32 ≤ reachBytes := of_decide_eq_true (List.all_eq_true.1 hsz ((e.length + sp.length) * Tryd.prog.bytesOf 32) (by simp [DataW.weights, DataW.weightsEach, Tryd.underlying22]))
    rw [bytesLn] at h2
    simp only [reachBytes] at h2
    simp only [elemsN]
    omega
  | _ => simp [elemsN]
end
end Go.Proofs.YtjaffmmocbplaabDoor
