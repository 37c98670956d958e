/-
  How a meter file that came in lies: two integers and a slice of values.
-/
import Derived.Test.YtjaffmmocbplaabDoorForm
import Derived.Test.YtjaffmmocbplaabDoorJ04
import Derived.Deep.Slices
import Derived.SizedLaws
namespace Go.Proofs.YtjaffmmocbplaabDoor
open Go.ChangeShapes Go.WideShapes Go.ChangeAt Go.RowKit Go.Joins
set_option linter.unusedVariables false

theorem cells4 : Tryd.prog.cellsOf 4 = 1 := by kernel_rfl
theorem cellsV : Tryd.prog.cellsOf 80 = 3 := by kernel_rfl
theorem cellsVs : Tryd.prog.cellsOf 38 = 1 := by kernel_rfl
theorem cellsMet : Tryd.prog.cellsOf 40 = 3 := by kernel_rfl
theorem bytesV : Tryd.prog.bytesOf 80 = 24 := by kernel_rfl

section
variable {H : Type} {enc : TypeId × Value → H} {w : World} {base : Nat} {spare : Nat → Bool} {held : Bool}
def elemsN (d : DataW H) : Nat := match d with | .slice e sp => e.length + sp.length | _ => 0
theorem val_form {fuel : Nat} {cs : List Value} {x : DataW H × List MemPlace} (h : DataW.trod enc Tryd.prog w base spare held fuel 80 cs = some x) : ∃ v : Txt.Val, cs = vcell v := by
  obtain ⟨y0, y1, y2, n, _, hl, h0, h1, h2⟩ := Deep.trod_struct3 Tryd.underlying80 h
  rw [cellsV] at hl
  obtain ⟨c0, c1, c2, rfl⟩ := list3 hl
  simp only [cells3, cells4, List.drop, List.take] at h0 h1 h2
  obtain ⟨a, e0, _⟩ := DataW.trod_int Tryd.underlying3 h0
  obtain ⟨b, e1, _⟩ := DataW.trod_int Tryd.underlying3 h1
  obtain ⟨c, e2, _⟩ := DataW.trod_bool Tryd.underlying4 h2
  exact ⟨⟨a, b, c⟩, by rw [one_of e0, one_of e1]; simp at e2; rw [e2]; rfl⟩
theorem vals_form {fuel : Nat} {cs : List Value} {x : DataW H × List MemPlace} (h : DataW.trod enc Tryd.prog w base spare held fuel 38 cs = some x) : ∃ (v : Value) (l : List Txt.Val), cs = [v] ∧ VRow w v l ∧ l.length ≤ elemsN x.1 := by
  rcases Deep.open_slice Tryd.underlying38 h with ⟨rfl, rfl⟩ | ⟨a, len, cap, m, n, D, Pl, rfl, hb, hl, hm, hmm, rfl, hx⟩
  · exact ⟨_, [], rfl, VRow.nil _, by simp⟩
  · have hlm : len ≤ m := by rw [hmm]; split <;> omega
    rw [cellsV] at hx
    have each : ∀ i, i < len → ∃ v : Txt.Val, w.cell? (a.add (i * 3)) = some (.int .i64 v.i) ∧ w.cell? (a.add (i * 3 + 1)) = some (.int .i64 v.o) ∧ w.cell? (a.add (i * 3 + 2)) = some (.bool v.m) := by
      intro i hi
      obtain ⟨cs', h1, h2⟩ := hx i (by omega)
      obtain ⟨v, rfl⟩ := val_form h2
      obtain ⟨_, hlen, hcell⟩ := World.cells?_some h1
      have e0 := hcell 0 (by omega)
      have e1 := hcell 1 (by omega)
      have e2 := hcell 2 (by omega)
      rw [Deep.add_add] at e0 e1 e2
      exact ⟨v, by simpa [vcell] using e0, by simpa [vcell] using e1, by simpa [vcell] using e2⟩
    have inh : Inhabited Txt.Val := ⟨⟨0, 0, false⟩⟩
    obtain ⟨f, hf⟩ := Deep.choose_lt each
    refine ⟨_, (List.range len).map f, rfl, ⟨some a, cap, by simp, ?_⟩, by simp [elemsN]⟩
    rcases Nat.eq_zero_or_pos len with h0 | h0
    · left; subst h0; rfl
    · right
      have hs : a.spot = none := by
        have := (hf 0 h0).1
        simp only [Nat.zero_mul] at this
        have := World.cell?_spot this
        simpa [Addr.add] using this
      obtain ⟨ab, ao, asp⟩ := a
      simp only at hs; subst hs
      refine ⟨ab, ao, rfl, by simpa using hl, fun i y hy => ?_⟩
      have hi : i < len := by
        rcases Nat.lt_or_ge i len with q | q
        · exact q
        · rw [List.getElem?_eq_none (by simpa using q)] at hy; cases hy
      have e : y = f i := by simp [hi] at hy; exact hy.symm
      subst e
      obtain ⟨h1, h2, h3⟩ := hf i hi
      refine ⟨?_, by simpa [Addr.add, Nat.add_assoc] using h2, by simpa [Addr.add, Nat.add_assoc] using h3⟩
      by_cases h0' : i * 3 = 0
      · rw [h0'] at h1 ⊢; simpa [Addr.add] using h1
      · simpa [Addr.add, h0'] using h1
theorem meter_form {fuel : Nat} {cs : List Value} {x : DataW H × List MemPlace} (h : DataW.trod enc Tryd.prog w base spare held fuel 40 cs = some x) :
    ∃ (step start : Int) (v : Value) (l : List Txt.Val) (d0 d1 d2 : DataW H), cs = [.int .i64 step, .int .i64 start, v] ∧ VRow w v l ∧ x.1 = .agg [d0, d1, d2] ∧ l.length ≤ elemsN d2 := by
  obtain ⟨y0, y1, y2, n, hx, hl, h0, h1, h2⟩ := Deep.trod_struct3 Tryd.underlying40 h
  rw [cellsMet] at hl
  obtain ⟨c0, c1, c2, rfl⟩ := list3 hl
  simp only [cells3, cellsVs, List.drop, List.take] at h0 h1 h2
  obtain ⟨a, e0, _⟩ := DataW.trod_int Tryd.underlying3 h0
  obtain ⟨b, e1, _⟩ := DataW.trod_int Tryd.underlying3 h1
  obtain ⟨v, l, e2, hv, hle⟩ := vals_form h2
  exact ⟨a, b, v, l, y0.1, y1.1, y2.1, by rw [one_of e0, one_of e1]; simp at e2; rw [e2], hv, by rw [hx], hle⟩
set_option maxRecDepth 100000 in
theorem open_meter {r : Reach} {b0 : Nat} {v : Value} {d : DataW H} {p : List MemPlace} (hv : Value.okWide Tryd.prog w r b0 40 v) (h : DataW.Trod enc Tryd.prog w base spare held 40 v d p) :
    ∃ (step start : Int) (u : Value) (l : List Txt.Val) (d0 d1 d2 : DataW H), v = .agg #[.int .i64 step, .int .i64 start, u] ∧ VRow w u l ∧ d = .agg [d0, d1, d2] ∧ l.length ≤ elemsN d2 := by
  obtain ⟨cs, rfl, hsz⟩ := okWide_struct Tryd.underlying40 hv
  obtain ⟨fuel, hf⟩ := h
  obtain ⟨a, b, u, l, d0, d1, d2, e, hu, hd, hl⟩ := meter_form hf
  exact ⟨a, b, u, l, d0, d1, d2, agg_of e, hu, hd, hl⟩
theorem reach_meter {d0 d1 d2 : DataW H} {ts : List TypeId} {ds : List (DataW H)} (hsz : (DataW.weightsEach Tryd.prog (40 :: ts) (.agg [d0, d1, d2] :: ds)).all (· ≤ reachBytes) = true) : elemsN d2 * 24 ≤ 140737488351232 := by
  cases d2 with
  | slice e sp =>
    have h2 : (e.length + sp.length) * Tryd.prog.bytesOf 80 ≤ reachBytes := of_decide_eq_true (List.all_eq_true.1 hsz ((e.length + sp.length) * Tryd.prog.bytesOf 80) (by simp [DataW.weights, DataW.weightsEach, Tryd.underlying40, Tryd.underlying38]))
    rw [bytesV] at h2
    simp only [reachBytes] at h2
    simp only [elemsN]
    omega
  | _ => simp [elemsN]
end
end Go.Proofs.YtjaffmmocbplaabDoor
