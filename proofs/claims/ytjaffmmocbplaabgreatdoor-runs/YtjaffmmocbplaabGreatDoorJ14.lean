/-
  FormM, FormT in one text.
-/
import Derived.Test.YtjaffmmocbplaabGreatDoorJForm
import Derived.Test.YtjaffmmocbplaabGreatDoorJ04
import Derived.Deep.Slices
import Derived.SizedLaws
import Derived.Test.YtjaffmmocbplaabGreatDoorJ05
import Derived.OpenShut
namespace Go.Proofs.YtjaffmmocbplaabGreatDoor
open Go.ChangeShapes Go.WideShapes Go.ChangeAt Go.RowKit Go.Joins
set_option linter.unusedVariables false

theorem cells4 : Tryz.prog.cellsOf 4 = 1 := by kernel_rfl
theorem cellsV : Tryz.prog.cellsOf 126 = 3 := by kernel_rfl
theorem cellsVs : Tryz.prog.cellsOf 29 = 1 := by kernel_rfl
theorem cellsMet : Tryz.prog.cellsOf 31 = 3 := by kernel_rfl
theorem bytesV : Tryz.prog.bytesOf 126 = 24 := by kernel_rfl

section
variable {H : Type} {enc : TypeId × Value → H} {w : World} {base : Nat} {spare : Nat → Bool} {held : Bool}
def elemsN (d : DataW H) : Nat := match d with | .slice e sp => e.length + sp.length | _ => 0
theorem val_form {fuel : Nat} {cs : List Value} {x : DataW H × List MemPlace} (h : DataW.trod enc Tryz.prog w base spare held fuel 126 cs = some x) : ∃ v : Txt.Val, cs = vcell v := by
  obtain ⟨y0, y1, y2, n, _, hl, h0, h1, h2⟩ := Deep.trod_struct3 Tryz.underlying126 h
  rw [cellsV] at hl
  obtain ⟨c0, c1, c2, rfl⟩ := list3 hl
  simp only [cells3, cells4, List.drop, List.take] at h0 h1 h2
  obtain ⟨a, e0, _⟩ := DataW.trod_int Tryz.underlying3 h0
  obtain ⟨b, e1, _⟩ := DataW.trod_int Tryz.underlying3 h1
  obtain ⟨c, e2, _⟩ := DataW.trod_bool Tryz.underlying4 h2
  exact ⟨⟨a, b, c⟩, by rw [one_of e0, one_of e1]; simp at e2; rw [e2]; rfl⟩
theorem vals_form {fuel : Nat} {cs : List Value} {x : DataW H × List MemPlace} (h : DataW.trod enc Tryz.prog w base spare held fuel 29 cs = some x) : ∃ (v : Value) (l : List Txt.Val), cs = [v] ∧ VRow w v l ∧ l.length ≤ elemsN x.1 := by
  rcases Deep.open_slice Tryz.underlying29 h with ⟨rfl, rfl⟩ | ⟨a, len, cap, m, n, D, Pl, rfl, hb, hl, hm, hmm, rfl, hx⟩
  · exact ⟨_, [], rfl, VRow.nil _, by simp⟩
  · have hlm : len ≤ m := by rw [hmm]; split <;> omega
    rw [cellsV] at hx
    have each : ∀ i, i < len → ∃ v : Txt.Val, w.cell? (a.add (i * 3)) = some (.int .i64 v.i) ∧ w.cell? (a.add (i * 3 + 1)) = some (.int .i64 v.o) ∧ w.cell? (a.add (i * 3 + 2)) = some (.bool v.m) := by
      intro i hi
      obtain ⟨cs', h1, h2⟩ := hx i (by omega)
      obtain ⟨v, rfl⟩ := val_form h2
      obtain ⟨_, hlen, hcell⟩ := World.cells?_some h1
      have e0 := hcell 0 (by omega)
      have e1 := hcell 1 (by omega)
      have e2 := hcell 2 (by omega)
      rw [Deep.add_add] at e0 e1 e2
      exact ⟨v, by simpa [vcell] using e0, by simpa [vcell] using e1, by simpa [vcell] using e2⟩
    have inh : Inhabited Txt.Val := ⟨⟨0, 0, false⟩⟩
    obtain ⟨f, hf⟩ := Deep.choose_lt each
    refine ⟨_, (List.range len).map f, rfl, ⟨some a, cap, by simp, ?_⟩, by simp [elemsN]⟩
    rcases Nat.eq_zero_or_pos len with h0 | h0
    · left; subst h0; rfl
    · right
      have hs : a.spot = none := by
        have := (hf 0 h0).1
        simp only [Nat.zero_mul] at this
        have := World.cell?_spot this
        simpa [Addr.add] using this
      obtain ⟨ab, ao, asp⟩ := a
      simp only at hs; subst hs
      refine ⟨ab, ao, rfl, by simpa using hl, fun i y hy => ?_⟩
      have hi : i < len := by
        rcases Nat.lt_or_ge i len with q | q
        · exact q
        · rw [List.getElem?_eq_none (by simpa using q)] at hy; cases hy
      have e : y = f i := by simp [hi] at hy; exact hy.symm
      subst e
      obtain ⟨h1, h2, h3⟩ := hf i hi
      refine ⟨?_, by simpa [Addr.add, Nat.add_assoc] using h2, by simpa [Addr.add, Nat.add_assoc] using h3⟩
      by_cases h0' : i * 3 = 0
      · rw [h0'] at h1 ⊢; simpa [Addr.add] using h1
      · simpa [Addr.add, h0'] using h1
theorem meter_form {fuel : Nat} {cs : List Value} {x : DataW H × List MemPlace} (h : DataW.trod enc Tryz.prog w base spare held fuel 31 cs = some x) :
    ∃ (step start : Int) (v : Value) (l : List Txt.Val) (d0 d1 d2 : DataW H), cs = [.int .i64 step, .int .i64 start, v] ∧ VRow w v l ∧ x.1 = .agg [d0, d1, d2] ∧ l.length ≤ elemsN d2 := by
  obtain ⟨y0, y1, y2, n, hx, hl, h0, h1, h2⟩ := Deep.trod_struct3 Tryz.underlying31 h
  rw [cellsMet] at hl
  obtain ⟨c0, c1, c2, rfl⟩ := list3 hl
  simp only [cells3, cellsVs, List.drop, List.take] at h0 h1 h2
  obtain ⟨a, e0, _⟩ := DataW.trod_int Tryz.underlying3 h0
  obtain ⟨b, e1, _⟩ := DataW.trod_int Tryz.underlying3 h1
  obtain ⟨v, l, e2, hv, hle⟩ := vals_form h2
  exact ⟨a, b, v, l, y0.1, y1.1, y2.1, by rw [one_of e0, one_of e1]; simp at e2; rw [e2], hv, by rw [hx], hle⟩
set_option maxRecDepth 100000 in
theorem open_meter {r : Reach} {b0 : Nat} {v : Value} {d : DataW H} {p : List MemPlace} (hv : Value.okWide Tryz.prog w r b0 31 v) (h : DataW.Trod enc Tryz.prog w base spare held 31 v d p) :
    ∃ (step start : Int) (u : Value) (l : List Txt.Val) (d0 d1 d2 : DataW H), v = .agg #[.int .i64 step, .int .i64 start, u] ∧ VRow w u l ∧ d = .agg [d0, d1, d2] ∧ l.length ≤ elemsN d2 := by
  obtain ⟨cs, rfl, hsz⟩ := okWide_struct Tryz.underlying31 hv
  obtain ⟨fuel, hf⟩ := h
  obtain ⟨a, b, u, l, d0, d1, d2, e, hu, hd, hl⟩ := meter_form hf
  exact ⟨a, b, u, l, d0, d1, d2, agg_of e, hu, hd, hl⟩
theorem reach_meter {d0 d1 d2 : DataW H} {ts : List TypeId} {ds : List (DataW H)} (hsz : (DataW.weightsEach Tryz.prog (31 :: ts) (.agg [d0, d1, d2] :: ds)).all (· ≤ reachBytes) = true) : elemsN d2 * 24 ≤ 140737488351232 := by
  cases d2 with
  | slice e sp =>
    have h2 : (e.length + sp.length) * Tryz.prog.bytesOf 126 ≤ reachBytes := of_decide_eq_true (List.all_eq_true.1 hsz ((e.length + sp.length) * Tryz.prog.bytesOf 126) (by simp [DataW.weights, DataW.weightsEach, Tryz.underlying31, Tryz.underlying29]))
    rw [bytesV] at h2
    simp only [reachBytes] at h2
    simp only [elemsN]
    omega
  | _ => simp [elemsN]
end
end Go.Proofs.YtjaffmmocbplaabGreatDoor

namespace Go.Proofs.YtjaffmmocbplaabGreatDoor
open Go.ChangeShapes Go.WideShapes Go.ChangeAt Go.RowKit Go.Joins
set_option linter.unusedVariables false

theorem cells9 : Tryz.prog.cellsOf 9 = 1 := by kernel_rfl
theorem cellsBlk : Tryz.prog.cellsOf 40 = 3 := by kernel_rfl
theorem cellsBlks : Tryz.prog.cellsOf 41 = 9 := by kernel_rfl
theorem cellsHrs : Tryz.prog.cellsOf 38 = 4 := by kernel_rfl
theorem cellsDmd : Tryz.prog.cellsOf 43 = 3 := by kernel_rfl
theorem cellsNet : Tryz.prog.cellsOf 45 = 2 := by kernel_rfl
theorem cellsTrf : Tryz.prog.cellsOf 47 = 34 := by kernel_rfl

section
variable {H : Type} {enc : TypeId × Value → H} {w : World} {base : Nat} {spare : Nat → Bool} {held : Bool}
theorem list_len {α : Type} : ∀ (n : Nat) (l : List α), l.length = n + 1 → ∃ a r, l = a :: r ∧ r.length = n
  | n, a :: r, h => ⟨a, r, rfl, by simpa using h⟩
theorem blk_form {fuel : Nat} {cs : List Value} {x : DataW H × List MemPlace} (h : DataW.trod enc Tryz.prog w base spare held fuel 40 cs = some x) : ∃ b : Blk, cs = [.int .i64 b.x, .int .i64 b.y, .int .i64 b.z] := by
  obtain ⟨y0, y1, y2, n, _, hl, h0, h1, h2⟩ := Deep.trod_struct3 Tryz.underlying40 h
  rw [cellsBlk] at hl
  obtain ⟨c0, c1, c2, rfl⟩ := list3 hl
  simp only [cells3, List.drop, List.take] at h0 h1 h2
  obtain ⟨a, e0, _⟩ := DataW.trod_int Tryz.underlying3 h0
  obtain ⟨b, e1, _⟩ := DataW.trod_int Tryz.underlying3 h1
  obtain ⟨c, e2, _⟩ := DataW.trod_int Tryz.underlying3 h2
  exact ⟨⟨a, b, c⟩, by rw [one_of e0, one_of e1, one_of e2]⟩
theorem dmd_form {fuel : Nat} {cs : List Value} {x : DataW H × List MemPlace} (h : DataW.trod enc Tryz.prog w base spare held fuel 43 cs = some x) : ∃ b : Blk, cs = [.int .i64 b.x, .int .i64 b.y, .int .i64 b.z] := by
  obtain ⟨y0, y1, y2, n, _, hl, h0, h1, h2⟩ := Deep.trod_struct3 Tryz.underlying43 h
  rw [cellsDmd] at hl
  obtain ⟨c0, c1, c2, rfl⟩ := list3 hl
  simp only [cells3, List.drop, List.take] at h0 h1 h2
  obtain ⟨a, e0, _⟩ := DataW.trod_int Tryz.underlying3 h0
  obtain ⟨b, e1, _⟩ := DataW.trod_int Tryz.underlying3 h1
  obtain ⟨c, e2, _⟩ := DataW.trod_int Tryz.underlying3 h2
  exact ⟨⟨a, b, c⟩, by rw [one_of e0, one_of e1, one_of e2]⟩
theorem net_form {fuel : Nat} {c0 c1 : Value} {x : DataW H × List MemPlace} (h : DataW.trod enc Tryz.prog w base spare held fuel 45 [c0, c1] = some x) : ∃ a b : Int, c0 = .int .i64 a ∧ c1 = .int .i64 b := by
  obtain ⟨xs, n, _, _, _, hlen, hf⟩ := DataW.trod_struct Tryz.underlying45 h
  obtain ⟨y0, rr1, rfl, qq1⟩ := list_len 1 xs (by simpa using hlen)
  obtain ⟨y1, rr2, rfl, qq2⟩ := list_len 0 rr1 qq1
  have h0 : DataW.trod enc Tryz.prog w base spare held n 3 ((List.drop 0 [c0, c1]).take (Tryz.prog.cellsOf 3)) = some y0 := hf 0 _ rfl
  have h1 : DataW.trod enc Tryz.prog w base spare held n 3 ((List.drop 1 [c0, c1]).take (Tryz.prog.cellsOf 3)) = some y1 := hf 1 _ rfl
  simp only [cells3, List.drop, List.take] at h0 h1
  obtain ⟨a, e0, _⟩ := DataW.trod_int Tryz.underlying3 h0
  obtain ⟨b, e1, _⟩ := DataW.trod_int Tryz.underlying3 (h1)
  exact ⟨a, b, one_of e0, one_of e1⟩
theorem str_of {v : Value} {s : ByteArray} (h : [v] = [.string s]) : v = .string s := by simpa using h
theorem hrs_form {fuel : Nat} {c0 c1 c2 c3 : Value} {x : DataW H × List MemPlace} (h : DataW.trod enc Tryz.prog w base spare held fuel 38 [c0, c1, c2, c3] = some x) : ∃ a b c d : ByteArray, (c0 = .string a ∧ c1 = .string b ∧ c2 = .string c ∧ c3 = .string d) ∧ a.size ≤ maxLen ∧ b.size ≤ maxLen ∧ c.size ≤ maxLen ∧ d.size ≤ maxLen := by
  obtain ⟨xs, n, _, _, _, hlen, hf⟩ := DataW.trod_array Tryz.underlying38 h
  obtain ⟨y0, rr3, rfl, qq3⟩ := list_len 3 xs hlen
  obtain ⟨y1, rr4, rfl, qq4⟩ := list_len 2 rr3 qq3
  obtain ⟨y2, rr5, rfl, qq5⟩ := list_len 1 rr4 qq4
  obtain ⟨y3, rr6, rfl, qq6⟩ := list_len 0 rr5 qq5
  have h0 := hf 0 (by omega)
  have h1 := hf 1 (by omega)
  have h2 := hf 2 (by omega)
  have h3 := hf 3 (by omega)
  simp only [cells9, Nat.mul_one, List.drop, List.take] at h0 h1 h2 h3
  obtain ⟨a, e0, _, s0⟩ := DataW.trod_string Tryz.underlying9 h0
  obtain ⟨b, e1, _, s1⟩ := DataW.trod_string Tryz.underlying9 (h1)
  obtain ⟨c, e2, _, s2⟩ := DataW.trod_string Tryz.underlying9 (h2)
  obtain ⟨d, e3, _, s3⟩ := DataW.trod_string Tryz.underlying9 (h3)
  exact ⟨a, b, c, d, ⟨str_of e0, str_of e1, str_of e2, str_of e3⟩, s0, s1, s2, s3⟩
theorem blks_form {fuel : Nat} {c0 c1 c2 c3 c4 c5 c6 c7 c8 : Value} {x : DataW H × List MemPlace} (h : DataW.trod enc Tryz.prog w base spare held fuel 41 [c0, c1, c2, c3, c4, c5, c6, c7, c8] = some x) :
    ∃ a b c : Blk, [c0, c1, c2] = [.int .i64 a.x, .int .i64 a.y, .int .i64 a.z] ∧ [c3, c4, c5] = [.int .i64 b.x, .int .i64 b.y, .int .i64 b.z] ∧ [c6, c7, c8] = [.int .i64 c.x, .int .i64 c.y, .int .i64 c.z] := by
  obtain ⟨xs, n, _, _, _, hlen, hf⟩ := DataW.trod_array Tryz.underlying41 h
  obtain ⟨y0, rr7, rfl, qq7⟩ := list_len 2 xs hlen
  obtain ⟨y1, rr8, rfl, qq8⟩ := list_len 1 rr7 qq7
  obtain ⟨y2, rr9, rfl, qq9⟩ := list_len 0 rr8 qq8
  have h0 := hf 0 (by omega)
  have h1 := hf 1 (by omega)
  have h2 := hf 2 (by omega)
  simp only [cellsBlk, List.drop, List.take] at h0 h1 h2
  obtain ⟨a, e0⟩ := blk_form h0
  obtain ⟨b, e1⟩ := blk_form (h1)
  obtain ⟨c, e2⟩ := blk_form (h2)
  exact ⟨a, b, c, e0, e1, e2⟩
set_option maxRecDepth 100000 in
theorem trf_form {fuel : Nat} {cs : List Value} {x : DataW H × List MemPlace} (h : DataW.trod enc Tryz.prog w base spare held fuel 47 cs = some x) :
    ∃ t : Trf, cs = (#[.int .i64 t.z.off, .int .i64 t.z.f.m, .int .i64 t.z.f.w, .int .i64 t.z.f.d, .int .i64 t.z.f.h, .int .i64 t.z.t.m, .int .i64 t.z.t.w, .int .i64 t.z.t.d, .int .i64 t.z.t.h, .int .i64 t.days, .int .i64 t.gap, .int .i64 t.first, .int .i64 t.last, .string t.h0, .string t.h1, .string t.h2, .string t.h3, .int .i64 t.b0.x, .int .i64 t.b0.y, .int .i64 t.b0.z, .int .i64 t.b1.x, .int .i64 t.b1.y, .int .i64 t.b1.z, .int .i64 t.b2.x, .int .i64 t.b2.y, .int .i64 t.b2.z, .int .i64 t.d.x, .int .i64 t.d.y, .int .i64 t.d.z, .int .i64 t.np, .int .i64 t.nn, .int .i64 t.fix, .int .i64 t.min, .int .i64 t.tax] : Array Value).toList ∧ t.h0.size ≤ maxLen ∧ t.h1.size ≤ maxLen ∧ t.h2.size ≤ maxLen ∧ t.h3.size ≤ maxLen := by
  obtain ⟨xs, n, _, _, hl, hlen, hf⟩ := DataW.trod_struct Tryz.underlying47 h
  rw [cellsTrf] at hl
  obtain ⟨c0, rr10, rfl, qq10⟩ := list_len 33 cs hl
  obtain ⟨c1, rr11, rfl, qq11⟩ := list_len 32 rr10 qq10
  obtain ⟨c2, rr12, rfl, qq12⟩ := list_len 31 rr11 qq11
  obtain ⟨c3, rr13, rfl, qq13⟩ := list_len 30 rr12 qq12
  obtain ⟨c4, rr14, rfl, qq14⟩ := list_len 29 rr13 qq13
  obtain ⟨c5, rr15, rfl, qq15⟩ := list_len 28 rr14 qq14
  obtain ⟨c6, rr16, rfl, qq16⟩ := list_len 27 rr15 qq15
  obtain ⟨c7, rr17, rfl, qq17⟩ := list_len 26 rr16 qq16
  obtain ⟨c8, rr18, rfl, qq18⟩ := list_len 25 rr17 qq17
  obtain ⟨c9, rr19, rfl, qq19⟩ := list_len 24 rr18 qq18
  obtain ⟨c10, rr20, rfl, qq20⟩ := list_len 23 rr19 qq19
  obtain ⟨c11, rr21, rfl, qq21⟩ := list_len 22 rr20 qq20
  obtain ⟨c12, rr22, rfl, qq22⟩ := list_len 21 rr21 qq21
  obtain ⟨c13, rr23, rfl, qq23⟩ := list_len 20 rr22 qq22
  obtain ⟨c14, rr24, rfl, qq24⟩ := list_len 19 rr23 qq23
  obtain ⟨c15, rr25, rfl, qq25⟩ := list_len 18 rr24 qq24
  obtain ⟨c16, rr26, rfl, qq26⟩ := list_len 17 rr25 qq25
  obtain ⟨c17, rr27, rfl, qq27⟩ := list_len 16 rr26 qq26
  obtain ⟨c18, rr28, rfl, qq28⟩ := list_len 15 rr27 qq27
  obtain ⟨c19, rr29, rfl, qq29⟩ := list_len 14 rr28 qq28
  obtain ⟨c20, rr30, rfl, qq30⟩ := list_len 13 rr29 qq29
  obtain ⟨c21, rr31, rfl, qq31⟩ := list_len 12 rr30 qq30
  obtain ⟨c22, rr32, rfl, qq32⟩ := list_len 11 rr31 qq31
  obtain ⟨c23, rr33, rfl, qq33⟩ := list_len 10 rr32 qq32
  obtain ⟨c24, rr34, rfl, qq34⟩ := list_len 9 rr33 qq33
  obtain ⟨c25, rr35, rfl, qq35⟩ := list_len 8 rr34 qq34
  obtain ⟨c26, rr36, rfl, qq36⟩ := list_len 7 rr35 qq35
  obtain ⟨c27, rr37, rfl, qq37⟩ := list_len 6 rr36 qq36
  obtain ⟨c28, rr38, rfl, qq38⟩ := list_len 5 rr37 qq37
  obtain ⟨c29, rr39, rfl, qq39⟩ := list_len 4 rr38 qq38
  obtain ⟨c30, rr40, rfl, qq40⟩ := list_len 3 rr39 qq39
  obtain ⟨c31, rr41, rfl, qq41⟩ := list_len 2 rr40 qq40
  obtain ⟨c32, rr42, rfl, qq42⟩ := list_len 1 rr41 qq41
  obtain ⟨c33, rr43, rfl, qq43⟩ := list_len 0 rr42 qq42
  obtain rfl := List.eq_nil_of_length_eq_zero qq43
  obtain ⟨y0, rr44, rfl, qq44⟩ := list_len 11 xs hlen
  obtain ⟨y1, rr45, rfl, qq45⟩ := list_len 10 rr44 qq44
  obtain ⟨y2, rr46, rfl, qq46⟩ := list_len 9 rr45 qq45
  obtain ⟨y3, rr47, rfl, qq47⟩ := list_len 8 rr46 qq46
  obtain ⟨y4, rr48, rfl, qq48⟩ := list_len 7 rr47 qq47
  obtain ⟨y5, rr49, rfl, qq49⟩ := list_len 6 rr48 qq48
  obtain ⟨y6, rr50, rfl, qq50⟩ := list_len 5 rr49 qq49
  obtain ⟨y7, rr51, rfl, qq51⟩ := list_len 4 rr50 qq50
  obtain ⟨y8, rr52, rfl, qq52⟩ := list_len 3 rr51 qq51
  obtain ⟨y9, rr53, rfl, qq53⟩ := list_len 2 rr52 qq52
  obtain ⟨y10, rr54, rfl, qq54⟩ := list_len 1 rr53 qq53
  obtain ⟨y11, rr55, rfl, qq55⟩ := list_len 0 rr54 qq54
  have h0 : DataW.trod enc Tryz.prog w base spare held n 37 ((List.drop 0 [c0, c1, c2, c3, c4, c5, c6, c7, c8, c9, c10, c11, c12, c13, c14, c15, c16, c17, c18, c19, c20, c21, c22, c23, c24, c25, c26, c27, c28, c29, c30, c31, c32, c33]).take (Tryz.prog.cellsOf 37)) = some y0 := hf 0 _ rfl
  have h1 : DataW.trod enc Tryz.prog w base spare held n 3 ((List.drop 9 [c0, c1, c2, c3, c4, c5, c6, c7, c8, c9, c10, c11, c12, c13, c14, c15, c16, c17, c18, c19, c20, c21, c22, c23, c24, c25, c26, c27, c28, c29, c30, c31, c32, c33]).take (Tryz.prog.cellsOf 3)) = some y1 := hf 1 _ rfl
  have h2 : DataW.trod enc Tryz.prog w base spare held n 3 ((List.drop 10 [c0, c1, c2, c3, c4, c5, c6, c7, c8, c9, c10, c11, c12, c13, c14, c15, c16, c17, c18, c19, c20, c21, c22, c23, c24, c25, c26, c27, c28, c29, c30, c31, c32, c33]).take (Tryz.prog.cellsOf 3)) = some y2 := hf 2 _ rfl
  have h3 : DataW.trod enc Tryz.prog w base spare held n 3 ((List.drop 11 [c0, c1, c2, c3, c4, c5, c6, c7, c8, c9, c10, c11, c12, c13, c14, c15, c16, c17, c18, c19, c20, c21, c22, c23, c24, c25, c26, c27, c28, c29, c30, c31, c32, c33]).take (Tryz.prog.cellsOf 3)) = some y3 := hf 3 _ rfl
  have h4 : DataW.trod enc Tryz.prog w base spare held n 3 ((List.drop 12 [c0, c1, c2, c3, c4, c5, c6, c7, c8, c9, c10, c11, c12, c13, c14, c15, c16, c17, c18, c19, c20, c21, c22, c23, c24, c25, c26, c27, c28, c29, c30, c31, c32, c33]).take (Tryz.prog.cellsOf 3)) = some y4 := hf 4 _ rfl
  have h5 : DataW.trod enc Tryz.prog w base spare held n 38 ((List.drop 13 [c0, c1, c2, c3, c4, c5, c6, c7, c8, c9, c10, c11, c12, c13, c14, c15, c16, c17, c18, c19, c20, c21, c22, c23, c24, c25, c26, c27, c28, c29, c30, c31, c32, c33]).take (Tryz.prog.cellsOf 38)) = some y5 := hf 5 _ rfl
  have h6 : DataW.trod enc Tryz.prog w base spare held n 41 ((List.drop 17 [c0, c1, c2, c3, c4, c5, c6, c7, c8, c9, c10, c11, c12, c13, c14, c15, c16, c17, c18, c19, c20, c21, c22, c23, c24, c25, c26, c27, c28, c29, c30, c31, c32, c33]).take (Tryz.prog.cellsOf 41)) = some y6 := hf 6 _ rfl
  have h7 : DataW.trod enc Tryz.prog w base spare held n 43 ((List.drop 26 [c0, c1, c2, c3, c4, c5, c6, c7, c8, c9, c10, c11, c12, c13, c14, c15, c16, c17, c18, c19, c20, c21, c22, c23, c24, c25, c26, c27, c28, c29, c30, c31, c32, c33]).take (Tryz.prog.cellsOf 43)) = some y7 := hf 7 _ rfl
  have h8 : DataW.trod enc Tryz.prog w base spare held n 45 ((List.drop 29 [c0, c1, c2, c3, c4, c5, c6, c7, c8, c9, c10, c11, c12, c13, c14, c15, c16, c17, c18, c19, c20, c21, c22, c23, c24, c25, c26, c27, c28, c29, c30, c31, c32, c33]).take (Tryz.prog.cellsOf 45)) = some y8 := hf 8 _ rfl
  have h9 : DataW.trod enc Tryz.prog w base spare held n 3 ((List.drop 31 [c0, c1, c2, c3, c4, c5, c6, c7, c8, c9, c10, c11, c12, c13, c14, c15, c16, c17, c18, c19, c20, c21, c22, c23, c24, c25, c26, c27, c28, c29, c30, c31, c32, c33]).take (Tryz.prog.cellsOf 3)) = some y9 := hf 9 _ rfl
  have h10 : DataW.trod enc Tryz.prog w base spare held n 3 ((List.drop 32 [c0, c1, c2, c3, c4, c5, c6, c7, c8, c9, c10, c11, c12, c13, c14, c15, c16, c17, c18, c19, c20, c21, c22, c23, c24, c25, c26, c27, c28, c29, c30, c31, c32, c33]).take (Tryz.prog.cellsOf 3)) = some y10 := hf 10 _ rfl
  have h11 : DataW.trod enc Tryz.prog w base spare held n 3 ((List.drop 33 [c0, c1, c2, c3, c4, c5, c6, c7, c8, c9, c10, c11, c12, c13, c14, c15, c16, c17, c18, c19, c20, c21, c22, c23, c24, c25, c26, c27, c28, c29, c30, c31, c32, c33]).take (Tryz.prog.cellsOf 3)) = some y11 := hf 11 _ rfl
  clear hf h
  simp only [cells3, cellsZone, cellsHrs, cellsBlks, cellsDmd, cellsNet, List.drop, List.take] at h0 h1 h2 h3 h4 h5 h6 h7 h8 h9 h10 h11
  obtain ⟨z, e0⟩ := zone_form h0
  obtain ⟨days, e1, _⟩ := DataW.trod_int Tryz.underlying3 (h1)
  obtain ⟨gap, e2, _⟩ := DataW.trod_int Tryz.underlying3 (h2)
  obtain ⟨first, e3, _⟩ := DataW.trod_int Tryz.underlying3 (h3)
  obtain ⟨last, e4, _⟩ := DataW.trod_int Tryz.underlying3 (h4)
  obtain ⟨ha, hb, hc, hd, ⟨e5, e6, e7, e8⟩, s0, s1, s2, s3⟩ := hrs_form (h5)
  obtain ⟨b0, b1, b2, e9, e10, e11⟩ := blks_form (h6)
  obtain ⟨dm, e12⟩ := dmd_form (h7)
  obtain ⟨np, nn, e13, e14⟩ := net_form (h8)
  obtain ⟨fx, e15, _⟩ := DataW.trod_int Tryz.underlying3 (h9)
  obtain ⟨mn, e16, _⟩ := DataW.trod_int Tryz.underlying3 (h10)
  obtain ⟨tx, e17, _⟩ := DataW.trod_int Tryz.underlying3 (h11)
  clear h0 h1 h2 h3 h4 h5 h6 h7 h8 h9 h10 h11
  simp only [List.cons.injEq, and_true] at e0 e9 e10 e11 e12
  obtain ⟨rfl, rfl, rfl, rfl, rfl, rfl, rfl, rfl, rfl⟩ := e0
  obtain ⟨rfl, rfl, rfl⟩ := e9
  obtain ⟨rfl, rfl, rfl⟩ := e10
  obtain ⟨rfl, rfl, rfl⟩ := e11
  obtain ⟨rfl, rfl, rfl⟩ := e12
  refine ⟨⟨z, days, gap, first, last, ha, hb, hc, hd, b0, b1, b2, dm, np, nn, fx, mn, tx⟩, ?_, s0, s1, s2, s3⟩
  rw [one_of e1, one_of e2, one_of e3, one_of e4, e5, e6, e7, e8, e13, e14, one_of e15, one_of e16, one_of e17]
set_option maxRecDepth 100000 in
theorem open_tariff {r : Reach} {b0 : Nat} {v : Value} {d : DataW H} {p : List MemPlace} (hv : Value.okWide Tryz.prog w r b0 47 v) (h : DataW.Trod enc Tryz.prog w base spare held 47 v d p) : ∃ t : Trf, v = .agg #[.int .i64 t.z.off, .int .i64 t.z.f.m, .int .i64 t.z.f.w, .int .i64 t.z.f.d, .int .i64 t.z.f.h, .int .i64 t.z.t.m, .int .i64 t.z.t.w, .int .i64 t.z.t.d, .int .i64 t.z.t.h, .int .i64 t.days, .int .i64 t.gap, .int .i64 t.first, .int .i64 t.last, .string t.h0, .string t.h1, .string t.h2, .string t.h3, .int .i64 t.b0.x, .int .i64 t.b0.y, .int .i64 t.b0.z, .int .i64 t.b1.x, .int .i64 t.b1.y, .int .i64 t.b1.z, .int .i64 t.b2.x, .int .i64 t.b2.y, .int .i64 t.b2.z, .int .i64 t.d.x, .int .i64 t.d.y, .int .i64 t.d.z, .int .i64 t.np, .int .i64 t.nn, .int .i64 t.fix, .int .i64 t.min, .int .i64 t.tax] ∧ t.h0.size ≤ maxLen ∧ t.h1.size ≤ maxLen ∧ t.h2.size ≤ maxLen ∧ t.h3.size ≤ maxLen := by
  obtain ⟨cs, rfl, hsz⟩ := okWide_struct Tryz.underlying47 hv
  obtain ⟨fuel, hf⟩ := h
  obtain ⟨t, e, s⟩ := trf_form hf
  exact ⟨t, agg_of e, s⟩
end
end Go.Proofs.YtjaffmmocbplaabGreatDoor
