/-
  PenV, MeterW, RowW in one text.
-/
import Derived.Test.YtjaffmmocbplaabGreatDoorJValW
import Derived.Deep.AppendLies
namespace Go.Proofs.YtjaffmmocbplaabGreatDoor
open Go.RowKit
set_option linter.unusedVariables false

theorem own_at {w : World} {base g cap n : Nat} {e : TypeId} {l : List Int} (h : w.ownsRow base e 1 (.slice (some ⟨g, 0, none⟩) n cap) n (ints l)) (j : Nat) (hj : j < n) (x : Int) (hx : l[j]? = some x) : w.cell? ⟨g, j, none⟩ = some (.int .i64 x) := by
  rw [h.cellAt j (by omega)]; simp [ints, hx]

set_option maxHeartbeats 1000000 in
theorem penValue_any (t : ByteArray) (s : Txt.Sc) (b : Nat) (w : World) (h : PenAt w b t s) (hbad : s.bad = false) (hs : s.pos ≤ t.size) (ht : t.size ≤ 100000) :
    Calls Tryz.prog 37 #[.pointer (some ⟨b, 0, none⟩)] w fun e w' => e = .returned (.agg #[.int .i64 (Txt.vstep t s).1.i, .int .i64 (Txt.vstep t s).1.o, .bool (Txt.vstep t s).1.m]) ∧ w.grownBy w' (some b) ∧ PenAt w' b t (Txt.vstep t s).2 := by
  have hb := h.lt
  have hb0 : ¬ w.heap.size = b := by omega
  have hA := h.alloc (.cells #[.int .i64 0, .int .i64 0, .bool false] 107)
  obtain ⟨c, hc⟩ : ∃ c, c = Txt.byteAt t s.pos := ⟨_, rfl⟩
  have hah : ∀ w1, PenAt w1 b t s → Calls Tryz.prog 36 #[.pointer (some ⟨b, 0, none⟩)] w1 fun e w' => e = .returned (.int .i64 c) ∧ ∃ n, w' = w1.drewN n := fun w1 h1 => by rw [hc]; exact ahead_any t s b w1 h1 ht
  by_cases hq : c = 45
  · have hseen : Txt.seesB t s 45 = true := Txt.seesB_iff.mpr ⟨hbad, by rw [← hc]; exact hq⟩
    have e : Txt.vstep t s = (⟨0, 0, true⟩, Txt.take t ⟨s.pos + 1, false⟩ 10) := by unfold Txt.vstep; rw [if_pos hseen]
    have e2 : Txt.take t s 45 = ⟨s.pos + 1, false⟩ := by unfold Txt.take; rw [if_pos hseen]
    have hlit : ∀ w1, PenAt w1 b t s → Calls Tryz.prog 70 #[.pointer (some ⟨b, 0, none⟩), .string ⟨#[45, 10]⟩] w1 fun e w' => e = .returned (.tuple #[]) ∧ w1.grownBy w' (some b) ∧ PenAt w' b t (Txt.take t ⟨s.pos + 1, false⟩ 10) := fun w1 h1 => by
      have := lit_any t s ⟨#[45, 10]⟩ b w1 h1 hs ht (by show 2 ≤ 1000; omega)
      rw [← e2]; exact this
    rw [e]
    have hqB : (c == 45) = true := by simpa using hq
    clear e e2 hq hc
    go_enter Tryz.func37, Tryz.ntmps37
    go_wp2_with (first
      | (go_at_call 36; refine (hah _ hA).mono ?_; rintro e w1 ⟨rfl, n1, rfl⟩)
      | (go_at_call 70; refine (hlit _ (hA.drewN _)).mono ?_; rintro e w2 ⟨rfl, g2, s2⟩; obtain ⟨hc2, hf2⟩ := gcell g2))
    have r0 : w2.cell? ⟨w.heap.size, 0, none⟩ = some (.int .i64 0) := by simp [go_sem, *]
    have r1 : w2.cell? ⟨w.heap.size, 1, none⟩ = some (.int .i64 0) := by simp [go_sem, *]
    have r2 : w2.cell? ⟨w.heap.size, 2, none⟩ = some (.bool false) := by simp [go_sem, *]
    refine bodyPost_ret (v := .agg #[.int .i64 0, .int .i64 0, .bool true]) (by simp [results, Tryz.results37, go_sem, r0, r1, r2]) rfl ⟨rfl, ?_, ?_⟩
    · have G := grown_trans (grown_drewN (grown_alloc (grown_refl w (some b)) _) n1) g2
      repeat (first | exact G | refine grown_own ?_ (by omega) _)
    · repeat (first | exact s2 | refine PenAt.other ?_ hb0 _ _)
  · have hseen : Txt.seesB t s 45 = false := by
      cases g : Txt.seesB t s 45
      · rfl
      · exact absurd ((Txt.seesB_iff.mp g).2) (by rw [← hc]; exact hq)
    have e : Txt.vstep t s = (⟨(Txt.num t 9 s).1, (Txt.field t 9 (Txt.num t 9 s).2).1, false⟩, Txt.take t (Txt.field t 9 (Txt.num t 9 s).2).2 10) := by unfold Txt.vstep; rw [if_neg (by simp [hseen])]
    rw [e]
    have hqB : (c == 45) = false := by simpa using hq
    clear e hq hc hseen
    have h1le : (Txt.num t 9 s).2.pos ≤ t.size := Txt.num_le hs
    obtain ⟨A, hAe⟩ : ∃ A, A = Txt.num t 9 s := ⟨_, rfl⟩
    have hnum : ∀ w1, PenAt w1 b t s → Calls Tryz.prog 71 #[.pointer (some ⟨b, 0, none⟩), .int .i64 9] w1 fun e w' => e = .returned (.int .i64 A.1) ∧ w1.grownBy w' (some b) ∧ PenAt w' b t A.2 := fun w1 h1 => by rw [hAe]; exact penNumber_any t s 9 b w1 h1 hs ht (by omega) (by omega)
    rw [← hAe] at h1le ⊢
    clear hAe
    obtain ⟨F, hFe⟩ : ∃ F, F = Txt.field t 9 A.2 := ⟨_, rfl⟩
    have hln : ∀ w1, PenAt w1 b t A.2 → Calls Tryz.prog 35 #[.pointer (some ⟨b, 0, none⟩), .string ⟨#[]⟩, .int .i64 1, .int .i64 9] w1 fun e w' => ∃ v, e = .returned v ∧ w'.ownsRow w1.heap.size 3 1 v 1 (ints [F.1]) ∧ w1.grownBy w' (some b) ∧ PenAt w' b t (Txt.take t F.2 10) := fun w1 h1 => by
      rw [hFe]; exact line_any t A.2 ⟨#[]⟩ 1 9 b w1 h1 h1le ht (by show 0 ≤ 1000; omega) (by omega) (by omega) (by omega)
    rw [← hFe]
    clear hFe
    go_enter Tryz.func37, Tryz.ntmps37
    go_wp2_with (first
      | (go_at_call 36; refine (hah _ hA).mono ?_; rintro e w1 ⟨rfl, n1, rfl⟩)
      | (go_at_call 71; refine (hnum _ (hA.drewN _)).mono ?_; rintro e w2 ⟨rfl, g2, s2⟩; obtain ⟨hc2, hf2⟩ := gcell g2; have hz2 : w.heap.size < w2.heap.size := (by have := g2.size; simp at this; omega))
      | (go_at_call 35; refine (hln _ s2).mono ?_; rintro e w3 ⟨v, rfl, own3, g3, s3⟩; obtain ⟨hc3, hf3⟩ := gcell g3; have hz3 : w.heap.size < w3.heap.size := (by have := g3.size; omega); obtain ⟨q, cap, rfl, hq1, hq2⟩ := own3.form (by omega); have kq := own_at own3 0 (by omega) F.1 rfl; clear own3))
    have r0 : w3.cell? ⟨w.heap.size, 0, none⟩ = some (.int .i64 0) := by simp [go_sem, *]
    have r1 : w3.cell? ⟨w.heap.size, 1, none⟩ = some (.int .i64 0) := by simp [go_sem, *]
    have r2 : w3.cell? ⟨w.heap.size, 2, none⟩ = some (.bool false) := by simp [go_sem, *]
    refine bodyPost_ret (v := .agg #[.int .i64 A.1, .int .i64 F.1, .bool false]) (by simp [results, Tryz.results37, go_sem, r0, r1, r2]) rfl ⟨rfl, ?_, ?_⟩
    · have G := grown_trans (grown_trans (grown_drewN (grown_alloc (grown_refl w (some b)) _) n1) g2) g3
      repeat (first | exact G | refine grown_own ?_ (by omega) _)
    · repeat (first | exact s3 | refine PenAt.other ?_ hb0 _ _)

end Go.Proofs.YtjaffmmocbplaabGreatDoor

namespace Go.Proofs.YtjaffmmocbplaabGreatDoor
open Go.RowKit
set_option linter.unusedVariables false

theorem infoV : (Tryz.prog.info? 126).map (fun i => (i.zero, i.size, i.bytes)) = some (some (.agg #[.int .i64 0, .int .i64 0, .bool false]), 3, 24) := by kernel_rfl
theorem infoRV : (Tryz.prog.info? 107).map (fun i => (i.zero, i.size, i.bytes)) = some (some (.agg #[.int .i64 0, .int .i64 0, .bool false]), 3, 24) := by kernel_rfl

def vcell (v : Txt.Val) : List Value := [.int .i64 v.i, .int .i64 v.o, .bool v.m]
def vcs (l : List Txt.Val) : List Value := l.flatMap vcell
theorem vcs_snoc (l : List Txt.Val) (x : Txt.Val) : vcs (l ++ [x]) = vcs l ++ vcell x := by simp [vcs]
theorem vcs_length (l : List Txt.Val) : (vcs l).length = l.length * 3 := by
  induction l with
  | nil => rfl
  | cons x l ih => show (vcell x ++ vcs l).length = _; rw [List.length_append, ih]; simp [vcell]; omega
theorem cell_three_new (w : World) (a b c : Value) (t : TypeId) : ∀ j u, [a, b, c][j]? = some u → (w.alloc (.cells #[a, b, c] t)).cell? ((⟨w.heap.size, 0, none⟩ : Addr).add j) = some u := by
  intro j u hj
  match j, hj with
  | 0, hj => simp at hj; subst hj; simp [Addr.add, go_sem]
  | 1, hj => simp at hj; subst hj; simp [Addr.add, go_sem]
  | 2, hj => simp at hj; subst hj; simp [Addr.add, go_sem]

theorem own_slice {w : World} {base : Nat} {e : TypeId} {size : Nat} {v : Value} {n : Nat} {xs : List Value} (h : w.ownsRow base e size v n xs) : ∃ a cap, v = .slice a n cap := by
  rcases h.2 with ⟨h1, h2⟩ | ⟨g, cap, _, hv, _⟩
  · subst h2; exact ⟨_, _, h1⟩
  · exact ⟨_, _, hv⟩

theorem own_base {w : World} {base base' : Nat} {e : TypeId} {size : Nat} {v : Value} {n : Nat} {xs : List Value} (h : w.ownsRow base e size v n xs) (hb : base' ≤ base) : w.ownsRow base' e size v n xs :=
  ⟨h.1, h.2.imp id fun ⟨g, cap, cur, hv, hg, r⟩ => ⟨g, cap, cur, hv, Nat.le_trans hb hg, r⟩⟩
theorem app_far {w2 w4 : World} {o1 o2 : Obj} {base : Nat} {e : TypeId} {size : Nat} {v : Value} {n : Nat} {xs : List Value} (own : ((w2.alloc o1).alloc o2).ownsRow base e size v n xs) (g4 : ((w2.alloc o1).alloc o2).grownBy w4 v.ownBlock) (hb : base ≤ w2.heap.size) :
    (∀ k o, k < base → w4.cell? ⟨k, o, none⟩ = w2.cell? ⟨k, o, none⟩) ∧ (∀ k o, k < base → w4.frozen? ⟨k, o, none⟩ = w2.frozen? ⟨k, o, none⟩) := by
  have key : ∀ k, k < base → w4.heap[k]? = w2.heap[k]? := fun k hk => by
    rw [g4.block k (by simp; omega) (fun h => by have := (own.lt k h.symm).1; omega), Below.heap_alloc _ _ _ (by simp; omega), Below.heap_alloc _ _ _ (by omega)]
  exact ⟨fun k o hk => World.cell?_of_block (a := ⟨k, o, none⟩) (key k hk), fun k o hk => World.frozen?_of_block (a := ⟨k, o, none⟩) (key k hk)⟩

/-- how far a reader is from the end: for a loop's measure -/
def left (n b : Nat) (w : World) : Nat :=
  match w.cell? ⟨b, 2, none⟩ with
  | some (.bool true) => 0
  | _ => match w.cell? ⟨b, 1, none⟩ with
    | some (.int _ p) => n + 1 - p.toNat
    | _ => 0
theorem left_at {w : World} {b : Nat} {t : ByteArray} {s : Txt.Sc} (h : ScanAt w b t s) : left t.size b w = if s.bad then 0 else t.size + 1 - s.pos := by
  unfold left; rw [h.c2, h.c1]; cases s.bad <;> simp

/-- the first line -/
def hd (t : ByteArray) (s : Txt.Sc) : Int × Int × Txt.Sc :=
  ((Txt.field t 9 (Txt.take t s 72)).1, (Txt.field t 9 (Txt.field t 9 (Txt.take t s 72)).2).1, Txt.take t (Txt.field t 9 (Txt.field t 9 (Txt.take t s 72)).2).2 10)
theorem hd_le {t : ByteArray} {s : Txt.Sc} (h : s.pos ≤ t.size) : (hd t s).2.2.pos ≤ t.size := Txt.take_le (by omega) (Txt.field_le (Txt.field_le (Txt.take_le (by omega) h)))

set_option maxRecDepth 1000000 in
set_option maxHeartbeats 1000000 in
theorem meter_any (t : ByteArray) (s : Txt.Sc) (b : Nat) (w : World) (h : ScanAt w b t s) (hs : s.pos ≤ t.size) (ht : t.size ≤ 100000) :
    Calls Tryz.prog 15 #[.pointer (some ⟨b, 0, none⟩)] w fun e w' => ∃ n v, e = .returned (.agg #[.int .i64 (hd t s).1, .int .i64 (hd t s).2.1, v]) ∧
      (∀ k, k < n → Txt.stopB t (Txt.vS t (hd t s).2.2 k) = false) ∧ Txt.stopB t (Txt.vS t (hd t s).2.2 n) = true ∧ w'.ownsRow w.heap.size 126 3 v n (vcs (Txt.vL t (hd t s).2.2 n)) ∧ w.grownBy w' (some b) ∧ ScanAt w' b t (Txt.vS t (hd t s).2.2 n) := by
  obtain ⟨i0, hi, hz0, hz1, hz2⟩ := info_parts infoV
  have hb := h.lt
  have hb0 : ¬ w.heap.size = b := by omega
  have hb1 : ¬ w.heap.size + 1 = b := by omega
  have hA := (h.alloc (.cells #[.int .i64 0, .int .i64 0, .slice none 0 0] 31)).alloc (.cells #[.int .i64 0, .int .i64 0, .slice none 0 0] 31)
  have l1 : (Txt.take t s 72).pos ≤ t.size := Txt.take_le (by omega) hs
  have l2 : (Txt.field t 9 (Txt.take t s 72)).2.pos ≤ t.size := Txt.field_le l1
  have l3 : (Txt.field t 9 (Txt.field t 9 (Txt.take t s 72)).2).2.pos ≤ t.size := Txt.field_le l2
  have l4 : (hd t s).2.2.pos ≤ t.size := hd_le hs
  have tk1 := fun w h => take_any t s 72 b w h (by omega) hs ht
  have fd1 := fun w h => field_any t (Txt.take t s 72) b w h l1 ht
  have fd2 := fun w h => field_any t (Txt.field t 9 (Txt.take t s 72)).2 b w h l2 ht
  have tk2 : ∀ w1, ScanAt w1 b t (Txt.field t 9 (Txt.field t 9 (Txt.take t s 72)).2).2 → Calls Tryz.prog 16 #[.pointer (some ⟨b, 0, none⟩), .int .u8 10] w1 fun e w' => e = .returned (.tuple #[]) ∧ w1.grownBy w' (some b) ∧ ScanAt w' b t (hd t s).2.2 := fun w1 h1 => take_any t _ 10 b w1 h1 (by omega) l3 ht
  obtain ⟨H, hH⟩ : ∃ H, H = hd t s := ⟨_, rfl⟩
  have e1 : (Txt.field t 9 (Txt.take t s 72)).1 = H.1 := by rw [hH]; rfl
  have e2 : (Txt.field t 9 (Txt.field t 9 (Txt.take t s 72)).2).1 = H.2.1 := by rw [hH]; rfl
  rw [e1] at fd1
  rw [e2] at fd2
  rw [← hH] at tk2 l4 ⊢
  clear e1 e2 hH
  obtain ⟨S1, hS1⟩ : ∃ S1, S1 = Txt.take t s 72 := ⟨_, rfl⟩
  rw [← hS1] at tk1 fd1 fd2 tk2
  obtain ⟨S2, hS2⟩ : ∃ S2, S2 = (Txt.field t 9 S1).2 := ⟨_, rfl⟩
  rw [← hS2] at fd1 fd2 tk2
  obtain ⟨S3, hS3⟩ : ∃ S3, S3 = (Txt.field t 9 S2).2 := ⟨_, rfl⟩
  rw [← hS3] at fd2 tk2
  clear hS1 hS2 hS3 l1 l2 l3
  go_enter Tryz.func15, Tryz.ntmps15
  go_wp2_with (first
    | (go_at_call 16; have _ := g3; refine (tk2 _ (s3.other hb1 _ _)).mono ?_; rintro e w4 ⟨rfl, g4, s4⟩; obtain ⟨hc4, hf4⟩ := gcell g4; have hz4 : w.heap.size + 1 < w4.heap.size := (by have := g4.size; (try simp at this); omega); have hy4 : w.heap.size < w4.heap.size := (by omega))
    | (go_at_call 16; refine (tk1 _ hA).mono ?_; rintro e w1 ⟨rfl, g1, s1⟩; obtain ⟨hc1, hf1⟩ := gcell g1; have hz1' : w.heap.size + 1 < w1.heap.size := (by have := g1.size; (try simp at this); omega); have hy1 : w.heap.size < w1.heap.size := (by omega))
    | (go_at_call 17; have _ := g2; refine (fd2 _ (s2.other hb1 _ _)).mono ?_; rintro e w3 ⟨rfl, g3, s3⟩; obtain ⟨hc3, hf3⟩ := gcell g3; have hz3' : w.heap.size + 1 < w3.heap.size := (by have := g3.size; (try simp at this); omega); have hy3 : w.heap.size < w3.heap.size := (by omega))
    | (go_at_call 17; refine (fd1 _ s1).mono ?_; rintro e w2 ⟨rfl, g2, s2⟩; obtain ⟨hc2, hf2⟩ := gcell g2; have hz2' : w.heap.size + 1 < w2.heap.size := (by have := g2.size; (try simp at this); omega); have hy2 : w.heap.size < w2.heap.size := (by omega)))
  go_loopw [4] (fun _ wr => ∃ (n : Nat) (v : Value), (∀ k, k < n → Txt.stopB t (Txt.vS t H.2.2 k) = false) ∧ wr.ownsRow (w.heap.size + 2) 126 3 v n (vcs (Txt.vL t H.2.2 n)) ∧ w.grownBy wr (some b) ∧ ScanAt wr b t (Txt.vS t H.2.2 n) ∧
      w.heap.size + 1 < wr.heap.size ∧ wr.cell? ⟨w.heap.size + 1, 0, none⟩ = some (.int .i64 H.1) ∧ wr.cell? ⟨w.heap.size + 1, 1, none⟩ = some (.int .i64 H.2.1) ∧ wr.cell? ⟨w.heap.size + 1, 2, none⟩ = some v ∧ wr.frozen? ⟨w.heap.size + 1, 2, none⟩ = false ∧
      wr.cell? ⟨w.heap.size, 0, none⟩ = some (.int .i64 0) ∧ wr.cell? ⟨w.heap.size, 1, none⟩ = some (.int .i64 0) ∧ wr.cell? ⟨w.heap.size, 2, none⟩ = some (.slice none 0 0) ∧ wr.frozen? ⟨w.heap.size, 0, none⟩ = false ∧ wr.frozen? ⟨w.heap.size, 1, none⟩ = false ∧ wr.frozen? ⟨w.heap.size, 2, none⟩ = false)
    (fun _ wr => left t.size b wr)
  case atStart =>
    refine ⟨0, .slice none 0 0, fun k hk => by omega, World.ownsRow_nil _ _ _ _, ?_, s4, hz4, ?_, ?_, ?_, ?_, ?_, ?_, ?_, ?_, ?_, ?_⟩
    · exact grown_trans (grown_own (grown_trans (grown_own (grown_trans (grown_trans (grown_alloc (grown_alloc (grown_refl w (some b)) _) _) g1) g2) (k := w.heap.size + 1) (by omega) _) g3) (k := w.heap.size + 1) (by omega) _) g4
    all_goals simp [go_sem, hc1, hc2, hc3, hc4, hf1, hf2, hf3, hf4, hb0, hb1, hz1', hz2', hz3', hy1, hy2, hy3]
  case round =>
    clear hc1 hc2 hc3 hc4 hf1 hf2 hf3 hf4 hz1' hz2' hz3' hz4 hy1 hy2 hy3 hy4 g1 g2 g3 g4 s1 s2 s3 s4 tk1 tk2 fd1 fd2 hA h
    obtain ⟨n, v, hns, hown, hg, hsc, hsz, m0, m1, m2, mf2, r0, r1, r2, rf0, rf1, rf2⟩ := hrel
    obtain ⟨a0, cap0, rfl⟩ := own_slice hown
    have hy : w.heap.size < wr.heap.size := by omega
    have hcount := Txt.vS_count l4 n hns
    have hle := Txt.vS_le l4 n
    obtain ⟨S, hS⟩ : ∃ S, S = Txt.vS t H.2.2 n := ⟨_, rfl⟩
    have HV : Hid (Txt.vS t H.2.2 (n + 1) = (Txt.vstep t S).2) := by rw [hS]; rfl
    have HL : Hid (Txt.vL t H.2.2 (n + 1) = Txt.vL t H.2.2 n ++ [(Txt.vstep t S).1]) := by rw [hS]; rfl
    have HS : Hid (S = Txt.vS t H.2.2 n) := hS
    rw [← hS] at hsc hle hcount
    clear hS
    have see := fun w h => sees_any t S 84 b w h (by omega) ht
    have hsc' := hsc
    obtain ⟨klt, k0, k1, k2, kf1, kf2⟩ := hsc'
    cases hst : Txt.stopB t S
    case true =>
      have HST : Hid (Txt.stopB t (Txt.vS t H.2.2 n) = true) := by rw [← HS.out]; exact hst
      cases hbd : S.bad
      case true =>
        rw [hbd] at k2
        clear hst
        go_wp2_with fail
        refine bodyPost_ret (v := .agg #[.int .i64 H.1, .int .i64 H.2.1, .slice a0 n cap0]) (by simp [results, Tryz.results15, go_sem, r0, r1, r2]) rfl ⟨n, _, rfl, hns, HST.out, ?_, ?_, ?_⟩
        · refine own_base (base := w.heap.size + 2) ?_ (by omega)
          repeat (first | exact hown | refine ownsRow_setCell_below ?_ (by simp) _)
        · repeat (first | exact hg | exact grown_drewN hg _ | refine grown_own ?_ (by omega) _)
        · rw [← HS.out]
          repeat (first | exact hsc | exact hsc.drewN _ | refine ScanAt.other ?_ hb0 _ _)
      case false =>
        rw [hbd] at k2
        have hq : Txt.seesB t S 84 = true := by simpa [Txt.stopB, Txt.seesB, hbd] using hst
        clear hst
        go_wp2_with (go_at_call 51; refine (see _ hsc).mono ?_; rintro e w1 ⟨rfl, n1, rfl⟩)
        refine bodyPost_ret (v := .agg #[.int .i64 H.1, .int .i64 H.2.1, .slice a0 n cap0]) (by simp [results, Tryz.results15, go_sem, r0, r1, r2]) rfl ⟨n, _, rfl, hns, HST.out, ?_, ?_, ?_⟩
        · refine own_base (base := w.heap.size + 2) ?_ (by omega)
          repeat (first | exact hown | refine ownsRow_setCell_below ?_ (by simp) _)
        · repeat (first | exact hg | exact grown_drewN hg _ | refine grown_own ?_ (by omega) _)
        · rw [← HS.out]
          repeat (first | exact hsc | exact hsc.drewN _ | refine ScanAt.other ?_ hb0 _ _)
    case false =>
      have hbd : S.bad = false := by cases g : S.bad; rfl; simp [Txt.stopB, g] at hst
      have hq : Txt.seesB t S 84 = false := by simpa [Txt.stopB, Txt.seesB, hbd] using hst
      have HST : Hid (Txt.stopB t (Txt.vS t H.2.2 n) = false) := by rw [← HS.out]; exact hst
      have hval := fun w h => value_any t S b w h hle ht
      have HADV : Hid ((Txt.vstep t S).2.bad = false → S.pos < (Txt.vstep t S).2.pos) := Txt.vstep_adv hle
      have HLE : Hid ((Txt.vstep t S).2.pos ≤ t.size) := Txt.vstep_le hle
      obtain ⟨V, hV⟩ : ∃ V, V = Txt.vstep t S := ⟨_, rfl⟩
      rw [← hV] at hval HADV HLE HV HL
      have hn2 := hcount.2 hbd
      rw [hbd] at k2
      clear hV hst hcount
      go_wp2_with (first
        | (go_at_call 51; refine (see _ hsc).mono ?_; rintro e w1 ⟨rfl, n1, rfl⟩)
        | (go_at_call 52; refine (hval _ (hsc.drewN _)).mono ?_; rintro e w2 ⟨rfl, g2', s2⟩; have g2 := grown_trans (grown_drewN (grown_refl wr (some b)) n1) g2'; clear g2'; obtain ⟨hc2, hf2⟩ := gcell g2; have hz2' : w.heap.size + 1 < w2.heap.size := (by have := g2.size; (try simp at this); omega); have hy2 : w.heap.size < w2.heap.size := (by omega); have own2 : w2.ownsRow (w.heap.size + 2) 126 3 (.slice a0 n cap0) n (vcs (Txt.vL t H.2.2 n)) := own_grown hown g2 (by omega))
        | (at_builtin; refine wpList_append_own _ rfl _ _ 29 rfl (w.heap.size + 2) 126 i0 (.agg #[.int .i64 0, .int .i64 0, .bool false]) 3 24 Tryz.underlying29 hi hz0 hz1 hz2 rfl (by decide) _ _ _ rfl ((own2.alloc _).alloc _) ⟨w2.heap.size + 1, 0, none⟩ 1 1 (vcell V.1) rfl rfl (by have := cell_three_new (w2.alloc (.cells #[.int .i64 V.1.i, .int .i64 V.1.o, .bool V.1.m] 126)) (.int .i64 V.1.i) (.int .i64 V.1.o) (.bool V.1.m) 126; simpa [vcell] using this) (fun x hx => by simp [vcell] at hx; rcases hx with rfl | rfl | rfl <;> rfl) (by unfold maxLen; omega) (by omega) (by have := hg.size; simp; omega) ?_; intro v' w4 own4 g4 nil4; obtain ⟨hc4, hf4⟩ := app_far ((own2.alloc _).alloc _) g4 (by omega); have hz4 : w2.heap.size ≤ w4.heap.size := (by have := g4.size; simp at this; omega); obtain ⟨a4, cap4, rfl⟩ := own_slice own4))
      have s5 : ScanAt (w4.setCell ⟨w.heap.size + 1, 2, none⟩ (.slice a4 (n + 1) cap4)) b t V.2 := (((s2.alloc _).alloc _).grown g4 (fun e => by have := (own2.lt b e).1; omega)).other hb1 _ _
      go_roundw
      case rel =>
        refine ⟨n + 1, .slice a4 (n + 1) cap4, ?_, ?_, ?_, ?_, by simp; omega, ?_, ?_, ?_, ?_, ?_, ?_, ?_, ?_, ?_, ?_⟩
        · intro k hk
          rcases Nat.lt_or_ge k n with g | g
          · exact hns k g
          · have : k = n := by omega
            rw [this]; exact HST.out
        · rw [HL.out, vcs_snoc]; exact ownsRow_setCell_below own4 (by simp) _
        · exact grown_own (grown_fresh (grown_alloc (grown_alloc (grown_trans hg g2) _) _) g4 (fun j hj => by have := (own2.lt j hj).1; omega)) (k := w.heap.size + 1) (by omega) _
        · rw [HV.out]; exact s5
        all_goals simp [go_sem, hc4, hf4, hc2, hf2, m0, m1, m2, mf2, r0, r1, r2, rf0, rf1, rf2, hsz, hy, hb0, hb1]
      case measure =>
        rw [left_at s5, left_at hsc, hbd]
        have a := HADV.out
        have a' := HLE.out
        cases g : V.2.bad
        · have a2 := a g
          simp only [Bool.false_eq_true, if_false]; omega
        · simp only [Bool.false_eq_true, if_false, if_true]; omega

end Go.Proofs.YtjaffmmocbplaabGreatDoor

namespace Go.Proofs.YtjaffmmocbplaabGreatDoor
open Go.RowKit
set_option linter.unusedVariables false

/-- a slice of values reads as the list l -/
def VRow (w : World) (v : Value) (l : List Txt.Val) : Prop :=
  ∃ a cap, v = .slice a l.length cap ∧ (l = [] ∨ ∃ b off, a = some ⟨b, off, none⟩ ∧ l.length ≤ cap ∧
    ∀ i x, l[i]? = some x → w.cell? ⟨b, off + i * 3, none⟩ = some (.int .i64 x.i) ∧ w.cell? ⟨b, off + i * 3 + 1, none⟩ = some (.int .i64 x.o) ∧ w.cell? ⟨b, off + i * 3 + 2, none⟩ = some (.bool x.m))
theorem vcell_below {B : Nat} {w w' : World} (h : Below B w w') {b o : Nat} (hb : b < B) {v : Value} (e : w.cell? ⟨b, o, none⟩ = some v) : w'.cell? ⟨b, o, none⟩ = some v := (h.cell (p := ⟨b, o, none⟩) hb).trans e
theorem VRow.below {w w' : World} {v : Value} {l : List Txt.Val} (h : VRow w v l) (hb : Below w.heap.size w w') : VRow w' v l := by
  obtain ⟨a, cap, hv, h⟩ := h
  refine ⟨a, cap, hv, ?_⟩
  rcases h with h | ⟨b, off, ha, hc, h⟩
  · exact .inl h
  · refine .inr ⟨b, off, ha, hc, fun i x hx => ?_⟩
    obtain ⟨h1, h2, h3⟩ := h i x hx
    have hlt : b < w.heap.size := World.block_lt_of_cell? w ⟨b, off + i * 3, none⟩ h1
    exact ⟨vcell_below hb hlt h1, vcell_below hb hlt h2, vcell_below hb hlt h3⟩
theorem VRow.at {w : World} {a : Option Addr} {n cap : Nat} {l : List Txt.Val} (h : VRow w (.slice a n cap) l) {k : Nat} {x : Txt.Val} (hx : l[k]? = some x) :
    ∃ b off, a = some ⟨b, off, none⟩ ∧ n ≤ cap ∧ b < w.heap.size ∧ w.cell? ⟨b, off + k * 3, none⟩ = some (.int .i64 x.i) ∧ w.cell? ⟨b, off + k * 3 + 1, none⟩ = some (.int .i64 x.o) ∧ w.cell? ⟨b, off + k * 3 + 2, none⟩ = some (.bool x.m) := by
  obtain ⟨a', cap', hv, h⟩ := h
  cases hv
  rcases h with rfl | ⟨b, off, rfl, hc, h⟩
  · simp at hx
  · obtain ⟨h1, h2, h3⟩ := h k x hx
    exact ⟨b, off, rfl, hc, World.block_lt_of_cell? w ⟨b, off + k * 3, none⟩ h1, h1, h2, h3⟩
theorem VRow.len {w : World} {a : Option Addr} {n cap : Nat} {l : List Txt.Val} (h : VRow w (.slice a n cap) l) : n = l.length := by
  obtain ⟨a', cap', hv, h⟩ := h; cases hv; rfl
theorem VRow.form {w : World} {v : Value} {l : List Txt.Val} (h : VRow w v l) : ∃ a cap, v = .slice a l.length cap := by
  obtain ⟨a', cap', hv, h⟩ := h; exact ⟨a', cap', hv⟩
theorem VRow.nil (w : World) : VRow w (.slice none 0 0) [] := ⟨none, 0, rfl, .inl rfl⟩
theorem vcs_get (l : List Txt.Val) : ∀ i x, l[i]? = some x → (vcs l)[i * 3]? = some (.int .i64 x.i) ∧ (vcs l)[i * 3 + 1]? = some (.int .i64 x.o) ∧ (vcs l)[i * 3 + 2]? = some (.bool x.m) := by
  induction l with
  | nil => intro i x h; simp at h
  | cons y l ih =>
    intro i x h
    have e : vcs (y :: l) = .int .i64 y.i :: .int .i64 y.o :: .bool y.m :: vcs l := rfl
    rw [e]
    cases i with
    | zero => simp at h; subst h; simp
    | succ i =>
      simp at h
      obtain ⟨h1, h2, h3⟩ := ih i x h
      have e1 : (i + 1) * 3 = i * 3 + 1 + 1 + 1 := by omega
      have e2 : (i + 1) * 3 + 1 = i * 3 + 1 + 1 + 1 + 1 := by omega
      have e3 : (i + 1) * 3 + 2 = i * 3 + 2 + 1 + 1 + 1 := by omega
      rw [e1]
      refine ⟨by simpa using h1, ?_, ?_⟩
      · rw [show i * 3 + 1 + 1 + 1 + 1 = (i * 3 + 1) + 1 + 1 + 1 by omega]; simpa using h2
      · rw [show i * 3 + 1 + 1 + 1 + 2 = (i * 3 + 2) + 1 + 1 + 1 by omega]; simpa using h3
theorem VRow.of_own {w : World} {base : Nat} {e : TypeId} {v : Value} {n : Nat} {l : List Txt.Val} (h : w.ownsRow base e 3 v n (vcs l)) (hn : l.length = n) : VRow w v l := by
  by_cases h0 : n = 0
  · obtain ⟨a, cap, rfl⟩ := own_slice h
    subst h0
    have : l = [] := List.eq_nil_of_length_eq_zero hn
    subst this
    exact ⟨a, cap, rfl, .inl rfl⟩
  · obtain ⟨g, cap, rfl, hb, hlt⟩ := h.form (by omega)
    have hcap : n ≤ cap := by
      rcases h.2 with ⟨h1, _⟩ | ⟨g', cap', cur, hv, _, _, hc, _⟩
      · cases h1
      · cases hv; exact hc
    subst hn
    refine ⟨some ⟨g, 0, none⟩, cap, rfl, .inr ⟨g, 0, rfl, hcap, fun i x hx => ?_⟩⟩
    have hi : i < l.length := by
      rcases Nat.lt_or_ge i l.length with q | q
      · exact q
      · rw [List.getElem?_eq_none q] at hx; cases hx
    obtain ⟨h1, h2, h3⟩ := vcs_get l i x hx
    simp only [Nat.zero_add]
    exact ⟨by rw [h.cellAt _ (by omega)]; exact h1, by rw [h.cellAt _ (by omega)]; exact h2, by rw [h.cellAt _ (by omega)]; exact h3⟩

/-! what is asked of values -/
def valB (x : Txt.Val) : Bool := if x.m then decide (x.i = 0) && decide (x.o = 0) else inB x.i 0 999999999 && inB x.o 0 999999999
def meterB (step start : Int) (l : List Txt.Val) : Bool :=
  (decide (step = 15) || decide (step = 30) || decide (step = 60)) && inB l.length 1 200 && inB start 0 (52596000 - step * l.length) && decide (start % step = 0) && l.all valB
def sumL (l : List Txt.Val) : Int := l.foldl (fun s x => (s + x.i + x.o) % 10000) 0
theorem sumL_snoc (l : List Txt.Val) (x : Txt.Val) : sumL (l ++ [x]) = (sumL l + x.i + x.o) % 10000 := by simp [sumL]
theorem sumL_bd (l : List Txt.Val) : 0 ≤ sumL l ∧ sumL l < 10000 := by
  suffices h : ∀ (l : List Txt.Val) (s : Int), 0 ≤ s ∧ s < 10000 → 0 ≤ l.foldl (fun s x => (s + x.i + x.o) % 10000) s ∧ l.foldl (fun s x => (s + x.i + x.o) % 10000) s < 10000 from h l 0 (by omega)
  intro l
  induction l with
  | nil => intro s h; exact h
  | cons x l ih => intro s h; exact ih _ (by show 0 ≤ (s + x.i + x.o) % 10000 ∧ (s + x.i + x.o) % 10000 < 10000; omega)
theorem valB_bd {x : Txt.Val} (h : valB x = true) : (0 ≤ x.i ∧ x.i ≤ 999999999) ∧ (0 ≤ x.o ∧ x.o ≤ 999999999) := by
  unfold valB at h
  split at h
  · simp at h; omega
  · simp [inB_iff] at h; exact h
theorem all_take_succ {l : List Txt.Val} {k : Nat} {x : Txt.Val} (hx : l[k]? = some x) : (l.take (k + 1)).all valB = ((l.take k).all valB && valB x) := by
  rw [List.take_add_one, hx]; simp
theorem all_of_false {l : List Txt.Val} {k : Nat} {x : Txt.Val} (hx : l[k]? = some x) (h : valB x = false) : l.all valB = false := by
  rw [List.all_eq_false]
  exact ⟨x, List.mem_of_getElem? hx, by simp [h]⟩

set_option maxHeartbeats 400000 in
theorem validValue_any (x : Txt.Val) (w : World) :
    Calls Tryz.prog 55 #[.agg #[.int .i64 x.i, .int .i64 x.o, .bool x.m]] w fun e w' => e = .returned (.bool (valB x)) ∧ Below w.heap.size w w' := by
  cases hm : x.m
  case true =>
    by_cases hi : x.i = 0
    · have hiB : (x.i == 0) = true := by simpa using hi
      go_enter Tryz.func55, Tryz.ntmps55
      go_wp2_with fail
      go_ret
      exact ⟨ret_bool (by simp [valB, hm, hi] <;> rfl), below_more (Below.refl _ _) _⟩
    · have hiB : (x.i == 0) = false := by simpa using hi
      go_enter Tryz.func55, Tryz.ntmps55
      go_wp2_with fail
      go_ret
      exact ⟨ret_bool (by simp [valB, hm, hi]), below_more (Below.refl _ _) _⟩
  case false =>
    cases hi : inB x.i 0 999999999
    all_goals
      go_enter Tryz.func55, Tryz.ntmps55
      go_wp2_with (go_at_call 54; refine (within_any _ _ _ _).mono ?_; rintro e w' ⟨rfl, rfl⟩)
      go_ret
      exact ⟨ret_bool (by simp [valB, hm, hi]), below_more (Below.refl _ _) _⟩

set_option maxHeartbeats 400000 in
theorem in_any (n lo hi : Int) (w : World) :
    Calls Tryz.prog 73 #[.int .i64 n, .int .i64 lo, .int .i64 hi] w fun e w' => e = .returned (.bool (inB n lo hi)) ∧ w' = w := by
  by_cases h : lo ≤ n
  all_goals
    go_enter Tryz.func73, Tryz.ntmps73
    go_wp2
    go_ret
    exact ⟨by simp [inB, h] <;> omega, rfl⟩

set_option maxHeartbeats 1000000 in
theorem checkSum_any (v : Value) (l : List Txt.Val) (w : World) (h : VRow w v l) (hv : l.all valB = true) (hl : l.length ≤ 100000) :
    Calls Tryz.prog 20 #[v] w fun e w' => e = .returned (.int .i64 (sumL l)) ∧ ∃ n, w' = w.drewN n := by
  obtain ⟨a, cap, rfl⟩ := h.form
  go_enter Tryz.func20, Tryz.ntmps20
  go_wp2_with fail
  go_loopw [3, 4] (fun s i wr => ∃ k n : Nat, i = .int .i64 k ∧ k ≤ l.length ∧ s = .int .i64 (sumL (l.take k)) ∧ wr = w.drewN n) (fun _ i _ => l.length - (intOf i).toNat)
  case atStart => exact ⟨0, 0, rfl, by omega, rfl, rfl⟩
  case round =>
    obtain ⟨k, n, rfl, hk, rfl, rfl⟩ := hrel
    have sb := sumL_bd (l.take k)
    by_cases hlt : k < l.length
    · have hlt' : (k : Int) < (l.length : Int) := by omega
      have hk0 : (0 : Int) ≤ (k : Int) := by omega
      obtain ⟨x, hx⟩ : ∃ x, l[k]? = some x := ⟨l[k], List.getElem?_eq_getElem hlt⟩
      obtain ⟨b, off, rfl, hcap, hblt, c0, c1, c2⟩ := h.at hx
      have hcap' : (l.length : Int) ≤ (cap : Int) := by omega
      have vb := valB_bd (List.all_eq_true.mp hv x (List.mem_of_getElem? hx))
      have HS : Hid (sumL (l.take (k + 1)) = (sumL (l.take k) + x.i + x.o) % 10000) := by show _ = _; rw [List.take_add_one, hx]; exact sumL_snoc _ _
      clear hx h hv
      go_wp2_with fail
      go_quiet (fail)
      go_wp2_with fail
      go_roundw
      case rel => exact ⟨k + 1, _, by go_num, by omega, by rw [HS.out], rfl⟩
      case measure => simp [intOf]; omega
    · have hlt' : ¬ (k : Int) < (l.length : Int) := by omega
      go_wp2_with fail
      go_ret
      exact ⟨ret_int (by rw [List.take_of_length_le (by omega)]), _, rfl⟩

end Go.Proofs.YtjaffmmocbplaabGreatDoor
