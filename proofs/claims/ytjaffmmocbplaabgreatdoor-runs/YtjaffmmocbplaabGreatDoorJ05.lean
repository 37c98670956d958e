/-
  HourW, PenH, TrfM in one text.
-/
import Derived.Test.YtjaffmmocbplaabGreatDoorJValW
import Derived.Laws.BytesArg
import Derived.Deep.AppendLies
import Derived.Test.YtjaffmmocbplaabGreatDoorJZon
namespace Go.Proofs.YtjaffmmocbplaabGreatDoor
open Go.RowKit
set_option linter.unusedVariables false

def clsB (c : Int) : Bool := decide (c = 65) || decide (c = 66) || decide (c = 67)
def cls (t : ByteArray) (s : Txt.Sc) : Int × Txt.Sc := if s.bad = false ∧ clsB (Txt.byteAt t s.pos) = true then (Txt.byteAt t s.pos, ⟨s.pos + 1, false⟩) else (0, ⟨s.pos, true⟩)
def chS (t : ByteArray) (s : Txt.Sc) : Nat → Txt.Sc
  | 0 => s
  | n + 1 => (cls t (chS t s n)).2
def chL (t : ByteArray) (s : Txt.Sc) : Nat → List Int
  | 0 => []
  | n + 1 => chL t s n ++ [(cls t (chS t s n)).1]
theorem clsB_bd {c : Int} (h : clsB c = true) : 65 ≤ c ∧ c ≤ 67 := by simp [clsB] at h; omega
theorem cls_le {t : ByteArray} {s : Txt.Sc} (h : s.pos ≤ t.size) : (cls t s).2.pos ≤ t.size := by
  unfold cls; split
  · rename_i g; have := clsB_bd g.2; have := Txt.lt_of_byteAt (t := t) (i := s.pos) (by omega); show s.pos + 1 ≤ t.size; omega
  · exact h
theorem chS_le {t : ByteArray} {s : Txt.Sc} (h : s.pos ≤ t.size) : ∀ n, (chS t s n).pos ≤ t.size
  | 0 => h
  | n + 1 => cls_le (chS_le h n)
theorem cls_bd (t : ByteArray) (s : Txt.Sc) : 0 ≤ (cls t s).1 ∧ (cls t s).1 ≤ 67 := by
  unfold cls; split
  · rename_i g; have := clsB_bd g.2; show 0 ≤ Txt.byteAt t s.pos ∧ Txt.byteAt t s.pos ≤ 67; omega
  · exact ⟨Int.le_refl _, by show (0 : Int) ≤ 67; omega⟩
theorem chL_length (t : ByteArray) (s : Txt.Sc) : ∀ n, (chL t s n).length = n
  | 0 => rfl
  | n + 1 => by simp [chL, chL_length t s n]

set_option maxHeartbeats 400000 in
theorem isClass_any (c : Int) (w : World) :
    Calls Tryz.prog 85 #[.int .u8 c] w fun e w' => e = .returned (.bool (clsB c)) ∧ w' = w := by
  by_cases h1 : c = 65
  · have b1 : (c == 65) = true := by simpa using h1
    go_enter Tryz.func85, Tryz.ntmps85
    go_wp2_with fail
    go_ret
    exact ⟨ret_bool (by simp [clsB, h1]), rfl⟩
  · have b1 : (c == 65) = false := by simpa using h1
    by_cases h2 : c = 66
    · have b2 : (c == 66) = true := by simpa using h2
      go_enter Tryz.func85, Tryz.ntmps85
      go_wp2_with fail
      go_ret
      exact ⟨ret_bool (by simp [clsB, h2]), rfl⟩
    · have b2 : (c == 66) = false := by simpa using h2
      go_enter Tryz.func85, Tryz.ntmps85
      go_wp2_with fail
      go_ret
      exact ⟨ret_bool (by simp [clsB, h1, h2]; rfl), rfl⟩

set_option maxHeartbeats 1000000 in
theorem class_any (t : ByteArray) (s : Txt.Sc) (b : Nat) (w : World) (hK : ScanAt w b t s) (hs : s.pos ≤ t.size) (ht : t.size ≤ 100000) :
    Calls Tryz.prog 82 #[.pointer (some ⟨b, 0, none⟩)] w fun e w' => e = .returned (.int .u8 (cls t s).1) ∧ w.grownBy w' (some b) ∧ ScanAt w' b t (cls t s).2 := by
  have h' := hK
  obtain ⟨hlt, h0, h1, h2, g1, g2⟩ := h'
  cases hb : s.bad
  case true =>
    have e : cls t s = (0, ⟨s.pos, true⟩) := by unfold cls; rw [if_neg (by simp [hb])]
    rw [e]
    rw [hb] at h2
    clear e
    go_enter Tryz.func82, Tryz.ntmps82
    go_wp2_with fail
    go_quiet (fail)
    go_wp2_with fail
    go_ret
    exact ⟨rfl, grown_setCell (grown_drewN (grown_refl _ _) _) _, (hK.drewN _).gone true⟩
  case false =>
    rw [hb] at h2
    by_cases hp : s.pos < t.size
    · have hp' : (s.pos : Int) < (t.size : Int) := by omega
      have hp0 : (0 : Int) ≤ (s.pos : Int) := by omega
      have hpB : decide ((t.size : Int) ≤ (s.pos : Int)) = false := by simp; omega
      have eb := Txt.byteAt_lt hp
      cases hc : clsB (t[s.pos].toNat : Int)
      case true =>
        have e : cls t s = ((t[s.pos].toNat : Int), ⟨s.pos + 1, s.bad⟩) := by unfold cls; rw [if_pos ⟨hb, by rw [eb]; exact hc⟩, eb, hb]
        rw [e]
        clear e eb
        go_enter Tryz.func82, Tryz.ntmps82
        go_wp2_with fail
        go_quiet ((go_at_call 85; exact Calls.quiet_of_same (isClass_any _ _)))
        go_wp2_with fail
        go_quiet (fail)
        go_wp2_with fail
        go_ret
        exact ⟨rfl, grown_setCell (grown_drewN (grown_refl _ _) _) _, (hK.drewN _).moved (s.pos + 1) _ (by omega)⟩
      case false =>
        have e : cls t s = (0, ⟨s.pos, true⟩) := by unfold cls; rw [if_neg (by rw [eb, hc]; simp)]
        rw [e]
        clear e eb
        go_enter Tryz.func82, Tryz.ntmps82
        go_wp2_with fail
        go_quiet ((go_at_call 85; exact Calls.quiet_of_same (isClass_any _ _)))
        go_wp2_with fail
        go_ret
        exact ⟨rfl, grown_setCell (grown_drewN (grown_refl _ _) _) _, (hK.drewN _).gone true⟩
    · have hpB : decide ((t.size : Int) ≤ (s.pos : Int)) = true := by simp; omega
      have e : cls t s = (0, ⟨s.pos, true⟩) := by unfold cls; rw [if_neg (by rw [Txt.byteAt_ge hp]; simp [clsB])]
      rw [e]
      clear e
      go_enter Tryz.func82, Tryz.ntmps82
      go_wp2_with fail
      go_quiet (fail)
      go_wp2_with fail
      go_ret
      exact ⟨rfl, grown_setCell (grown_drewN (grown_refl _ _) _) _, (hK.drewN _).gone true⟩

def u8s (l : List Int) : List Value := l.map (Value.int .u8)
theorem u8s_snoc (l : List Int) (x : Int) : u8s (l ++ [x]) = u8s l ++ [.int .u8 x] := by simp [u8s]
theorem infoU8 : (Tryz.prog.info? 5).map (fun i => (i.zero, i.size, i.bytes)) = some (some (.int .u8 0), 1, 1) := by kernel_rfl

set_option maxRecDepth 1000000 in
set_option maxHeartbeats 1000000 in
theorem scan_hours_any (t : ByteArray) (s : Txt.Sc) (b : Nat) (w : World) (hK : ScanAt w b t s) (hs : s.pos ≤ t.size) (ht : t.size ≤ 100000) :
    Calls Tryz.prog 57 #[.pointer (some ⟨b, 0, none⟩)] w fun e w' => e = .returned (.string (strOfNums (chL t (Txt.take t (Txt.take t s 87) 32) 24))) ∧ w.grownBy w' (some b) ∧ ScanAt w' b t (Txt.take t (chS t (Txt.take t (Txt.take t s 87) 32) 24) 10) := by
  obtain ⟨i0, hi, hz0, hz1, hz2⟩ := info_parts infoU8
  have hb := hK.lt
  have l1 : (Txt.take t s 87).pos ≤ t.size := Txt.take_le (by omega) hs
  have tk0 := fun W h => take_any t s 87 b W h (by omega) hs ht
  obtain ⟨Q1, hQ1⟩ : ∃ Q, Q = Txt.take t s 87 := ⟨_, rfl⟩
  rw [← hQ1] at l1 tk0 ⊢
  clear hQ1
  have l2 : (Txt.take t Q1 32).pos ≤ t.size := Txt.take_le (by omega) l1
  have tk1 := fun W h => take_any t Q1 32 b W h (by omega) l1 ht
  obtain ⟨Q, hQ⟩ : ∃ Q, Q = Txt.take t Q1 32 := ⟨_, rfl⟩
  rw [← hQ] at l2 tk1 ⊢
  clear hQ
  have tk2 := fun W h => take_any t (chS t Q 24) 10 b W h (by omega) (chS_le l2 24) ht
  go_enter Tryz.func57, Tryz.ntmps57
  go_wp2_with (first
    | (go_at_call 16; have _ := s1; refine (tk1 _ s1).mono ?_; rintro e w2 ⟨rfl, g2, s2⟩)
    | (go_at_call 16; refine (tk0 _ hK).mono ?_; rintro e w1 ⟨rfl, g1, s1⟩))
  go_loopw [3, 4] (fun v i wr => ∃ k : Nat, i = .int .i64 k ∧ k ≤ 24 ∧ wr.ownsRow w.heap.size 5 1 v k (u8s (chL t Q k)) ∧ w.grownBy wr (some b) ∧ ScanAt wr b t (chS t Q k)) (fun _ i _ => 24 - (intOf i).toNat)
  case atStart => exact ⟨0, rfl, by omega, World.ownsRow_nil _ _ _ _, grown_trans g1 g2, s2⟩
  case round =>
    clear g1 g2 s1 s2 tk0 tk1
    obtain ⟨k, rfl, hk, hown, hg, hsc⟩ := hrel
    by_cases hlt : k < 24
    · have cl := fun W h => class_any t (chS t Q k) b W h (chS_le l2 k) ht
      have HL : Hid (chL t Q (k + 1) = chL t Q k ++ [(cls t (chS t Q k)).1]) := rfl
      have HS : Hid (chS t Q (k + 1) = (cls t (chS t Q k)).2) := rfl
      obtain ⟨C, hC⟩ : ∃ C, C = cls t (chS t Q k) := ⟨_, rfl⟩
      rw [← hC] at cl HL HS
      clear hC tk2
      go_wp2_with (first
        | (go_at_call 82; refine (cl _ hsc).mono ?_; rintro e w3 ⟨rfl, g3, s3⟩; have own3 := own_grown hown g3 hb)
        | (at_builtin; refine wpList_append_own _ rfl _ _ 151 rfl w.heap.size 5 i0 (.int .u8 0) 1 1 Tryz.underlying151 hi hz0 hz1 hz2 rfl (by decide) _ _ _ rfl (own3.alloc _) ⟨w3.heap.size, 0, none⟩ 1 1 [.int .u8 C.1] rfl rfl (cell_one_new _ _ _) (fun x hx => by simp at hx; subst hx; rfl) (by unfold maxLen; omega) (by omega) (by have := hg.size; have := g3.size; simp; omega) ?_; intro v' w4 own4 g4 nil4))
      go_roundw
      case rel =>
        refine ⟨k + 1, by go_num, by omega, ?_, ?_, ?_⟩
        · rw [HL.out, u8s_snoc]; exact own4
        · exact grown_fresh (grown_alloc (grown_trans hg g3) _) g4 (fun j hj => (own3.lt j hj).1)
        · rw [HS.out]; exact (s3.alloc _).grown g4 (fun e => by have := (own3.lt b e).1; omega)
      case measure => simp [intOf]; omega
    · have hk24 : k = 24 := by omega
      subst hk24
      obtain ⟨g, cap, rfl, hg1, hg2⟩ := hown.form (by omega)
      go_wp2_with (first
        | (go_at_call 16; refine (tk2 _ hsc).mono ?_; rintro e w3 ⟨rfl, g3, s3⟩; have own3 := own_grown hown g3 hb; have cv := run_convert_bytes_arg w3 151 5 Tryz.underlying151 Tryz.underlying5 g 0 24 cap (chL t Q 24) (chL_length t Q 24) (fun i hi => by
            have hil : i < (chL t Q 24).length := (by rw [chL_length]; exact hi)
            rw [Nat.zero_add, own3.cellAt i (by omega)]; simp [u8s, List.getElem?_eq_getElem hil]) 9 Tryz.underlying9))
      go_ret
      exact ⟨rfl, grown_trans hg g3, s3⟩

end Go.Proofs.YtjaffmmocbplaabGreatDoor

namespace Go.Proofs.YtjaffmmocbplaabGreatDoor
open Go.RowKit
set_option linter.unusedVariables false

theorem cls_bad {t : ByteArray} {s : Txt.Sc} (h : s.bad = true) : (cls t s).2 = s := by
  unfold cls; rw [if_neg (by simp [h])]; show (⟨s.pos, true⟩ : Txt.Sc) = s; rw [← h]
theorem chS_bad {t : ByteArray} {s : Txt.Sc} {k : Nat} (h : (chS t s k).bad = true) : ∀ n, chS t s (k + n) = chS t s k
  | 0 => rfl
  | n + 1 => by show (cls t (chS t s (k + n))).2 = _; rw [chS_bad h n]; exact cls_bad h
theorem clsB_iff {c : Int} : clsB c = true ↔ 65 ≤ c ∧ c ≤ 67 := by simp [clsB]; omega
theorem cls_good {t : ByteArray} {s : Txt.Sc} (h : s.bad = false) (g : 65 ≤ Txt.byteAt t s.pos ∧ Txt.byteAt t s.pos ≤ 67) : cls t s = (Txt.byteAt t s.pos, ⟨s.pos + 1, false⟩) := by
  unfold cls; rw [if_pos ⟨h, clsB_iff.mpr g⟩]
theorem cls_none {t : ByteArray} {s : Txt.Sc} (g : ¬ (65 ≤ Txt.byteAt t s.pos ∧ Txt.byteAt t s.pos ≤ 67)) : cls t s = (0, ⟨s.pos, true⟩) := by
  unfold cls; rw [if_neg (fun q => g (clsB_iff.mp q.2))]
theorem cls_mono {t : ByteArray} {s : Txt.Sc} : s.pos ≤ (cls t s).2.pos := by unfold cls; split <;> simp
theorem chS_mono {t : ByteArray} {s : Txt.Sc} : ∀ n, s.pos ≤ (chS t s n).pos
  | 0 => Nat.le_refl _
  | n + 1 => Nat.le_trans (chS_mono n) cls_mono

set_option maxRecDepth 1000000 in
set_option maxHeartbeats 1000000 in
theorem penHours_any (t : ByteArray) (s : Txt.Sc) (b : Nat) (w : World) (hK : PenAt w b t s) (hs : s.pos ≤ t.size) (ht : t.size ≤ 100000) :
    Calls Tryz.prog 42 #[.pointer (some ⟨b, 0, none⟩)] w fun e w' => e = .returned (.string (t.extract (Txt.take t (Txt.take t s 87) 32).pos (chS t (Txt.take t (Txt.take t s 87) 32) 24).pos)) ∧ w.grownBy w' (some b) ∧ PenAt w' b t (Txt.take t (chS t (Txt.take t (Txt.take t s 87) 32) 24) 10) := by
  have l2 : (Txt.take t (Txt.take t s 87) 32).pos ≤ t.size := Txt.take_le (by omega) (Txt.take_le (by omega) hs)
  have lt0 : ∀ W, PenAt W b t s → Calls Tryz.prog 70 #[.pointer (some ⟨b, 0, none⟩), .string ⟨#[87, 32]⟩] W fun e w' => e = .returned (.tuple #[]) ∧ W.grownBy w' (some b) ∧ PenAt w' b t (Txt.take t (Txt.take t s 87) 32) := fun W h => lit_any t s ⟨#[87, 32]⟩ b W h hs ht (by show 2 ≤ 1000; omega)
  obtain ⟨Q, hQ⟩ : ∃ Q, Q = Txt.take t (Txt.take t s 87) 32 := ⟨_, rfl⟩
  rw [← hQ] at l2 lt0 ⊢
  clear hQ
  have lt1 : ∀ W, PenAt W b t (chS t Q 24) → Calls Tryz.prog 70 #[.pointer (some ⟨b, 0, none⟩), .string ⟨#[10]⟩] W fun e w' => e = .returned (.tuple #[]) ∧ W.grownBy w' (some b) ∧ PenAt w' b t (Txt.take t (chS t Q 24) 10) := fun W h => lit1_any t _ 10 b W h (chS_le l2 24) ht
  go_enter Tryz.func42, Tryz.ntmps42
  go_wp2_with (go_at_call 70; refine (lt0 _ hK).mono ?_; rintro e w1 ⟨rfl, g1, s1⟩; have q1 := s1.c1)
  go_loopw [4] (fun i wr => ∃ k : Nat, i = .int .i64 k ∧ k ≤ 24 ∧ w.grownBy wr (some b) ∧ PenAt wr b t (chS t Q k)) (fun i _ => 24 - (intOf i).toNat)
  case atStart => exact ⟨0, rfl, by omega, g1, s1⟩
  case round =>
    clear g1 s1 q1 lt0
    obtain ⟨k, rfl, hk, hg, hsc⟩ := hrel
    have hle := chS_le l2 k
    have hmo := chS_mono (t := t) (s := Q) k
    have hsc' := hsc
    obtain ⟨klt, k0, k1, k2, kf1, kf2⟩ := hsc'
    by_cases hlt : k < 24
    · have hlt' : (k : Int) < 24 := by omega
      cases hb : (chS t Q k).bad
      case false =>
        obtain ⟨c, hc⟩ : ∃ c, c = Txt.byteAt t (chS t Q k).pos := ⟨_, rfl⟩
        have hah : ∀ w1, PenAt w1 b t (chS t Q k) → Calls Tryz.prog 36 #[.pointer (some ⟨b, 0, none⟩)] w1 fun e w' => e = .returned (.int .i64 c) ∧ ∃ n, w' = w1.drewN n := fun w1 h1 => by rw [hc]; exact ahead_any t (chS t Q k) b w1 h1 ht
        have hfa := fun w h => fail_any t (chS t Q k) b w h
        rw [badI_false hb] at k2
        by_cases hcc : 65 ≤ c ∧ c ≤ 67
        · have HS : Hid (chS t Q (k + 1) = ⟨(chS t Q k).pos + 1, false⟩) := by show (cls t (chS t Q k)).2 = _; rw [cls_good hb (by rw [← hc]; exact hcc)]
          obtain ⟨c1, c2⟩ := hcc
          clear hc
          go_wp2_with (go_at_call 36; refine (hah _ hsc).mono ?_; rintro e w2 ⟨rfl, n1, rfl⟩)
          go_roundw
          case rel => exact ⟨k + 1, by go_num, by omega, grown_setCell (grown_drewN hg _) _, by rw [HS.out]; exact (hsc.drewN _).moved hb _ _ (by omega)⟩
          case measure => simp [intOf]; omega
        · have HS : Hid (chS t Q (k + 1) = ⟨(chS t Q k).pos, true⟩) := by show (cls t (chS t Q k)).2 = _; rw [cls_none (by rw [← hc]; exact hcc)]
          clear hc
          by_cases hc1 : 65 ≤ c
          all_goals
            try (have hc2 : 67 < c := by omega)
            clear hcc
            go_wp2_with (first | (go_at_call 36; refine (hah _ hsc).mono ?_; rintro e w2 ⟨rfl, n1, rfl⟩) | (go_at_call 72; refine (hfa _ (hsc.drewN _)).mono ?_; rintro e w3 ⟨rfl, g3, s3⟩))
            go_roundw
            case rel => exact ⟨k + 1, by go_num, by omega, grown_trans (grown_drewN hg _) g3, by rw [HS.out]; exact s3⟩
            case measure => simp [intOf]; omega
      case true =>
        have hend : chS t Q 24 = chS t Q k := by
          have := chS_bad hb (24 - k)
          rw [show k + (24 - k) = 24 by omega] at this; exact this
        rw [badI_true hb] at k2
        have hng : ¬ ((chS t Q k).pos : Int) < 0 := by omega
        rw [hend] at lt1
        have HEND : Hid (chS t Q 24 = chS t Q k) := hend
        have b1 : (0 : Int) ≤ (Q.pos : Int) := by omega
        have b2 : (Q.pos : Int) ≤ ((chS t Q k).pos : Int) := by omega
        have b3 : ((chS t Q k).pos : Int) ≤ (t.size : Int) := by omega
        clear hend
        go_wp2_with fail
        go_quiet (fail)
        go_wp2_with (go_at_call 70; refine (lt1 _ (hsc.drewN _)).mono ?_; rintro e w2 ⟨rfl, g2, s2⟩)
        go_ret
        exact ⟨by rw [HEND.out]; simp, grown_trans (grown_drewN hg _) g2, by rw [HEND.out]; exact s2⟩
    · have hk24 : k = 24 := by omega
      subst hk24
      have b1 : (0 : Int) ≤ (Q.pos : Int) := by omega
      have b2 : (Q.pos : Int) ≤ ((chS t Q 24).pos : Int) := by omega
      have b3 : ((chS t Q 24).pos : Int) ≤ (t.size : Int) := by omega
      go_wp2_with fail
      go_quiet (fail)
      go_wp2_with (go_at_call 70; refine (lt1 _ (hsc.drewN _)).mono ?_; rintro e w2 ⟨rfl, g2, s2⟩)
      go_ret
      exact ⟨by simp, grown_trans (grown_drewN hg _) g2, s2⟩

def hoursB (u : ByteArray) : Bool := decide (u.size = 24) && (u.data.toList.all fun c => clsB (c.toNat : Int))
theorem hours_take {u : ByteArray} {k : Nat} (h : k < u.size) : (u.data.toList.take (k + 1)).all (fun c => clsB (c.toNat : Int)) = ((u.data.toList.take k).all (fun c => clsB (c.toNat : Int)) && clsB (u[k].toNat : Int)) := by
  have hk : k < u.data.toList.length := by simpa using h
  rw [List.take_add_one, List.getElem?_eq_getElem hk]; simp; rfl
theorem hours_no {u : ByteArray} {k : Nat} (h : k < u.size) (g : clsB (u[k].toNat : Int) = false) : hoursB u = false := by
  have hk : k < u.data.toList.length := by simpa using h
  have : (u.data.toList.all fun c => clsB (c.toNat : Int)) = false := by
    rw [List.all_eq_false]
    exact ⟨u.data.toList[k], List.getElem_mem hk, by have e : u.data.toList[k] = u[k] := (by simp; rfl); rw [e, g]; simp⟩
  simp [hoursB, this]

set_option maxHeartbeats 1000000 in
theorem validHours_any (u : ByteArray) (w : World) (hu : u.size ≤ maxLen) :
    Calls Tryz.prog 62 #[.string u] w fun e w' => e = .returned (.bool (hoursB u)) ∧ w' = w := by
  unfold maxLen at hu
  by_cases h24 : u.size = 24
  · have hB : ((u.size : Int) != 24) = false := by simp; omega
    have HB : Hid (hoursB u = (u.data.toList.all fun c => clsB (c.toNat : Int))) := by show _ = _; simp [hoursB, h24]
    go_enter Tryz.func62, Tryz.ntmps62
    go_wp2_with fail
    go_loop [3] (fun i => ∃ k : Nat, i = .int .i64 k ∧ k ≤ u.size ∧ (u.data.toList.take k).all (fun c => clsB (c.toNat : Int)) = true) (fun i => u.size - (intOf i).toNat)
    case atStart => exact ⟨0, rfl, by omega, by simp⟩
    case round =>
      obtain ⟨k, rfl, hk, hall⟩ := hrel
      by_cases hlt : k < u.size
      · have hlt' : (k : Int) < (u.size : Int) := by omega
        have hk0 : (0 : Int) ≤ (k : Int) := by omega
        cases hc : clsB (u[k].toNat : Int)
        case true =>
          have HA : Hid ((u.data.toList.take (k + 1)).all (fun c => clsB (c.toNat : Int)) = true) := by show _ = _; rw [hours_take hlt, hall, hc]; rfl
          clear hall
          go_wp2_with (go_at_call 85; refine (isClass_any _ _).mono ?_; rintro e w' ⟨rfl, rfl⟩)
          go_round
          case rel => exact ⟨k + 1, by go_num, by omega, HA.out⟩
          case measure => simp [intOf]; omega
        case false =>
          have HA : Hid (hoursB u = false) := hours_no hlt hc
          clear hall
          go_wp2_with (go_at_call 85; refine (isClass_any _ _).mono ?_; rintro e w' ⟨rfl, rfl⟩)
          go_ret
          exact ⟨ret_bool HA.out.symm, rfl⟩
      · have hlt' : ¬ (k : Int) < (u.size : Int) := by omega
        have HA : Hid (hoursB u = true) := by show _ = _; rw [HB.out]; rw [List.take_of_length_le (by simp; omega)] at hall; exact hall
        clear hall
        go_wp2_with fail
        go_ret
        exact ⟨ret_bool HA.out.symm, rfl⟩
  · have hB : ((u.size : Int) != 24) = true := by simp; omega
    have HB : Hid (hoursB u = false) := by show _ = _; simp [hoursB, h24]
    go_enter Tryz.func62, Tryz.ntmps62
    go_wp2_with fail
    go_ret
    exact ⟨ret_bool HB.out.symm, rfl⟩

end Go.Proofs.YtjaffmmocbplaabGreatDoor

namespace Go.Proofs.YtjaffmmocbplaabGreatDoor
set_option linter.unusedVariables false

structure Blk where
  x : Int
  y : Int
  z : Int
structure Trf where
  z : Zon.Zn
  days : Int
  gap : Int
  first : Int
  last : Int
  h0 : ByteArray
  h1 : ByteArray
  h2 : ByteArray
  h3 : ByteArray
  b0 : Blk
  b1 : Blk
  b2 : Blk
  d : Blk
  np : Int
  nn : Int
  fix : Int
  min : Int
  tax : Int
def blkB (b : Blk) : Bool := inB b.x 0 1000000 && inB b.y 0 100000 && inB b.z 0 100000
def dmdB (b : Blk) : Bool := inB b.x 0 1000000 && inB b.y 0 100 && inB b.z 0 12
/-- is line k of the tariff as it must be? -/
def lineB (t : Trf) (k : Nat) : Bool :=
  match k with
  | 0 => Zon.zoneB t.z
  | 1 => inB t.days 1 31 && inB t.gap 0 8
  | 2 => inB t.first 1 t.last && decide (t.last ≤ 12)
  | 3 => hoursB t.h0
  | 4 => hoursB t.h1
  | 5 => hoursB t.h2
  | 6 => hoursB t.h3
  | 7 => blkB t.b0
  | 8 => blkB t.b1
  | 9 => blkB t.b2
  | 10 => dmdB t.d
  | 11 => inB t.np 0 100000 && inB t.nn 0 12
  | _ => inB t.fix 0 1000000 && inB t.min 0 1000000 && inB t.tax 0 1000
/-- the first wrong one from k on, of f -/
def firstBad (p : Nat → Bool) : Nat → Nat → Nat
  | 0, k => k
  | f + 1, k => if p k then firstBad p f (k + 1) else k
def badN (t : Trf) : Nat := firstBad (lineB t) 13 0
theorem firstBad_at {p : Nat → Bool} : ∀ (f k n : Nat), k ≤ n → n < k + f → (∀ j, k ≤ j → j < n → p j = true) → p n = false → firstBad p f k = n
  | 0, k, n, h1, h2, _, _ => by omega
  | f + 1, k, n, h1, h2, h3, h4 => by
    unfold firstBad
    rcases Nat.lt_or_ge k n with g | g
    · rw [if_pos (h3 k (by omega) g)]; exact firstBad_at f (k + 1) n (by omega) (by omega) (fun j g1 g2 => h3 j (by omega) g2) h4
    · have : n = k := by omega
      subst this; rw [h4]; rfl
theorem firstBad_all {p : Nat → Bool} : ∀ (f k : Nat), (∀ j, k ≤ j → j < k + f → p j = true) → firstBad p f k = k + f
  | 0, k, _ => rfl
  | f + 1, k, h => by
    unfold firstBad
    rw [if_pos (h k (by omega) (by omega)), firstBad_all f (k + 1) (fun j g1 g2 => h j (by omega) (by omega))]; omega
theorem badN_at {t : Trf} {n : Nat} (hn : n < 13) (h : ∀ j, j < n → lineB t j = true) (h' : lineB t n = false) : badN t = n := firstBad_at 13 0 n (by omega) (by omega) (fun j _ g => h j g) h'
theorem badN_all {t : Trf} (h : ∀ j, j < 13 → lineB t j = true) : badN t = 13 := firstBad_all 13 0 (fun j _ g => h j (by omega))
theorem firstBad_facts {p : Nat → Bool} : ∀ (f k : Nat), k ≤ firstBad p f k ∧ firstBad p f k ≤ k + f ∧ (∀ j, k ≤ j → j < firstBad p f k → p j = true) ∧ (firstBad p f k < k + f → p (firstBad p f k) = false)
  | 0, k => ⟨Nat.le_refl _, Nat.le_refl _, fun j h1 h2 => by unfold firstBad at h2; omega, fun h => by unfold firstBad at h; omega⟩
  | f + 1, k => by
    unfold firstBad
    cases g : p k
    · simp only [Bool.false_eq_true, if_false]
      exact ⟨Nat.le_refl _, by omega, fun j h1 h2 => by omega, fun _ => g⟩
    · simp only [if_true]
      obtain ⟨a, b, c, d⟩ := firstBad_facts (p := p) f (k + 1)
      refine ⟨by omega, by omega, fun j h1 h2 => ?_, fun h => d (by omega)⟩
      rcases Nat.lt_or_ge k j with q | q
      · exact c j (by omega) h2
      · have : j = k := by omega
        subst this; exact g
theorem badN_le (t : Trf) : badN t ≤ 13 := by have := (firstBad_facts (p := lineB t) 13 0).2.1; unfold badN; omega
theorem badN_good {t : Trf} {j : Nat} (h : j < badN t) : lineB t j = true := (firstBad_facts (p := lineB t) 13 0).2.2.1 j (by omega) h
theorem badN_bad {t : Trf} (h : badN t < 13) : lineB t (badN t) = false := (firstBad_facts (p := lineB t) 13 0).2.2.2 (by unfold badN at h; omega)
end Go.Proofs.YtjaffmmocbplaabGreatDoor
