/-
  The walks of the program's scanner: the letters of a tariff.
-/
import Derived.Test.YtjaffmmocbplaabValW
import Derived.Laws.BytesArg
import Derived.Deep.AppendLies
namespace Go.Proofs.Ytjaffmmocbplaab
open Go.RowKit
set_option linter.unusedVariables false

def clsB (c : Int) : Bool := decide (c = 65) || decide (c = 66) || decide (c = 67)
def cls (t : ByteArray) (s : Txt.Sc) : Int × Txt.Sc := if s.bad = false ∧ clsB (Txt.byteAt t s.pos) = true then (Txt.byteAt t s.pos, ⟨s.pos + 1, false⟩) else (0, ⟨s.pos, true⟩)
def chS (t : ByteArray) (s : Txt.Sc) : Nat → Txt.Sc
  | 0 => s
  | n + 1 => (cls t (chS t s n)).2
def chL (t : ByteArray) (s : Txt.Sc) : Nat → List Int
  | 0 => []
  | n + 1 => chL t s n ++ [(cls t (chS t s n)).1]
theorem clsB_bd {c : Int} (h : clsB c = true) : 65 ≤ c ∧ c ≤ 67 := by simp [clsB] at h; omega
theorem cls_le {t : ByteArray} {s : Txt.Sc} (h : s.pos ≤ t.size) : (cls t s).2.pos ≤ t.size := by
  unfold cls; split
  · rename_i g; have := clsB_bd g.2; have := Txt.lt_of_byteAt (t := t) (i := s.pos) (by omega); show s.pos + 1 ≤ t.size; omega
  · exact h
theorem chS_le {t : ByteArray} {s : Txt.Sc} (h : s.pos ≤ t.size) : ∀ n, (chS t s n).pos ≤ t.size
  | 0 => h
  | n + 1 => cls_le (chS_le h n)
theorem cls_bd (t : ByteArray) (s : Txt.Sc) : 0 ≤ (cls t s).1 ∧ (cls t s).1 ≤ 67 := by
  unfold cls; split
  · rename_i g; have := clsB_bd g.2; show 0 ≤ Txt.byteAt t s.pos ∧ Txt.byteAt t s.pos ≤ 67; omega
  · exact ⟨Int.le_refl _, by show (0 : Int) ≤ 67; omega⟩
theorem chL_length (t : ByteArray) (s : Txt.Sc) : ∀ n, (chL t s n).length = n
  | 0 => rfl
  | n + 1 => by simp [chL, chL_length t s n]

set_option maxHeartbeats 400000 in
theorem isClass_any (c : Int) (w : World) :
    Calls Try.prog 71 #[.int .u8 c] w fun e w' => e = .returned (.bool (clsB c)) ∧ w' = w := by
  by_cases h1 : c = 65
  · have b1 : (c == 65) = true := by simpa using h1
    go_enter Try.func71, Try.ntmps71
    go_wp2_with fail
    go_ret
    exact ⟨ret_bool (by simp [clsB, h1]), rfl⟩
  · have b1 : (c == 65) = false := by simpa using h1
    by_cases h2 : c = 66
    · have b2 : (c == 66) = true := by simpa using h2
      go_enter Try.func71, Try.ntmps71
      go_wp2_with fail
      go_ret
      exact ⟨ret_bool (by simp [clsB, h2]), rfl⟩
    · have b2 : (c == 66) = false := by simpa using h2
      go_enter Try.func71, Try.ntmps71
      go_wp2_with fail
      go_ret
      exact ⟨ret_bool (by simp [clsB, h1, h2]; rfl), rfl⟩

def u8s (l : List Int) : List Value := l.map (Value.int .u8)
theorem u8s_snoc (l : List Int) (x : Int) : u8s (l ++ [x]) = u8s l ++ [.int .u8 x] := by simp [u8s]
theorem infoU8 : (Try.prog.info? 5).map (fun i => (i.zero, i.size, i.bytes)) = some (some (.int .u8 0), 1, 1) := by kernel_rfl

end Go.Proofs.Ytjaffmmocbplaab
