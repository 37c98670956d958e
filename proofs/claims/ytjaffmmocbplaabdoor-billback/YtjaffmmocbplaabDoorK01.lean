/-
  DateW, DateX in one text.
-/
import Derived.Test.YtjaffmmocbplaabDoorDayW
import Derived.BigQuiet
import Derived.Deep.QuietTactic
import Derived.WalkSmall
namespace Go.Proofs.YtjaffmmocbplaabDoor
open Go.RowKit
set_option linter.unusedVariables false

theorem ret_two {a b : Int} {v : Value} (h : a = b) : Ending.returned (.tuple #[.int .i64 a, v]) = .returned (.tuple #[.int .i64 b, v]) := by rw [h]

end Go.Proofs.YtjaffmmocbplaabDoor

namespace Go.Proofs.YtjaffmmocbplaabDoor
open Go.RowKit
set_option linter.unusedVariables false

theorem bcell {W w1 : World} (hb : Below W.heap.size W w1) : (∀ b o, b < W.heap.size → w1.cell? ⟨b, o, none⟩ = W.cell? ⟨b, o, none⟩) ∧ (∀ b o, b < W.heap.size → w1.frozen? ⟨b, o, none⟩ = W.frozen? ⟨b, o, none⟩) :=
  ⟨fun b o h => hb.cell (p := ⟨b, o, none⟩) h, fun b o h => hb.frozen (p := ⟨b, o, none⟩) h⟩

/-- a new block behind what the call has made so far -/
theorem below_more {W w : World} (h : Below W.heap.size W w) (o : Obj) : Below W.heap.size W (w.alloc o) := h.alloc h.size o
/-- a call behind what the call has made so far -/
theorem below_then {W w w' : World} (h : Below W.heap.size W w) (h' : Below w.heap.size w w') : Below W.heap.size W w' := h.trans (h'.mono h.size)

theorem ret_date {a b c : Int} {v : Value} {a' b' c' : Int} (h : a = a') (h' : b = b') (h'' : c = c') : Ending.returned (.tuple #[.int .i64 a, .int .i64 b, .int .i64 c, v]) = .returned (.tuple #[.int .i64 a', .int .i64 b', .int .i64 c', v]) := by rw [h, h', h'']

/-- what Date answers, as numbers -/
theorem date_of (n : Int) (h1 : 0 ≤ n) (h2 : n ≤ 36524) : ∃ y m d : Int, Cal.Ok y m d ∧ y ≤ 2099 ∧ Cal.num y m d = n := by
  obtain ⟨y, m, d, hok, hn⟩ : ∃ y m d : Int, Cal.Ok y m d ∧ Cal.num y m d = n := Cal.date_ex n h1
  exact ⟨y, m, d, hok, Cal.num_year hok (by omega), hn⟩
set_option maxHeartbeats 400000 in
theorem num_any (n : Int) (w : World) :
    Calls Tryd.prog 11 #[.int .i64 n] w fun e w' => e = .returned (.int .i64 n) ∧ w' = w := by
  go_enter Tryd.func11, Tryd.ntmps11
  go_wp2
  go_ret
  exact ⟨rfl, rfl⟩

/-- the day behind a date -/
def aft (y m d : Int) : Int × Int × Int := if d < Cal.md y m then (y, m, d + 1) else if m < 12 then (y, m + 1, 1) else (y + 1, 1, 1)
theorem aft_ok {y m d : Int} (h : Cal.Ok y m d) : Cal.Ok (aft y m d).1 (aft y m d).2.1 (aft y m d).2.2 ∧ Cal.num (aft y m d).1 (aft y m d).2.1 (aft y m d).2.2 = Cal.num y m d + 1 := by
  have h' := h
  obtain ⟨a, b, c, e, f⟩ := h'
  by_cases hd : d < Cal.md y m
  · have e1 : aft y m d = (y, m, d + 1) := by simp [aft, hd]
    rw [e1]; exact Cal.next_day h hd
  · by_cases hm : m < 12
    · have e1 : aft y m d = (y, m + 1, 1) := by simp [aft, hd, hm]
      have q := Cal.next_month h (by omega) hm
      rw [e1]; exact q
    · have e1 : aft y m d = (y + 1, 1, 1) := by simp [aft, hd, hm]
      have q := Cal.next_year h (by omega) (by omega)
      rw [e1]; exact q

end Go.Proofs.YtjaffmmocbplaabDoor
