/-
  CountBreaks, spec's and the program's.
-/
import Derived.Test.YtcnhgfgjmdbddaaPanB
import Derived.Test.YtcnhgfgjmdbddaaPtB
namespace Go.Proofs.Ytcnhgfgjmdbddaa.Base
open Go.RowKit
set_option linter.unusedVariables false

/-- how many of the first k are of a kind -/
def cntK (z : Int) (f : Nat → Int) : Nat → Int
  | 0 => 0
  | k + 1 => cntK z f k + (if f k = z then 1 else 0)
theorem cntK_bd (z : Int) (f : Nat → Int) (k : Nat) : 0 ≤ cntK z f k ∧ cntK z f k ≤ k := by
  induction k with
  | zero => simp [cntK]
  | succ k ih => simp only [cntK]; split <;> omega
def cntC (W H : Int) (n : Nat) (f : Nat → Int) (z : Int) : Int := if validB W H n f then (if inB z 0 2 then 0 else 2) else 1
def cntP (W H : Int) (n : Nat) (f : Nat → Int) (z : Int) : Int := if cntC W H n f z = 0 then cntK z f n else 0

theorem kind_any (z : Int) (w : World) : Calls Try.prog 44 #[.int .i64 z] w fun e w' => e = .returned (.bool (inB z 0 2)) ∧ w = w' := by
  go_enter Try.func44, Try.ntmps44
  go_wp2_with (go_at_call 68; refine (in_any _ _ _ _).mono ?_; rintro e w' ⟨rfl, rfl⟩)
  go_ret
  exact ⟨rfl, rfl⟩
theorem kind_is {z : Int} {v : Bool} (h : inB z 0 2 = v) (w : World) : Calls Try.prog 44 #[.int .i64 z] w fun e w' => e = .returned (.bool v) ∧ w = w' := by rw [← h]; exact kind_any z w
theorem isBreak_is {z : Int} {v : Bool} (h : inB z 0 2 = v) (w : World) : Calls Try.prog 50 #[.int .i64 z] w fun e w' => e = .returned (.bool v) ∧ w = w' := by rw [← h]; exact isBreak_any z w

end Go.Proofs.Ytcnhgfgjmdbddaa.Base
