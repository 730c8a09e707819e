/-
  Walkers: signs, the next point, is there such a walker; spec's and the program's.
-/
import Derived.Test.YtfkodbpkfoecoaaDoorPtB
import Derived.Test.YtfkodbpkfoecoaaDoorNumB
namespace Go.Proofs.YtfkodbpkfoecoaaDoor.Base
open Go.RowKit
set_option linter.unusedVariables false

def signB (d : Int) : Bool := decide (d = 1 ∨ d = -1)
def goB (W H x y dx dy : Int) : Bool := signB dx && signB dy && hasB W H x y && hasB W H (x + dx) (y + dy)
def wkB (W H : Int) (n : Nat) (f : Nat → Int) (x y dx dy : Int) : Bool := validB W H n f && goB W H x y dx dy
def wkC (W H : Int) (n : Nat) (f : Nat → Int) (x y dx dy : Int) : Int := if wkB W H n f x y dx dy then 0 else 1
theorem sign_yes {d : Int} (h : signB d = true) : d = 1 ∨ d = -1 := of_decide_eq_true h
theorem sign_no {d : Int} (h : signB d = false) : d ≠ 1 ∧ d ≠ -1 := by have := of_decide_eq_false h; omega
theorem sign_bd {d : Int} (h : signB d = true) : -1 ≤ d ∧ d ≤ 1 := by have := sign_yes h; omega

theorem specSign (d : Int) (w : World) : Calls Tryd.prog 123 #[.int .i64 d] w fun e w' => e = .returned (.bool (signB d)) ∧ w = w' := by
  by_cases h1 : d = 1
  · subst h1
    go_enter Tryd.func123, Tryd.ntmps123
    go_wp2
    go_ret
    exact ⟨rfl, rfl⟩
  · have e1 : (d == 1) = false := beq_eq_false_iff_ne.2 h1
    by_cases h2 : d = -1
    · subst h2
      go_enter Tryd.func123, Tryd.ntmps123
      go_wp2
      go_ret
      exact ⟨rfl, rfl⟩
    · have e2 : (d == -1) = false := beq_eq_false_iff_ne.2 h2
      have e : signB d = false := by simp [signB, h1, h2]
      rw [e]
      clear e
      go_enter Tryd.func123, Tryd.ntmps123
      go_wp2
      go_ret
      exact ⟨rfl, rfl⟩
theorem implSign (d : Int) (w : World) : Calls Tryd.prog 118 #[.int .i64 d] w fun e w' => e = .returned (.bool (signB d)) ∧ w = w' := by
  by_cases h1 : d = 1
  · subst h1
    go_enter Tryd.func118, Tryd.ntmps118
    go_wp2
    go_ret
    exact ⟨rfl, rfl⟩
  · have e1 : (d == 1) = false := beq_eq_false_iff_ne.2 h1
    by_cases h2 : d = -1
    · subst h2
      go_enter Tryd.func118, Tryd.ntmps118
      go_wp2
      go_ret
      exact ⟨rfl, rfl⟩
    · have e2 : (d == -1) = false := beq_eq_false_iff_ne.2 h2
      have e : signB d = false := by simp [signB, h1, h2]
      rw [e]
      clear e
      go_enter Tryd.func118, Tryd.ntmps118
      go_wp2
      go_ret
      exact ⟨rfl, rfl⟩

theorem specNext (w : World) (x y dx dy : Int) (x1 : 0 ≤ x) (x2 : x ≤ 16) (y1 : 0 ≤ y) (y2 : y ≤ 16) (hx : signB dx = true) (hy : signB dy = true) :
    Calls Tryd.prog 116 #[.agg #[.int .i64 x, .int .i64 y, .int .i64 dx, .int .i64 dy]] w (Gives (.agg #[.int .i64 (x + dx), .int .i64 (y + dy)]) w) := by
  obtain ⟨a1, a2⟩ := sign_bd hx
  obtain ⟨b1, b2⟩ := sign_bd hy
  clear hx hy
  go_enter Tryd.func116, Tryd.ntmps116
  go_wp2
  refine bodyPost_ret ?_ rfl ⟨rfl, ?_⟩
  · simp [results, Tryd.results116, go_sem]
  · go_grown
theorem implNext (w : World) (x y dx dy : Int) (x1 : 0 ≤ x) (x2 : x ≤ 16) (y1 : 0 ≤ y) (y2 : y ≤ 16) (hx : signB dx = true) (hy : signB dy = true) :
    Calls Tryd.prog 70 #[.agg #[.int .i64 x, .int .i64 y, .int .i64 dx, .int .i64 dy]] w (Gives (.agg #[.int .i64 (x + dx), .int .i64 (y + dy)]) w) := by
  obtain ⟨a1, a2⟩ := sign_bd hx
  obtain ⟨b1, b2⟩ := sign_bd hy
  clear hx hy
  go_enter Tryd.func70, Tryd.ntmps70
  go_wp2
  refine bodyPost_ret ?_ rfl ⟨rfl, ?_⟩
  · simp [results, Tryd.results70, go_sem]
  · go_grown
end Go.Proofs.YtfkodbpkfoecoaaDoor.Base
