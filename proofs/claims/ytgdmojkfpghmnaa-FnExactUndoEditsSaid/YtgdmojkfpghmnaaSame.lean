/-
  SamePanel, spec's and the program's.
-/
import Derived.Test.YtgdmojkfpghmnaaPan
import Derived.Laws.StructEq
namespace Go.Proofs.Ytgdmojkfpghmnaa.Base
open Go.RowKit
set_option linter.unusedVariables false

def eqRows (n : Nat) (f : Nat → Int) (n' : Nat) (f' : Nat → Int) : Bool := decide (n = n') && (List.range n).all fun j => f j == f' j
theorem eqRows_len {n n' : Nat} {f f' : Nat → Int} (h : n ≠ n') : eqRows n f n' f' = false := by simp [eqRows, h]
theorem eqRows_no {n : Nat} {f f' : Nat → Int} {k : Nat} (hk : k < n) (h : f k ≠ f' k) : eqRows n f n f' = false := by
  cases e : eqRows n f n f'
  · rfl
  · simp [eqRows] at e
    exact absurd (e k hk) h
theorem eqRows_yes {n : Nat} {f f' : Nat → Int} (h : ∀ j, j < n → f j = f' j) : eqRows n f n f' = true := by
  simp [eqRows]
  exact h
def sameB (W H : Int) (n : Nat) (f : Nat → Int) (W' H' : Int) (n' : Nat) (f' : Nat → Int) : Bool := decide (W = W') && decide (H = H') && eqRows n f n' f'

theorem drewB (w : World) (m : Nat) : Below w.heap.size w (w.drewN m) := below_drewN (Below.refl _ _) m
theorem quiet_drew {P : Program} {f : FuncId} {args : Array Value} {w : World} {n : Nat} {v : Value}
    (h : Calls P f args (w.drewN n) (Drew v (w.drewN n))) : Calls P f args (w.drewN n) fun e w' => e = .returned v ∧ ∃ m, w' = w.drewN m :=
  h.mono fun _ _ ⟨m, he, hm⟩ => ⟨he, n + m, by rw [hm, World.drewN_drewN]⟩
theorem drew_gives {v : Value} {w w' : World} {e : Ending} (h : Drew v w e w') : Gives v w e w' := by
  obtain ⟨m, h1, h2⟩ := h
  exact ⟨h1, by rw [h2]; exact below_drewN (Below.refl _ _) m⟩

theorem box_two (w : World) (t : TypeId) (W H W' H' : Int) (A A' : Option Addr) (n c n' c' : Nat) :
    Box ((w.alloc (.cells #[.int .i64 W, .int .i64 H, .slice A n c] t)).alloc (.cells #[.int .i64 W', .int .i64 H', .slice A' n' c'] t)) w.heap.size W H A n c ∧
    Box ((w.alloc (.cells #[.int .i64 W, .int .i64 H, .slice A n c] t)).alloc (.cells #[.int .i64 W', .int .i64 H', .slice A' n' c'] t)) (w.heap.size + 1) W' H' A' n' c' := by
  refine ⟨(Box.new w t W H A n c).below ((Below.refl _ _).alloc (Nat.le_refl _) _) (by simp), ?_⟩
  have h := Box.new (w.alloc (.cells #[.int .i64 W, .int .i64 H, .slice A n c] t)) t W' H' A' n' c'
  rwa [World.size_alloc] at h

end Go.Proofs.Ytgdmojkfpghmnaa.Base
