/-
  BreakAt and CountBreaks, spec's and the program's.
-/
import Derived.Test.YtfkodbpkfoecoaaDoorNumB
namespace Go.Proofs.YtfkodbpkfoecoaaDoor.Base
open Go.RowKit
set_option linter.unusedVariables false

def brkP (W H : Int) (n : Nat) (f : Nat → Int) (x y : Int) : Int := if codeP W H n f x y = 0 then f (numN W x y).toNat else 0
theorem code_zero {W H : Int} {n : Nat} {f : Nat → Int} {x y : Int} (hc : codeP W H n f x y = 0) : validB W H n f = true ∧ hasB W H x y = true ∧ edgeB W H x y = false := by
  have hv : validB W H n f = true := by
    cases h : validB W H n f
    · rw [(code_1 h).1] at hc; omega
    · rfl
  have hh : hasB W H x y = true := by
    cases h : hasB W H x y
    · rw [(code_2 hv h).1] at hc; omega
    · rfl
  refine ⟨hv, hh, ?_⟩
  cases h : edgeB W H x y
  · rfl
  · rw [(code_6 hv hh h).1] at hc; omega

theorem box_keep6 {w w1 : World} {p : Nat} {W H : Int} {A : Option Addr} {n c : Nat} {p' q' r' : Addr} {u' v' x' : Value} (h : w1.cell? ⟨p, 0, none⟩ = some (.int .i64 W) ∧ w1.cell? ⟨p, 1, none⟩ = some (.int .i64 H) ∧ w1.cell? ⟨p, 2, none⟩ = some (.slice A n c) ∧ w1.cell? p' = some u' ∧ w1.cell? q' = some v' ∧ w1.cell? r' = some x' ∧ Below w.heap.size w w1) :
    Box w1 p W H A n c := ⟨World.block_lt_of_cell? _ _ h.1, h.1, h.2.1, h.2.2.1⟩
end Go.Proofs.YtfkodbpkfoecoaaDoor.Base
