/-
  A step: spec's.
-/
import Derived.Test.YtbpdjmjkjiddjaaWlk
namespace Go.Proofs.Ytbpdjmjkjiddjaa.Base
open Go.RowKit
set_option linter.unusedVariables false
set_option linter.unusedSimpArgs false

/-- how a point turns: a border as the mirror that lies along it -/
def tkOf (W H : Int) (f : Nat → Int) (x y : Int) : Int := if x = 0 ∨ x = 2 * W then 1 else if y = 0 ∨ y = 2 * H then 2 else f (numN W x y).toNat
def stDX (W H : Int) (f : Nat → Int) (x y dx dy : Int) : Int := if tkOf W H f (x + dx) (y + dy) = 1 then -dx else dx
def stDY (W H : Int) (f : Nat → Int) (x y dx dy : Int) : Int := if tkOf W H f (x + dx) (y + dy) = 2 then -dy else dy

end Go.Proofs.Ytbpdjmjkjiddjaa.Base
