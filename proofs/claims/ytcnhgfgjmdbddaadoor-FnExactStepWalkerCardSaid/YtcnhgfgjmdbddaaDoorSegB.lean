/-
  SegmentOf: spec's and the program's.
-/
import Derived.Test.YtcnhgfgjmdbddaaDoorBackB
import Derived.RegionTactic
namespace Go.Proofs.YtcnhgfgjmdbddaaDoor.Base
open Go.RowKit
set_option linter.unusedVariables false

def lowI (a d : Int) : Int := if d = 1 then a else a + d
def segOf (H x y dx dy : Int) : Int := lowI x dx * 2 * H + lowI y dy
def sgN (W H : Int) (n : Nat) (f : Nat → Int) (x y dx dy : Int) : Int := if wkB W H n f x y dx dy then segOf H x y dx dy else 0
theorem sgN_no {W H : Int} {n : Nat} {f : Nat → Int} {x y dx dy : Int} (h : wkB W H n f x y dx dy = false) : sgN W H n f x y dx dy = 0 := by simp [sgN, h]
theorem sgN_yes {W H : Int} {n : Nat} {f : Nat → Int} {x y dx dy : Int} (h : wkB W H n f x y dx dy = true) : sgN W H n f x y dx dy = segOf H x y dx dy := by simp [sgN, h]

theorem seg_mul {a H : Int} (h1 : 0 ≤ a) (h2 : a ≤ 16) (hH : sideB H = true) : 0 ≤ a * 2 * H ∧ a * 2 * H ≤ 256 := by
  obtain ⟨b1, b2⟩ := side_mk hH
  exact ⟨Int.mul_nonneg (by omega) (by omega), Int.mul_le_mul (show a * 2 ≤ 32 by omega) b2 (by omega) (by omega)⟩

end Go.Proofs.YtcnhgfgjmdbddaaDoor.Base
