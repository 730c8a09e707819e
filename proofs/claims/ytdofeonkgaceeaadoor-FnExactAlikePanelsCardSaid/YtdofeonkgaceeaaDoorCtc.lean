/-
  Tracing: the numbers of curves, and the curve of a segment: spec's and the program's.
-/
import Derived.Test.YtdofeonkgaceeaaDoorTrd
namespace Go.Proofs.YtdofeonkgaceeaaDoor.Base
open Go.RowKit
set_option linter.unusedVariables false
set_option linter.unusedSimpArgs false

/-- the number of curves -/
noncomputable def cnN (W H : Int) (f : Nat → Int) : Nat := (trs W H f (4 * W * H).toNat).cnt
noncomputable def cnV (W H : Int) (n : Nat) (f : Nat → Int) : Int := if validB W H n f then (cnN W H f : Int) else 0
theorem cnV_no {W H : Int} {n : Nat} {f : Nat → Int} (h : validB W H n f = false) : cnV W H n f = 0 := by simp [cnV, h]
theorem cnV_yes {W H : Int} {n : Nat} {f : Nat → Int} (h : validB W H n f = true) : cnV W H n f = (cnN W H f : Int) := by simp [cnV, h]
theorem cnN_le {W H : Int} {n : Nat} {f : Nat → Int} (h : validB W H n f = true) : cnN W H f ≤ 256 := by
  obtain ⟨hW, hH, -, -⟩ := validB_yes h
  obtain ⟨m0, m1⟩ := segs_bd hW hH
  have := (trs_of_ge W H f (4 * W * H).toNat 0).2.2
  unfold cnN
  omega
section
variable {W H : Int} {A : Option Addr} {n c : Nat} {f : Nat → Int}
/-- the curve of a segment, and the code -/
noncomputable def caV (W H : Int) (n : Nat) (f : Nat → Int) (s : Int) : Int := if wtC W H n f s = 0 then (trs W H f (4 * W * H).toNat).of s.toNat else 0
noncomputable def sgB (W H : Int) (n : Nat) (f : Nat → Int) : Bool := validB W H n f && (cnV W H n f == 1)
end
end Go.Proofs.YtdofeonkgaceeaaDoor.Base
