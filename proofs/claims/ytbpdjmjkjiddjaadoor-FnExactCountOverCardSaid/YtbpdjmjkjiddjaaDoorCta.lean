/-
  Tracing: the curve of a segment, and the curves of all segments: spec's and the program's.
-/
import Derived.Test.YtbpdjmjkjiddjaaDoorCtc
import Derived.Test.YtbpdjmjkjiddjaaDoorWlk
namespace Go.Proofs.YtbpdjmjkjiddjaaDoor.Base
open Go.RowKit
set_option linter.unusedVariables false
set_option linter.unusedSimpArgs false

theorem caV_0 {W H : Int} {n : Nat} {f : Nat → Int} {s : Int} (h : wtC W H n f s ≠ 0) : caV W H n f s = 0 := by simp [caV, h]
theorem caV_1 {W H : Int} {n : Nat} {f : Nat → Int} {s : Int} (h : wtC W H n f s = 0) : caV W H n f s = (trs W H f (4 * W * H).toNat).of s.toNat := by simp [caV, h]
end Go.Proofs.YtbpdjmjkjiddjaaDoor.Base
