/-
  Slices of integers as lists of elements of one cell; the curves of all segments.
-/
import Derived.Test.YtbpdjmjkjiddjaaDoorWls
import Derived.Test.YtbpdjmjkjiddjaaDoorCta
namespace Go.Proofs.YtbpdjmjkjiddjaaDoor.Base
open Go.RowKit
set_option linter.unusedVariables false
set_option linter.unusedSimpArgs false


/-- the number of segments of a valid panel -/
def sgcN (W H : Int) (n : Nat) (f : Nat → Int) : Nat := (segN W H n f).toNat
noncomputable def sgcF (W H : Int) (f : Nat → Int) : Nat → Int := (trs W H f (4 * W * H).toNat).of
theorem sgc_wf {W H : Int} {n : Nat} {f : Nat → Int} (hv : validB W H n f = true) (i : Nat) : (Lit.int .i64 (sgcF W H f i)).wf = true := by
  obtain ⟨hW, hH, -, -⟩ := validB_yes hv
  obtain ⟨m0, m1⟩ := segs_bd hW hH
  obtain ⟨h1, h2, h3⟩ := trs_of_ge W H f (4 * W * H).toNat i
  exact WalkArith.wf_i64 (by unfold sgcF; omega)
theorem sgcN_no {W H : Int} {n : Nat} {f : Nat → Int} (hv : validB W H n f = false) : sgcN W H n f = 0 := by unfold sgcN; rw [(segN_no hv).1]; rfl
theorem sgcN_yes {W H : Int} {n : Nat} {f : Nat → Int} (hv : validB W H n f = true) : sgcN W H n f = (4 * W * H).toNat := by unfold sgcN; rw [(segN_yes hv).1]
theorem sgcN_le (W H : Int) (n : Nat) (f : Nat → Int) : sgcN W H n f ≤ 256 := by
  cases hv : validB W H n f
  · rw [sgcN_no hv]; omega
  · obtain ⟨hW, hH, -, -⟩ := validB_yes hv
    obtain ⟨m0, m1⟩ := segs_bd hW hH
    rw [sgcN_yes hv]; omega
end Go.Proofs.YtbpdjmjkjiddjaaDoor.Base
