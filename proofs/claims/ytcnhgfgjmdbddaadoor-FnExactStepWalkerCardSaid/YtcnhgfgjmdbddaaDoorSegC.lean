/-
  SegmentOf: spec's and the program's.
-/
import Derived.Test.YtcnhgfgjmdbddaaDoorSegB
namespace Go.Proofs.YtcnhgfgjmdbddaaDoor.Base
open Go.RowKit
set_option linter.unusedVariables false

theorem goNext {W H x y dx dy : Int} {n : Nat} {f : Nat → Int} (h : wkB W H n f x y dx dy = true) : hasB W H (x + dx) (y + dy) = true ∧ 0 ≤ x + dx ∧ x + dx ≤ 16 ∧ 0 ≤ y + dy ∧ y + dy ≤ 16 := by
  obtain ⟨hv, hg⟩ := wk_valid h
  obtain ⟨hW, hH, -, -⟩ := validB_yes hv
  obtain ⟨g1, g2, g3, g4⟩ := go_yes hg
  obtain ⟨x1, x2, y1, y2⟩ := has_bd hW hH g4
  exact ⟨g4, x1, x2, y1, y2⟩

end Go.Proofs.YtcnhgfgjmdbddaaDoor.Base
