/-
  Copies by append: spec's l00Own, the library's Clone.
-/
import Derived.Test.YtbpdjmjkjiddjaaMark
import Derived.Deep.AppendLies
import Derived.Lib.SliceRun
namespace Go.Proofs.Ytbpdjmjkjiddjaa.Base
open Go.RowKit
set_option linter.unusedVariables false

/-- the numbers as cells -/
def cellsOfF (n : Nat) (f : Nat → Int) : List Value := (List.range n).map fun i => .int .i64 (f i)
theorem cellsOfF_len (n : Nat) (f : Nat → Int) : (cellsOfF n f).length = n := by simp [cellsOfF]
theorem cellsOfF_at {n : Nat} {f : Nat → Int} {i : Nat} (h : i < n) : (cellsOfF n f)[i]? = some (.int .i64 (f i)) := by simp [cellsOfF, h]
/-- the post of a function that makes a slice of its own -/
def SliceOut (n : Nat) (f : Nat → Int) (w : World) (e : Ending) (w' : World) : Prop :=
  ∃ A c, e = .returned (.slice A n c) ∧ OwnRow w' w.heap.size A n c f ∧ Below w.heap.size w w'
theorem ownRow_of_owns {w : World} {base n : Nat} {f : Nat → Int} {v : Value} {e : TypeId} (h : w.ownsRow base e 1 v n (cellsOfF n f)) (hn : 0 < n) (hw : ∀ i, i < n → (Lit.int .i64 (f i)).wf = true) :
    ∃ A c, v = .slice A n c ∧ OwnRow w base A n c f := by
  have h0 := h
  rcases h0.2 with ⟨_, h0⟩ | ⟨g, cap, cur, rfl, hb, hg, hnc, hcm, hcs, ht⟩
  · omega
  · refine ⟨some ⟨g, 0, none⟩, cap, rfl, hnc, hcm, hw, fun _ => ⟨g, 0, rfl, hb, (Array.getElem?_eq_some_iff.1 hg).1, fun i hi => ?_⟩⟩
    rw [Nat.zero_add]
    exact ⟨(h.cellAt i (by omega)).trans (cellsOfF_at hi), h.frozenAt i⟩
theorem owns_empty (w : World) (e : TypeId) : (w.alloc (.cells #[] e)).ownsRow w.heap.size e 1 (.slice (some ⟨w.heap.size, 0, none⟩) 0 0) 0 [] :=
  ⟨rfl, .inr ⟨w.heap.size, 0, #[], rfl, Nat.le_refl _, heap_alloc_new w _, Nat.le_refl _, by unfold maxLen; omega, rfl, rfl⟩⟩

end Go.Proofs.Ytbpdjmjkjiddjaa.Base
