/-
  impl's set of numbers, of any sign: a map from numbers to bools; has and add.
-/
import Derived.Test.YtgdmojkfpghmnaaMps
namespace Go.Proofs.Ytgdmojkfpghmnaa.Base
open Go Go.RowKit
set_option linter.unusedVariables false
/-- block b is a map of at most n entries that has the numbers of S -/
def SetZ (w : World) (b n : Nat) (S : Int → Bool) : Prop :=
  ∃ D : DataW Nat, w.ownsMap Try.prog 2 (plainElem Try.prog 4) b n D ∧ ∀ s : Int, (Lit.int .i64 s).wf = true → D.atKey (.int .i64 s) (.lit (.bool false)) = .lit (.bool (S s))
section
variable {w w' : World} {b n : Nat} {S : Int → Bool}
theorem SetZ.lt (h : SetZ w b n S) : b < w.heap.size := by
  obtain ⟨D, ⟨es, cl, hb, _⟩, _⟩ := h
  exact (Array.getElem?_eq_some_iff.1 hb).1
theorem SetZ.of_block (h : SetZ w b n S) (e : w'.heap[b]? = w.heap[b]?) : SetZ w' b n S := by
  obtain ⟨D, ⟨es, cl, hb, h1, h2, h3⟩, h4⟩ := h
  exact ⟨D, ⟨es, cl, e.trans hb, h1, h2, h3⟩, h4⟩
theorem SetZ.below {B : Nat} (h : SetZ w b n S) (hb : Below B w w') (hB : b < B) : SetZ w' b n S := h.of_block (hb.block b hB)
theorem SetZ.ext {X : List Nat} (h : SetZ w b n S) (he : Ext X w w') (hx : b ∉ X) : SetZ w' b n S := h.of_block (he.block b h.lt hx)
theorem SetZ.grown {r : Option Nat} (h : SetZ w b n S) (hg : w.grownBy w' r) (hne : some b ≠ r) : SetZ w' b n S := h.of_block (hg.block b h.lt hne)
theorem SetZ.congr {S' : Int → Bool} (h : SetZ w b n S) (e : ∀ s, S s = S' s) : SetZ w b n S' := by
  obtain ⟨D, h1, h2⟩ := h
  exact ⟨D, h1, fun s hs => by rw [← e]; exact h2 s hs⟩
theorem SetZ.new (w : World) : SetZ (w.alloc (.map #[] 0)) w.heap.size 0 (fun _ => false) :=
  ⟨.map [], World.ownsMap_made w Try.prog 2 (plainElem Try.prog 4), fun s _ => rfl⟩
end
/-- what add leaves -/
def AddedZ (b n : Nat) (S : Int → Bool) (z : Int) (w : World) (e : Ending) (w' : World) : Prop := (∃ v, e = .returned v) ∧ SetZ w' b (n + 1) (fun s => s == z || S s) ∧ w.grownBy w' (some b)
end Go.Proofs.Ytgdmojkfpghmnaa.Base
