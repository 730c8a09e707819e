/-
  impl's set of segments or curves: a map from numbers to bools; has and add.
-/
import Derived.Test.YtgdmojkfpghmnaaShape
import Derived.Maps.OwnIn
import Derived.Maps.OwnSet
import Derived.Maps.Views
namespace Go.Proofs.Ytgdmojkfpghmnaa.Base
open Go.RowKit
set_option linter.unusedVariables false

/-- block b is a map of at most n entries that has the numbers of S -/
def SetIs (w : World) (b n : Nat) (S : Nat → Bool) : Prop :=
  ∃ D : DataW Nat, w.ownsMap Try.prog 2 (plainElem Try.prog 4) b n D ∧ ∀ s : Nat, D.atKey (.int .i64 s) (.lit (.bool false)) = .lit (.bool (S s))
section
variable {w w' : World} {b n : Nat} {S : Nat → Bool}
theorem SetIs.lt (h : SetIs w b n S) : b < w.heap.size := by
  obtain ⟨D, ⟨es, cl, hb, _⟩, _⟩ := h
  exact (Array.getElem?_eq_some_iff.1 hb).1
theorem SetIs.of_block (h : SetIs w b n S) (e : w'.heap[b]? = w.heap[b]?) : SetIs w' b n S := by
  obtain ⟨D, ⟨es, cl, hb, h1, h2, h3⟩, h4⟩ := h
  exact ⟨D, ⟨es, cl, e.trans hb, h1, h2, h3⟩, h4⟩
theorem SetIs.below {B : Nat} (h : SetIs w b n S) (hb : Below B w w') (hB : b < B) : SetIs w' b n S := h.of_block (hb.block b hB)
theorem SetIs.ext {X : List Nat} (h : SetIs w b n S) (he : Ext X w w') (hx : b ∉ X) : SetIs w' b n S := h.of_block (he.block b h.lt hx)
theorem SetIs.grown {r : Option Nat} (h : SetIs w b n S) (hg : w.grownBy w' r) (hne : some b ≠ r) : SetIs w' b n S := h.of_block (hg.block b h.lt hne)
theorem SetIs.congr {S' : Nat → Bool} (h : SetIs w b n S) (e : ∀ s, S s = S' s) : SetIs w b n S' := by
  obtain ⟨D, h1, h2⟩ := h
  exact ⟨D, h1, fun s => by rw [← e]; exact h2 s⟩
theorem SetIs.new (w : World) : SetIs (w.alloc (.map #[] 0)) w.heap.size 0 (fun _ => false) :=
  ⟨.map [], World.ownsMap_made w Try.prog 2 (plainElem Try.prog 4), fun s => rfl⟩
theorem bool_inv {P : Program} {e : TypeId} (he : P.underlying e = some .bool) {v : Value} {ps : List MemPlace} {d : Bool} (h : plainElem (H := Nat) P e v = some (.lit (.bool d), ps)) : v = .bool d := by
  unfold plainElem at h
  rw [he] at h
  cases v <;> simp at h
  next x => rw [h.1]
end
/-- what add leaves -/
def Added (b n : Nat) (S : Nat → Bool) (z : Nat) (w : World) (e : Ending) (w' : World) : Prop := (∃ v, e = .returned v) ∧ SetIs w' b (n + 1) (fun s => s == z || S s) ∧ w.grownBy w' (some b)
end Go.Proofs.Ytgdmojkfpghmnaa.Base
