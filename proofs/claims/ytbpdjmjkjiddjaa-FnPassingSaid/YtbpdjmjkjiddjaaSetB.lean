/-
  SetBreak, the model's, where there is no fault.
-/
import Derived.Test.YtbpdjmjkjiddjaaSet
namespace Go.Proofs.Ytbpdjmjkjiddjaa.Base
open Go.RowKit
set_option linter.unusedVariables false

theorem setC_zero {W H : Int} {n : Nat} {f : Nat → Int} {x y z : Int} (h : setC W H n f x y z = 0) : validB W H n f = true ∧ hasB W H x y = true ∧ edgeB W H x y = false ∧ inB z 0 2 = true ∧ codeP W H n f x y = 0 := by
  have h2 : (validB W H n f && hasB W H x y && !inB z 0 2) = false := by
    cases e : (validB W H n f && hasB W H x y && !inB z 0 2)
    · rfl
    · simp only [setC, e, if_true] at h; omega
  have hc : codeP W H n f x y = 0 := by simpa only [setC, h2, Bool.false_eq_true, if_false] using h
  obtain ⟨hv, hh, he⟩ := code_zero hc
  refine ⟨hv, hh, he, ?_, hc⟩
  cases e : inB z 0 2
  · simp [hv, hh, e] at h2
  · rfl

/-- a store into a row of one's own -/
theorem OwnRow.put {w : World} {base b o n c : Nat} {f : Nat → Int} (h : OwnRow w base (some ⟨b, o, none⟩) n c f) {k : Nat} (hk : k < n) (z : Int) (hz : (Lit.int .i64 z).wf = true) :
    OwnRow (w.setCell ⟨b, o + k, none⟩ (.int .i64 z)) base (some ⟨b, o, none⟩) n c (putF f k z) := by
  refine ⟨h.1, h.2.1, fun i hi => ?_, fun hn => ?_⟩
  · unfold putF; split
    · exact hz
    · exact h.2.2.1 i hi
  · obtain ⟨b', o', e, h1, h2, hc⟩ := h.2.2.2 hn
    injection e with e
    injection e with e1 e2 e3
    subst e1 e2
    refine ⟨b, o, rfl, h1, by simpa [World.setCell] using h2, fun i hi => ⟨?_, by rw [World.frozen?_setCell]; exact (hc i hi).2⟩⟩
    unfold putF
    by_cases e : i = k
    · subst e
      rw [if_pos rfl]
      exact World.cell?_setCell_same _ _ _ (hc i hi).1
    · rw [if_neg e, World.cell?_setCell_other _ _ _ _ (fun h => e (by injection h; omega))]
      exact (hc i hi).1

theorem Start.belowB {w W1 W2 : World} {W H : Int} {A : Option Addr} {n c B : Nat} {x y : Int} (h : Start w W1 W H A n c x y) (b : Below B W1 W2) (hB : w.heap.size + 1 + 1 < B) : Start w W2 W H A n c x y :=
  ⟨h.bel.trans (b.mono (by omega)), h.box.below b (by omega), h.dot.below b (by omega), (b.cell (p := ⟨w.heap.size + 1 + 1, 0, none⟩) hB).trans h.r0, (b.cell (p := ⟨w.heap.size + 1 + 1, 1, none⟩) hB).trans h.r1, (b.cell (p := ⟨w.heap.size + 1 + 1, 2, none⟩) hB).trans h.r2,
   (b.frozen (p := ⟨w.heap.size + 1 + 1, 0, none⟩) hB).trans h.f0, (b.frozen (p := ⟨w.heap.size + 1 + 1, 1, none⟩) hB).trans h.f1, (b.frozen (p := ⟨w.heap.size + 1 + 1, 2, none⟩) hB).trans h.f2, Nat.lt_of_lt_of_le h.lt b.size⟩
theorem Box.setOther {w : World} {p : Nat} {W H : Int} {A : Option Addr} {n c : Nat} (h : Box w p W H A n c) {a : Addr} (ha : a.block ≠ p) (v : Value) : Box (w.setCell a v) p W H A n c :=
  ⟨by simpa [World.setCell] using h.1, by rw [World.cell?_setCell_other _ _ _ _ (fun e => ha (by rw [e]))]; exact h.2.1, by rw [World.cell?_setCell_other _ _ _ _ (fun e => ha (by rw [e]))]; exact h.2.2.1, by rw [World.cell?_setCell_other _ _ _ _ (fun e => ha (by rw [e]))]; exact h.2.2.2⟩

end Go.Proofs.Ytbpdjmjkjiddjaa.Base
