/-
  Slices of walkers: rows of elements of several cells; the laws' equality, marks.
-/
import Derived.Test.YtdofeonkgaceeaaDoorWlkC
import Derived.Test.YtdofeonkgaceeaaDoorNum
namespace Go.Proofs.YtdofeonkgaceeaaDoor.Base
open Go.RowKit
set_option linter.unusedVariables false
set_option linter.unusedSimpArgs false

/-- a slice of n elements of s integers each, in memory -/
def RowS (s : Nat) (w : World) (A : Option Addr) (n c : Nat) (f : Nat → Int) : Prop :=
  n ≤ c ∧ c ≤ maxLen ∧ (∀ i, i < n * s → (Lit.int .i64 (f i)).wf = true) ∧
  (0 < n → ∃ b o, A = some ⟨b, o, none⟩ ∧ b < w.heap.size ∧ ∀ i, i < n * s → w.cell? ⟨b, o + i, none⟩ = some (.int .i64 (f i)))
def OwnS (s : Nat) (w : World) (base : Nat) (A : Option Addr) (n c : Nat) (f : Nat → Int) : Prop :=
  n ≤ c ∧ c ≤ maxLen ∧ (∀ i, i < n * s → (Lit.int .i64 (f i)).wf = true) ∧
  (0 < n → ∃ b o, A = some ⟨b, o, none⟩ ∧ base ≤ b ∧ b < w.heap.size ∧ ∀ i, i < n * s → w.cell? ⟨b, o + i, none⟩ = some (.int .i64 (f i)) ∧ w.frozen? ⟨b, o + i, none⟩ = false)
section
variable {s : Nat} {w w' : World} {base : Nat} {A : Option Addr} {n c : Nat} {f : Nat → Int}
theorem OwnS.row (h : OwnS s w base A n c f) : RowS s w A n c f :=
  ⟨h.1, h.2.1, h.2.2.1, fun hn => by obtain ⟨b, o, e, _, hb, hc⟩ := h.2.2.2 hn; exact ⟨b, o, e, hb, fun i hi => (hc i hi).1⟩⟩
theorem RowS.below {B : Nat} (h : RowS s w A n c f) (hb : Below B w w') (hB : w.heap.size ≤ B) : RowS s w' A n c f :=
  ⟨h.1, h.2.1, h.2.2.1, fun hn => by
    obtain ⟨b, o, e, h1, h2⟩ := h.2.2.2 hn
    exact ⟨b, o, e, Nat.lt_of_lt_of_le h1 hb.size, fun i hi => (hb.cell (p := ⟨b, o + i, none⟩) (Nat.lt_of_lt_of_le h1 hB)).trans (h2 i hi)⟩⟩
theorem OwnS.below {B : Nat} (h : OwnS s w base A n c f) (hb : Below B w w') (hB : w.heap.size ≤ B) : OwnS s w' base A n c f :=
  ⟨h.1, h.2.1, h.2.2.1, fun hn => by
    obtain ⟨b, o, e, h0, h1, h2⟩ := h.2.2.2 hn
    exact ⟨b, o, e, h0, Nat.lt_of_lt_of_le h1 hb.size, fun i hi => ⟨(hb.cell (p := ⟨b, o + i, none⟩) (Nat.lt_of_lt_of_le h1 hB)).trans (h2 i hi).1, (hb.frozen (p := ⟨b, o + i, none⟩) (Nat.lt_of_lt_of_le h1 hB)).trans (h2 i hi).2⟩⟩⟩
end

end Go.Proofs.YtdofeonkgaceeaaDoor.Base
