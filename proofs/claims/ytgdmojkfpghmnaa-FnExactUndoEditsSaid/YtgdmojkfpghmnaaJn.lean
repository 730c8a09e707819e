/-
  The laws' own helpers for joined elements: copies, how large they are, equality, marks.
-/
import Derived.Test.YtgdmojkfpghmnaaWls
import Derived.Test.YtgdmojkfpghmnaaHeap
import Derived.Test.YtgdmojkfpghmnaaShape
import Derived.Test.YtgdmojkfpghmnaaSame
namespace Go.Proofs.Ytgdmojkfpghmnaa.Base
open Go Go.RowKit
set_option linter.unusedVariables false
set_option linter.unusedSimpArgs false

/-- the two rows do not lie in one block -/
def ApartR (A : Option Addr) (n : Nat) (B : Option Addr) (m : Nat) : Prop := 0 < n → 0 < m → ∀ b, blk A = some b → blk B = some b → False
/-- joined elements that the call has made -/
def OwnJ (w : World) (base : Nat) (A : Option Addr) (n c : Nat) (f : Nat → Int) (B : Option Addr) (m d : Nat) (g : Nat → Int) : Prop :=
  OwnRow w base A n c f ∧ OwnRow w base B m d g ∧ ApartR A n B m
def JnMade (n : Nat) (f : Nat → Int) (m : Nat) (g : Nat → Int) (w : World) (e : Ending) (w' : World) : Prop :=
  ∃ A c B d, e = .returned (.agg #[.slice A n c, .slice B m d]) ∧ OwnJ w' w.heap.size A n c f B m d g ∧ Below w.heap.size w w'
def JnOut (n : Nat) (f : Nat → Int) (m : Nat) (g : Nat → Int) (code : Int) (w : World) (e : Ending) (w' : World) : Prop :=
  ∃ A c B d, e = .returned (.tuple #[.agg #[.slice A n c, .slice B m d], .int .i64 code]) ∧ OwnJ w' w.heap.size A n c f B m d g ∧ Below w.heap.size w w'
theorem OwnRow.setLow {w : World} {base : Nat} {A : Option Addr} {n c : Nat} {f : Nat → Int} (h : OwnRow w base A n c f) {p : Nat} (hp : p < base) (i : Nat) (v : Value) : OwnRow (w.setCell ⟨p, i, none⟩ v) base A n c f :=
  ⟨h.1, h.2.1, h.2.2.1, fun hn => by
    obtain ⟨b, o, e, h1, h2, hc⟩ := h.2.2.2 hn
    refine ⟨b, o, e, h1, by simpa [World.setCell] using h2, fun j hj => ⟨?_, ?_⟩⟩
    · rw [World.cell?_setCell_other _ _ _ _ (fun e => by injection e; omega)]
      exact (hc j hj).1
    · rw [World.frozen?_setCell]
      exact (hc j hj).2⟩
theorem OwnJ.below {w w' : World} {base K : Nat} {A : Option Addr} {n c : Nat} {f : Nat → Int} {B : Option Addr} {m d : Nat} {g : Nat → Int} (h : OwnJ w base A n c f B m d g) (hb : Below K w w') (hB : w.heap.size ≤ K) : OwnJ w' base A n c f B m d g :=
  ⟨h.1.below hb hB, h.2.1.below hb hB, h.2.2⟩
/-- no other block has changed -/
def KeepsJ (w w' : World) (A : Option Addr) (n : Nat) (B : Option Addr) (m : Nat) : Prop :=
  w.heap.size ≤ w'.heap.size ∧ ∀ p, p < w.heap.size → (0 < n → blk A = some p → False) → (0 < m → blk B = some p → False) → w'.heap[p]? = w.heap[p]?
theorem Cel.kept {w w' : World} {A B : Option Addr} {n m p : Nat} {cs : List Value} (h : Cel w p cs) (k : KeepsJ w w' A n B m) (h1 : 0 < n → blk A = some p → False) (h2 : 0 < m → blk B = some p → False) : Cel w' p cs :=
  ⟨Nat.lt_of_lt_of_le h.1 k.1, fun i v hv => (World.cell?_of_block (a := ⟨p, i, none⟩) (k.2 p h.1 h1 h2)).trans (h.2 i v hv)⟩
theorem Row.kept {w w' : World} {A B C : Option Addr} {n m q c : Nat} {f : Nat → Int} (h : Row .i64 w C q c f) (k : KeepsJ w w' A n B m) (h1 : ∀ b, 0 < q → blk C = some b → 0 < n → blk A = some b → False) (h2 : ∀ b, 0 < q → blk C = some b → 0 < m → blk B = some b → False) : Row .i64 w' C q c f :=
  ⟨h.1, h.2.1, h.2.2.1, fun hn => by
    obtain ⟨b, o, e, hb, hc⟩ := h.2.2.2 hn
    have eb : blk C = some b := by rw [e]; rfl
    exact ⟨b, o, e, Nat.lt_of_lt_of_le hb k.1, fun i hi => (World.cell?_of_block (a := ⟨b, o + i, none⟩) (k.2 b hb (h1 b hn eb) (h2 b hn eb))).trans (hc i hi)⟩⟩
/-- joined elements whose numbers are counted -/
def MarkedJ (base : Nat) (A : Option Addr) (n c : Nat) (B : Option Addr) (m d : Nat) (k : Int) (w : World) (e : Ending) (w' : World) : Prop :=
  e = .returned (.int .i64 (k + n + m)) ∧ OwnJ w' base A n c (fun i => k + i) B m d (fun i => k + n + i) ∧ Below base w w' ∧ KeepsJ w w' A n B m
theorem Marked.belowB {B base : Nat} {w w' : World} {A : Option Addr} {n c : Nat} {f : Nat → Int} {r : Option Nat} (g : w.grownBy w' r) (h : ∀ b, r = some b → 0 < n ∧ blk A = some b) (ho : OwnRow w base A n c f) (hB : B ≤ base) (hs : base ≤ w.heap.size) : Below B w w' :=
  markedS_below g h (ownS_one.2 ho) hB hs
end Go.Proofs.Ytgdmojkfpghmnaa.Base
