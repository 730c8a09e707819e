/-
  TouchesOf: the program's.
-/
import Derived.Test.YtbpdjmjkjiddjaaDoorTch
import Derived.Test.YtbpdjmjkjiddjaaDoorStg
namespace Go.Proofs.YtbpdjmjkjiddjaaDoor.Base
open Go Go.RowKit
set_option linter.unusedVariables false
set_option linter.unusedSimpArgs false
attribute [local go_sem] Oper.semAt_some

section
variable (w : World) (W H : Int) (A : Option Addr) (n c : Nat) (f : Nat → Int) (s : Int)
/-- the program's memory while a curve is walked: the number of border points so far -/
structure TI (wL : World) (pn : Nat) (g : Nat → Nat) (w0 : World) (j : Nat) (w : World) : Prop where
  sz : wL.heap.size ≤ w.heap.size
  old : ∀ b, b < wL.heap.size → b ≠ pn → w.heap[b]? = wL.heap[b]?
  cnt : At w pn #[.int .i64 (g j : Int)] 2
  bel : Below w0.heap.size w0 w
end
theorem TI.b {wL w0 : World} {pn : Nat} {g : Nat → Nat} {j : Nat} {w w' : World} (h : TI wL pn g w0 j w) (hb : Below w.heap.size w w') : TI wL pn g w0 j w' :=
  ⟨Nat.le_trans h.sz hb.size, fun b h1 h2 => (hb.block b (Nat.lt_of_lt_of_le h1 h.sz)).trans (h.old b h1 h2), h.cnt.below hb h.cnt.lt, h.bel.trans (hb.mono h.bel.size)⟩
theorem holds_ti {wL w0 : World} {pn : Nat} {g : Nat → Nat} (hc : pn < wL.heap.size) (hw : w0.heap.size ≤ wL.heap.size) : HoldsY wL.heap.size (fun X j A => X = [pn] ∧ TI wL pn g w0 j A) where
  below := fun X k A A' h hb => ⟨h.1, h.2.b hb⟩
  put := fun X k A l o' h hl _ ho => ⟨h.1, by simpa using h.2.sz, fun b h1 h2 => (World.putObj_heap_other (by omega)).trans (h.2.old b h1 h2), at_put h.2.cnt ho, h.2.bel.grown (grownBy_putObj' _ _ _) h.2.bel.size (fun j e => by cases e; omega)⟩
  set := fun X k A b i u h hb _ => ⟨h.1, by simpa [World.setCell] using h.2.sz, fun b' h1 h2 => (Below.heap_setCell _ _ _ _ (by simp; omega)).trans (h.2.old b' h1 h2), h.2.cnt.setOther (a := ⟨b, i, none⟩) (show b ≠ pn by omega) u, h.2.bel.setCell (p := ⟨b, i, none⟩) (show w0.heap.size ≤ b by omega) u⟩

end Go.Proofs.YtbpdjmjkjiddjaaDoor.Base
