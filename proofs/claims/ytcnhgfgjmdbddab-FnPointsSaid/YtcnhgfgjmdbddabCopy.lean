/-
  The laws' own helpers: copies of panels, how large they are, equality.
-/
import Derived.Test.YtcnhgfgjmdbddabPan
namespace Go.Proofs.Ytcnhgfgjmdbddab.Base
open Go.RowKit
set_option linter.unusedVariables false

theorem Box.below {w w' : World} {p B : Nat} {W H : Int} {A : Option Addr} {n c : Nat} (h : Box w p W H A n c) (hb : Below B w w') (hB : p < B) : Box w' p W H A n c :=
  ⟨Nat.lt_of_lt_of_le h.1 hb.size, (hb.cell (p := ⟨p, 0, none⟩) hB).trans h.2.1, (hb.cell (p := ⟨p, 1, none⟩) hB).trans h.2.2.1, (hb.cell (p := ⟨p, 2, none⟩) hB).trans h.2.2.2⟩
theorem Box.new (w : World) (t : TypeId) (W H : Int) (A : Option Addr) (n c : Nat) : Box (w.alloc (.cells #[.int .i64 W, .int .i64 H, .slice A n c] t)) w.heap.size W H A n c :=
  ⟨by simp, by simp [go_sem], by simp [go_sem], by simp [go_sem]⟩
/-- two boxes and what lies below: what go_region_held3 keeps -/
theorem keep6 {w w1 w2 : World} {p q r p' q' r' : Addr} {u v x u' v' x' : Value} (h : w1.cell? p = some u ∧ w1.cell? q = some v ∧ w1.cell? r = some x ∧ w1.cell? p' = some u' ∧ w1.cell? q' = some v' ∧ w1.cell? r' = some x' ∧ Below w.heap.size w w1)
    (b : Below w1.heap.size w1 w2) :
    w2.cell? p = some u ∧ w2.cell? q = some v ∧ w2.cell? r = some x ∧ w2.cell? p' = some u' ∧ w2.cell? q' = some v' ∧ w2.cell? r' = some x' ∧ Below w.heap.size w w2 :=
  ⟨(b.cell (World.block_lt_of_cell? _ _ h.1)).trans h.1, (b.cell (World.block_lt_of_cell? _ _ h.2.1)).trans h.2.1, (b.cell (World.block_lt_of_cell? _ _ h.2.2.1)).trans h.2.2.1,
    (b.cell (World.block_lt_of_cell? _ _ h.2.2.2.1)).trans h.2.2.2.1, (b.cell (World.block_lt_of_cell? _ _ h.2.2.2.2.1)).trans h.2.2.2.2.1, (b.cell (World.block_lt_of_cell? _ _ h.2.2.2.2.2.1)).trans h.2.2.2.2.2.1,
    h.2.2.2.2.2.2.trans (b.mono h.2.2.2.2.2.2.size)⟩
theorem row_keep6 {k : IntKind} {A : Option Addr} {n c : Nat} {f : Nat → Int} {w w1 : World} {p q r p' q' r' : Addr} {u v x u' v' x' : Value} (h : w1.cell? p = some u ∧ w1.cell? q = some v ∧ w1.cell? r = some x ∧ w1.cell? p' = some u' ∧ w1.cell? q' = some v' ∧ w1.cell? r' = some x' ∧ Below w.heap.size w w1)
    (R : Row k w A n c f) : Row k w1 A n c f := R.below h.2.2.2.2.2.2 (Nat.le_refl _)
theorem keep6d {w w1 : World} {p q : Nat} {W H W' H' : Int} {A A' : Option Addr} {n c n' c' : Nat} (h : Box w1 p W H A n c) (h' : Box w1 q W' H' A' n' c') (b : Below w.heap.size w w1) :
    w1.drew.cell? ⟨p, 0, none⟩ = some (.int .i64 W) ∧ w1.drew.cell? ⟨p, 1, none⟩ = some (.int .i64 H) ∧ w1.drew.cell? ⟨p, 2, none⟩ = some (.slice A n c) ∧
    w1.drew.cell? ⟨q, 0, none⟩ = some (.int .i64 W') ∧ w1.drew.cell? ⟨q, 1, none⟩ = some (.int .i64 H') ∧ w1.drew.cell? ⟨q, 2, none⟩ = some (.slice A' n' c') ∧ Below w.heap.size w w1.drew :=
  ⟨h.2.1, h.2.2.1, h.2.2.2, h'.2.1, h'.2.2.1, h'.2.2.2, b.drew⟩
end Go.Proofs.Ytcnhgfgjmdbddab.Base
