/-
  SetBreak, spec's and the program's.
-/
import Derived.Test.YtbpdjmjkjiddjaaDoorOwn
namespace Go.Proofs.YtbpdjmjkjiddjaaDoor.Base
open Go.RowKit
set_option linter.unusedVariables false

/-- the code of SetBreak -/
def setC (W H : Int) (n : Nat) (f : Nat → Int) (x y z : Int) : Int := if validB W H n f && hasB W H x y && !inB z 0 2 then 2 else codeP W H n f x y
/-- the breaks with another one at k -/
def putF (f : Nat → Int) (k : Nat) (z : Int) : Nat → Int := fun i => if i = k then z else f i

/-- the boxes at the start: the panel's, the point's, the result's -/
structure Start (w W1 : World) (W H : Int) (A : Option Addr) (n c : Nat) (x y : Int) : Prop where
  bel : Below w.heap.size w W1
  box : Box W1 w.heap.size W H A n c
  dot : Dot W1 (w.heap.size + 1) x y
  r0 : W1.cell? ⟨w.heap.size + 1 + 1, 0, none⟩ = some (.int .i64 0)
  r1 : W1.cell? ⟨w.heap.size + 1 + 1, 1, none⟩ = some (.int .i64 0)
  r2 : W1.cell? ⟨w.heap.size + 1 + 1, 2, none⟩ = some (.slice none 0 0)
  f0 : W1.frozen? ⟨w.heap.size + 1 + 1, 0, none⟩ = false
  f1 : W1.frozen? ⟨w.heap.size + 1 + 1, 1, none⟩ = false
  f2 : W1.frozen? ⟨w.heap.size + 1 + 1, 2, none⟩ = false
  lt : w.heap.size + 1 + 1 < W1.heap.size
theorem Start.below {w W1 W2 : World} {W H : Int} {A : Option Addr} {n c : Nat} {x y : Int} (h : Start w W1 W H A n c x y) (b : Below W1.heap.size W1 W2) : Start w W2 W H A n c x y :=
  ⟨h.bel.trans (b.mono h.bel.size), h.box.below b h.box.1, h.dot.below b h.dot.1, (b.cell (p := ⟨w.heap.size + 1 + 1, 0, none⟩) h.lt).trans h.r0, (b.cell (p := ⟨w.heap.size + 1 + 1, 1, none⟩) h.lt).trans h.r1, (b.cell (p := ⟨w.heap.size + 1 + 1, 2, none⟩) h.lt).trans h.r2,
   (b.frozen (p := ⟨w.heap.size + 1 + 1, 0, none⟩) h.lt).trans h.f0, (b.frozen (p := ⟨w.heap.size + 1 + 1, 1, none⟩) h.lt).trans h.f1, (b.frozen (p := ⟨w.heap.size + 1 + 1, 2, none⟩) h.lt).trans h.f2, Nat.lt_of_lt_of_le h.lt b.size⟩
theorem Start.mk_ (w : World) (W H : Int) (A : Option Addr) (n c : Nat) (x y : Int) :
    Start w (((w.alloc (.cells #[.int .i64 W, .int .i64 H, .slice A n c] 35)).alloc (.cells #[.int .i64 x, .int .i64 y] 61)).alloc (.cells #[.int .i64 0, .int .i64 0, .slice none 0 0] 35)) W H A n c x y := by
  have hb := (Below.refl ((w.alloc (.cells #[.int .i64 W, .int .i64 H, .slice A n c] 35)).alloc (.cells #[.int .i64 x, .int .i64 y] 61)).heap.size _).alloc (Nat.le_refl _) (.cells #[.int .i64 0, .int .i64 0, .slice none 0 0] 35)
  have hx := two_boxes w 35 61 W H A n c x y
  have hd := Dot.new (w.alloc (.cells #[.int .i64 W, .int .i64 H, .slice A n c] 35)) 61 x y
  simp only [World.size_alloc] at hd
  exact ⟨by go_grown, hx.below hb hx.1, hd.below hb hd.1, by simp [go_sem], by simp [go_sem], by simp [go_sem], by simp [go_sem], by simp [go_sem], by simp [go_sem], by simp⟩

end Go.Proofs.YtbpdjmjkjiddjaaDoor.Base
