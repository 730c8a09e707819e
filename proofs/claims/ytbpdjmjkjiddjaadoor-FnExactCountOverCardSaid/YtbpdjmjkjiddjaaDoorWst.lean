/-
  WalkSteps: spec's, at a valid walker and a number of steps in range.
-/
import Derived.Test.YtbpdjmjkjiddjaaDoorTrn
import Derived.Test.YtbpdjmjkjiddjaaDoorItr
namespace Go.Proofs.YtbpdjmjkjiddjaaDoor.Base
open Go.RowKit
set_option linter.unusedVariables false
set_option linter.unusedSimpArgs false

def cs4 (v : W4) : List Value := [.int .i64 v.1, .int .i64 v.2.1, .int .i64 v.2.2.1, .int .i64 v.2.2.2]
theorem at_set4 {w : World} {p : Nat} {cs : Array Value} {T : TypeId} {a b c d : Value} (h : At w p cs T) (hs : cs.size = 4) :
    At ((((w.setCell ⟨p, 0, none⟩ a).setCell ⟨p, 1, none⟩ b).setCell ⟨p, 2, none⟩ c).setCell ⟨p, 3, none⟩ d) p #[a, b, c, d] T := by
  have h4 := (((h.set 0 a).set 1 b).set 2 c).set 3 d
  obtain ⟨l⟩ := cs
  match l, hs with
  | [_, _, _, _], _ => exact h4
section
variable {w w1 : World} {W H x y dx dy : Int} {A : Option Addr} {n c : Nat} {f : Nat → Int}
theorem at_below3 (b1 : Below (((w.alloc (.cells #[.int .i64 W, .int .i64 H, .slice A n c] 35)).alloc (.cells #[.int .i64 x, .int .i64 y, .int .i64 dx, .int .i64 dy] 131)).alloc (.cells #[.int .i64 0, .int .i64 0, .int .i64 0, .int .i64 0] 131)).heap.size (((w.alloc (.cells #[.int .i64 W, .int .i64 H, .slice A n c] 35)).alloc (.cells #[.int .i64 x, .int .i64 y, .int .i64 dx, .int .i64 dy] 131)).alloc (.cells #[.int .i64 0, .int .i64 0, .int .i64 0, .int .i64 0] 131)) w1) : At w1 (w.heap.size + 1) (cs4 (x, y, dx, dy)).toArray 131 := by
  have h := ((At.new (w.alloc (.cells #[.int .i64 W, .int .i64 H, .slice A n c] 35)) #[.int .i64 x, .int .i64 y, .int .i64 dx, .int .i64 dy] 131).below ((Below.refl _ _).alloc (Nat.le_refl _) (.cells #[.int .i64 0, .int .i64 0, .int .i64 0, .int .i64 0] 131)) (by simp)).below b1 (by simp)
  simpa [cs4] using h
theorem at_below2 (b1 : Below (((w.alloc (.cells #[.int .i64 W, .int .i64 H, .slice A n c] 35)).alloc (.cells #[.int .i64 x, .int .i64 y, .int .i64 dx, .int .i64 dy] 131)).alloc (.cells #[.int .i64 0, .int .i64 0, .int .i64 0, .int .i64 0] 131)).heap.size (((w.alloc (.cells #[.int .i64 W, .int .i64 H, .slice A n c] 35)).alloc (.cells #[.int .i64 x, .int .i64 y, .int .i64 dx, .int .i64 dy] 131)).alloc (.cells #[.int .i64 0, .int .i64 0, .int .i64 0, .int .i64 0] 131)) w1) : At w1 (w.heap.size + 1 + 1) #[.int .i64 0, .int .i64 0, .int .i64 0, .int .i64 0] 131 := by
  have h := (At.new ((w.alloc (.cells #[.int .i64 W, .int .i64 H, .slice A n c] 35)).alloc (.cells #[.int .i64 x, .int .i64 y, .int .i64 dx, .int .i64 dy] 131)) #[.int .i64 0, .int .i64 0, .int .i64 0, .int .i64 0] 131).below b1 (by simp)
  simpa using h
theorem box_ext {p : Nat} {X : List Nat} {w2 : World} (h : Box w1 p W H A n c) (e : Ext X w1 w2) (hx : p ∉ X) : Box w2 p W H A n c :=
  ⟨Nat.lt_of_lt_of_le h.1 e.size, e.cell h.2.1 hx, e.cell h.2.2.1 hx, e.cell h.2.2.2 hx⟩
theorem row_ext {w2 : World} (h : Row .i64 w A n c f) (b : Below w.heap.size w w1) (e : Ext [w.heap.size + 1] w1 w2) : Row .i64 w2 A n c f :=
  h.below (b.trans (e.below (by simp) b.size)) (Nat.le_refl _)
end

end Go.Proofs.YtbpdjmjkjiddjaaDoor.Base
