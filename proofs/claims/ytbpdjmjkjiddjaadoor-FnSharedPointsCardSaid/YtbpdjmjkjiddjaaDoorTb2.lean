/-
  Both tables of the program: turns and directions; the contracts that want both.
-/
import Derived.Test.YtbpdjmjkjiddjaaDoorCri
namespace Go.Proofs.YtbpdjmjkjiddjaaDoor.Base
open Go Go.RowKit
def Tabs (w : World) : Prop := (max 0 4 < w.heap.size) ∧ Cel w 0 [.int .i64 1, .int .i64 1, .int .i64 (-1), .int .i64 1, .int .i64 1, .int .i64 (-1)] ∧ Cel w 4 [.int .i64 (-1), .int .i64 (-1), .int .i64 1, .int .i64 (-1), .int .i64 (-1), .int .i64 1, .int .i64 1, .int .i64 1]
theorem Tabs.mk_ {w : World} (h1 : Cel w 0 [.int .i64 1, .int .i64 1, .int .i64 (-1), .int .i64 1, .int .i64 1, .int .i64 (-1)]) (h2 : Cel w 4 [.int .i64 (-1), .int .i64 (-1), .int .i64 1, .int .i64 (-1), .int .i64 (-1), .int .i64 1, .int .i64 1, .int .i64 1]) : Tabs w := ⟨by have := h1.1; have := h2.1; omega, h1, h2⟩
theorem Tabs.below {B : Nat} {w w' : World} (h : Tabs w) (hb : Below B w w') (hB : max 0 4 < B) : Tabs w' :=
  ⟨Nat.lt_of_lt_of_le h.1 hb.size, h.2.1.below hb (by omega), h.2.2.below hb (by omega)⟩
theorem Tabs.grownR {w w' : World} {r : Option Nat} (h : Tabs w) (g : w.grownBy w' r) (hne : ∀ p, p ≤ max 0 4 → r = some p → False) : Tabs w' :=
  Tabs.mk_ (h.2.1.grownR g (hne _ (by omega))) (h.2.2.grownR g (hne _ (by omega)))
end Go.Proofs.YtbpdjmjkjiddjaaDoor.Base
