/-
  Both tables of the program: turns and directions; the contracts that want both.
-/
import Derived.Test.YtajikegfladelaaDoorCri
namespace Go.Proofs.YtajikegfladelaaDoor.Base
open Go Go.RowKit
def Tabs (w : World) : Prop := (max 0 2 < w.heap.size) ∧ Cel w 0 [.int .i64 1, .int .i64 1, .int .i64 (-1), .int .i64 1, .int .i64 1, .int .i64 (-1)] ∧ Cel w 2 [.int .i64 (-1), .int .i64 (-1), .int .i64 1, .int .i64 (-1), .int .i64 (-1), .int .i64 1, .int .i64 1, .int .i64 1]
theorem Tabs.mk_ {w : World} (h1 : Cel w 0 [.int .i64 1, .int .i64 1, .int .i64 (-1), .int .i64 1, .int .i64 1, .int .i64 (-1)]) (h2 : Cel w 2 [.int .i64 (-1), .int .i64 (-1), .int .i64 1, .int .i64 (-1), .int .i64 (-1), .int .i64 1, .int .i64 1, .int .i64 1]) : Tabs w := ⟨by have := h1.1; have := h2.1; omega, h1, h2⟩
theorem Tabs.below {B : Nat} {w w' : World} (h : Tabs w) (hb : Below B w w') (hB : max 0 2 < B) : Tabs w' :=
  ⟨Nat.lt_of_lt_of_le h.1 hb.size, h.2.1.below hb (by omega), h.2.2.below hb (by omega)⟩
theorem impl_commonCrossingsT (w : World) (W H : Int) (A : Option Addr) (n c : Nat) (f : Nat → Int) (s t : Int) (hr : Row .i64 w A n c f) (hT : Tabs w) :
    Calls Tryd.prog 38 #[.agg #[.int .i64 W, .int .i64 H, .slice A n c], .int .i64 s, .int .i64 t] w (Gives (.tuple #[.int .i64 (ccV W H n f s t), .int .i64 (ccC W H n f s t)]) w) :=
  impl_commonCrossings w W H A n c f s t hr hT.2.1 hT.2.2
theorem impl_selfCrossingsT (w : World) (W H : Int) (A : Option Addr) (n c : Nat) (f : Nat → Int) (s : Int) (hr : Row .i64 w A n c f) (hT : Tabs w) :
    Calls Tryd.prog 36 #[.agg #[.int .i64 W, .int .i64 H, .slice A n c], .int .i64 s] w (Gives (.tuple #[.int .i64 (scV W H n f s), .int .i64 (cuC W H n f s)]) w) :=
  impl_selfCrossings w W H A n c f s hr hT.2.1 hT.2.2
end Go.Proofs.YtajikegfladelaaDoor.Base
