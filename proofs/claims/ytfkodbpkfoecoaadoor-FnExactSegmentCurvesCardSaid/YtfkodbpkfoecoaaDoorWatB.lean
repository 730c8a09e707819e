/-
  WalkerAt: spec's and the program's.
-/
import Derived.Test.YtfkodbpkfoecoaaDoorWat
namespace Go.Proofs.YtfkodbpkfoecoaaDoor.Base
open Go.RowKit
set_option linter.unusedVariables false

theorem panel2 (w : World) (t : TypeId) (W H : Int) (A : Option Addr) (n c : Nat) (o : Obj) : Box ((w.alloc (.cells #[.int .i64 W, .int .i64 H, .slice A n c] t)).alloc o) w.heap.size W H A n c :=
  (Box.new w t W H A n c).below ((Below.refl _ _).alloc (Nat.le_refl _) _) (by simp)

end Go.Proofs.YtfkodbpkfoecoaaDoor.Base
