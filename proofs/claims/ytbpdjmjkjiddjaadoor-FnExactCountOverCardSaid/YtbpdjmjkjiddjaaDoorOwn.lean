/-
  spec.l02Own: a copy of a panel.
-/
import Derived.Test.YtbpdjmjkjiddjaaDoorClone
import Derived.Test.YtbpdjmjkjiddjaaDoorNew
import Derived.Test.YtbpdjmjkjiddjaaDoorNum
namespace Go.Proofs.YtbpdjmjkjiddjaaDoor.Base
open Go.RowKit
set_option linter.unusedVariables false

set_option maxHeartbeats 4000000 in
theorem spec_l02Own (w : World) (p : Nat) (W H : Int) (A : Option Addr) (n c : Nat) (f : Nat → Int) (hb : Box w p W H A n c) (hr : Row .i64 w A n c f) (hn : 0 < n) (hn2 : n ≤ 1048576) :
    Calls Tryd.prog 67 #[.pointer (some ⟨p, 0, none⟩)] w (PanelMade W H n f w) := by
  have HR := Lib.hid hr
  have hbel : Below w.heap.size w (w.alloc (.cells #[.int .i64 0, .int .i64 0, .slice none 0 0] 35)) := (Below.refl _ _).alloc (Nat.le_refl _) _
  have HL := Lib.hid hbel
  have HX := Lib.hid (hb.below hbel hb.1)
  obtain ⟨hp, k0, k1, k2⟩ := hb
  clear hr hbel
  go_enter Tryd.func67, Tryd.ntmps67
  go_wp2
  first | (go_region_with (go_at_call 111; refine (spec_own _ A n c f ?_ hn hn2).mono ?_; exact HR.out.below HL.out.drew (Nat.le_refl _); rintro e w1 ⟨A', c', rfl, hO, b1⟩; have b1' := ((Below.refl _ (w.alloc (.cells #[.int .i64 0, .int .i64 0, .slice none 0 0] 35))).drew).trans b1; have HO := Lib.hid hO; have HB1 := Lib.hid b1'; obtain ⟨q0, q1, q2, f0, f1, f2, hB, hz⟩ := out_cells b1'; obtain ⟨-, x0, x1, x2⟩ := HX.out.below b1' HX.out.1; clear b1 b1' hO)) | fail
  all_goals go_wp2
  all_goals
    refine bodyPost_ret ?_ rfl ⟨A', c', rfl, (ownRow_setBox HO.out (by simp) _ _ _).mono (by simp), ((hB.setCell (by simp) _).setCell (by simp) _).setCell (by simp) _⟩
    simp [results, Tryd.results67, go_sem, q0, q1, q2]
end Go.Proofs.YtbpdjmjkjiddjaaDoor.Base
