/-
  CountSegments, SegmentOf, BackWalker: spec's and the program's.
-/
import Derived.Test.YtfkodbpkfoecoaaDoorWlkB
namespace Go.Proofs.YtfkodbpkfoecoaaDoor.Base
open Go.RowKit
set_option linter.unusedVariables false

def segs (W H : Int) : Int := 4 * W * H
def segN (W H : Int) (n : Nat) (f : Nat → Int) : Int := if validB W H n f then segs W H else 0
def okC (W H : Int) (n : Nat) (f : Nat → Int) : Int := if validB W H n f then 0 else 1
theorem segs_bd {W H : Int} (hW : sideB W = true) (hH : sideB H = true) : 0 ≤ 4 * W * H ∧ 4 * W * H ≤ 256 := by
  obtain ⟨a1, a2⟩ := side_mk hW
  obtain ⟨b1, b2⟩ := side_mk hH
  exact ⟨Int.mul_nonneg (by omega) (by omega), Int.mul_le_mul (show 4 * W ≤ 32 by omega) b2 (by omega) (by omega)⟩
theorem segN_yes {W H : Int} {n : Nat} {f : Nat → Int} (h : validB W H n f = true) : segN W H n f = 4 * W * H ∧ okC W H n f = 0 := by simp [segN, okC, segs, h]
theorem segN_no {W H : Int} {n : Nat} {f : Nat → Int} (h : validB W H n f = false) : segN W H n f = 0 ∧ okC W H n f = 1 := by simp [segN, okC, h]

theorem implSegs (w : World) (W H : Int) (hW : sideB W = true) (hH : sideB H = true) :
    Calls Tryd.prog 100 #[.agg #[.int .i64 W, .int .i64 H]] w (Gives (.int .i64 (4 * W * H)) w) := by
  obtain ⟨m0, m1⟩ := segs_bd hW hH
  obtain ⟨a1, a2⟩ := side_mk hW
  obtain ⟨b1, b2⟩ := side_mk hH
  clear hW hH
  go_enter Tryd.func100, Tryd.ntmps100
  go_wp2
  go_ret
  exact ⟨rfl, by go_grown⟩

end Go.Proofs.YtfkodbpkfoecoaaDoor.Base
