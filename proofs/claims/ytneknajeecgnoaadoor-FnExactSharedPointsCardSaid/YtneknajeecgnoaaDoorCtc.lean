/-
  Tracing: the numbers of curves, and the curve of a segment: spec's and the program's.
-/
import Derived.Test.YtneknajeecgnoaaDoorTrd
namespace Go.Proofs.YtneknajeecgnoaaDoor.Base
open Go.RowKit
set_option linter.unusedVariables false
set_option linter.unusedSimpArgs false

/-- the number of curves -/
noncomputable def cnN (W H : Int) (f : Nat → Int) : Nat := (trs W H f (4 * W * H).toNat).cnt
noncomputable def cnV (W H : Int) (n : Nat) (f : Nat → Int) : Int := if validB W H n f then (cnN W H f : Int) else 0
theorem cnV_no {W H : Int} {n : Nat} {f : Nat → Int} (h : validB W H n f = false) : cnV W H n f = 0 := by simp [cnV, h]
theorem cnV_yes {W H : Int} {n : Nat} {f : Nat → Int} (h : validB W H n f = true) : cnV W H n f = (cnN W H f : Int) := by simp [cnV, h]
theorem cnN_le {W H : Int} {n : Nat} {f : Nat → Int} (h : validB W H n f = true) : cnN W H f ≤ 256 := by
  obtain ⟨hW, hH, -, -⟩ := validB_yes h
  obtain ⟨m0, m1⟩ := segs_bd hW hH
  have := (trs_of_ge W H f (4 * W * H).toNat 0).2.2
  unfold cnN
  omega
section
variable {W H : Int} {A : Option Addr} {n c : Nat} {f : Nat → Int}
theorem impl_tracedBad (w : World) (hr : Row .i64 w A n c f) (hv : validB W H n f = false) :
    Calls Tryd.prog 43 #[.agg #[.int .i64 W, .int .i64 H, .slice A n c]] w (Gives (.tuple #[.agg #[.int .i64 0, .int .i64 0, .slice none 0 0, .slice none 0 0, .slice none 0 0], .int .i64 1]) w) := by
  have HL := Lib.hid (show Below w.heap.size w ((w.alloc (.cells #[.int .i64 W, .int .i64 H, .slice A n c] 26)).alloc (.cells #[.int .i64 0, .int .i64 0, .slice none 0 0, .slice none 0 0, .slice none 0 0] 73)) from ((Below.refl _ _).alloc (Nat.le_refl _) _).alloc (by simp) _)
  have HR := Lib.hid hr
  have HV := Lib.hid hv
  clear hr hv
  go_enter Tryd.func43, Tryd.ntmps43
  go_wp2_with fail
  refine (implOk_is HV.out (HR.out.below HL.out (Nat.le_refl _))).mono ?_
  rintro e w1 ⟨rfl, b1⟩
  obtain ⟨hc1, hf1⟩ := bcell b1
  go_wp2
  refine bodyPost_ret ?_ rfl ⟨rfl, (((((HL.out.trans (b1.mono (by first | exact Nat.le_refl _ | (simp; done) | (simp; omega) | omega))).setCell (by first | exact Nat.le_refl _ | (simp; done) | (simp; omega) | omega) _).setCell (by first | exact Nat.le_refl _ | (simp; done) | (simp; omega) | omega) _).setCell (by first | exact Nat.le_refl _ | (simp; done) | (simp; omega) | omega) _).setCell (by first | exact Nat.le_refl _ | (simp; done) | (simp; omega) | omega) _).setCell (by first | exact Nat.le_refl _ | (simp; done) | (simp; omega) | omega) _⟩
  simp [results, Tryd.results43, go_sem, hc1]
/-- the curve of a segment, and the code -/
noncomputable def caV (W H : Int) (n : Nat) (f : Nat → Int) (s : Int) : Int := if wtC W H n f s = 0 then (trs W H f (4 * W * H).toNat).of s.toNat else 0
noncomputable def sgB (W H : Int) (n : Nat) (f : Nat → Int) : Bool := validB W H n f && (cnV W H n f == 1)
end
end Go.Proofs.YtneknajeecgnoaaDoor.Base
