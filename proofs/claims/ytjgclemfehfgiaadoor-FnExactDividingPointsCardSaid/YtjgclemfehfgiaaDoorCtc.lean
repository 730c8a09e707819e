/-
  Tracing: the numbers of curves, and the curve of a segment: spec's and the program's.
-/
import Derived.Test.YtjgclemfehfgiaaDoorTrd
namespace Go.Proofs.YtjgclemfehfgiaaDoor.Base
open Go.RowKit
set_option linter.unusedVariables false
set_option linter.unusedSimpArgs false

/-- the number of curves -/
noncomputable def cnN (W H : Int) (f : Nat → Int) : Nat := (trs W H f (4 * W * H).toNat).cnt
noncomputable def cnV (W H : Int) (n : Nat) (f : Nat → Int) : Int := if validB W H n f then (cnN W H f : Int) else 0
theorem cnV_no {W H : Int} {n : Nat} {f : Nat → Int} (h : validB W H n f = false) : cnV W H n f = 0 := by simp [cnV, h]
theorem cnV_yes {W H : Int} {n : Nat} {f : Nat → Int} (h : validB W H n f = true) : cnV W H n f = (cnN W H f : Int) := by simp [cnV, h]
theorem cnN_le {W H : Int} {n : Nat} {f : Nat → Int} (h : validB W H n f = true) : cnN W H f ≤ 256 := by
  obtain ⟨hW, hH, -, -⟩ := validB_yes h
  obtain ⟨m0, m1⟩ := segs_bd hW hH
  have := (trs_of_ge W H f (4 * W * H).toNat 0).2.2
  unfold cnN
  omega
section
variable {W H : Int} {A : Option Addr} {n c : Nat} {f : Nat → Int}
theorem spec_l04Count (w : World) (p : Nat) (hb : Box w p W H A n c) (hr : Row .i64 w A n c f) (hv : validB W H n f = true) :
    Calls Tryd.prog 58 #[.pointer (some ⟨p, 0, none⟩)] w (Gives (.int .i64 (cnN W H f : Int)) w) := by
  have hle := cnN_le hv
  have HC := Lib.hid (spec_all w p W H A n c f hb hr hv)
  unfold cnN at hle ⊢
  clear hb hr hv
  go_enter Tryd.func58, Tryd.ntmps58
  go_wp2_with fail
  refine HC.out.mono ?_
  rintro e w1 ⟨A1, c1, L, rfl, h1⟩
  have HB := Lib.hid h1.below
  clear h1
  go_wp2
  go_ret
  exact ⟨rfl, HB.out⟩
theorem impl_tracedBad (w : World) (hr : Row .i64 w A n c f) (hv : validB W H n f = false) :
    Calls Tryd.prog 138 #[.agg #[.int .i64 W, .int .i64 H, .slice A n c]] w (Gives (.tuple #[.agg #[.int .i64 0, .int .i64 0, .slice none 0 0, .slice none 0 0, .slice none 0 0], .int .i64 1]) w) := by
  have HL := Lib.hid (show Below w.heap.size w ((w.alloc (.cells #[.int .i64 W, .int .i64 H, .slice A n c] 30)).alloc (.cells #[.int .i64 0, .int .i64 0, .slice none 0 0, .slice none 0 0, .slice none 0 0] 168)) from ((Below.refl _ _).alloc (Nat.le_refl _) _).alloc (by simp) _)
  have HR := Lib.hid hr
  have HV := Lib.hid hv
  clear hr hv
  go_enter Tryd.func138, Tryd.ntmps138
  go_wp2_with fail
  refine (implOk_is HV.out (HR.out.below HL.out (Nat.le_refl _))).mono ?_
  rintro e w1 ⟨rfl, b1⟩
  obtain ⟨hc1, hf1⟩ := bcell b1
  go_wp2
  refine bodyPost_ret ?_ rfl ⟨rfl, (((((HL.out.trans (b1.mono (by first | exact Nat.le_refl _ | (simp; done) | (simp; omega) | omega))).setCell (by first | exact Nat.le_refl _ | (simp; done) | (simp; omega) | omega) _).setCell (by first | exact Nat.le_refl _ | (simp; done) | (simp; omega) | omega) _).setCell (by first | exact Nat.le_refl _ | (simp; done) | (simp; omega) | omega) _).setCell (by first | exact Nat.le_refl _ | (simp; done) | (simp; omega) | omega) _).setCell (by first | exact Nat.le_refl _ | (simp; done) | (simp; omega) | omega) _⟩
  simp [results, Tryd.results138, go_sem, hc1]
/-- the curve of a segment, and the code -/
noncomputable def caV (W H : Int) (n : Nat) (f : Nat → Int) (s : Int) : Int := if wtC W H n f s = 0 then (trs W H f (4 * W * H).toNat).of s.toNat else 0
noncomputable def sgB (W H : Int) (n : Nat) (f : Nat → Int) : Bool := validB W H n f && (cnV W H n f == 1)
end
end Go.Proofs.YtjgclemfehfgiaaDoor.Base
