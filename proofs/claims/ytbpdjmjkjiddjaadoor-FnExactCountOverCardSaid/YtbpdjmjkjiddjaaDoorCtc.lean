/-
  Tracing: the numbers of curves, and the curve of a segment: spec's and the program's.
-/
import Derived.Test.YtbpdjmjkjiddjaaDoorTrd
namespace Go.Proofs.YtbpdjmjkjiddjaaDoor.Base
open Go.RowKit
set_option linter.unusedVariables false
set_option linter.unusedSimpArgs false

/-- the number of curves -/
noncomputable def cnN (W H : Int) (f : Nat → Int) : Nat := (trs W H f (4 * W * H).toNat).cnt
noncomputable def cnV (W H : Int) (n : Nat) (f : Nat → Int) : Int := if validB W H n f then (cnN W H f : Int) else 0
theorem cnV_no {W H : Int} {n : Nat} {f : Nat → Int} (h : validB W H n f = false) : cnV W H n f = 0 := by simp [cnV, h]
theorem cnV_yes {W H : Int} {n : Nat} {f : Nat → Int} (h : validB W H n f = true) : cnV W H n f = (cnN W H f : Int) := by simp [cnV, h]
theorem cnN_le {W H : Int} {n : Nat} {f : Nat → Int} (h : validB W H n f = true) : cnN W H f ≤ 256 := by
  obtain ⟨hW, hH, -, -⟩ := validB_yes h
  obtain ⟨m0, m1⟩ := segs_bd hW hH
  have := (trs_of_ge W H f (4 * W * H).toNat 0).2.2
  unfold cnN
  omega
section
variable {W H : Int} {A : Option Addr} {n c : Nat} {f : Nat → Int}
theorem spec_l04Count (w : World) (p : Nat) (hb : Box w p W H A n c) (hr : Row .i64 w A n c f) (hv : validB W H n f = true) :
    Calls Tryd.prog 76 #[.pointer (some ⟨p, 0, none⟩)] w (Gives (.int .i64 (cnN W H f : Int)) w) := by
  have hle := cnN_le hv
  have HC := Lib.hid (spec_all w p W H A n c f hb hr hv)
  unfold cnN at hle ⊢
  clear hb hr hv
  go_enter Tryd.func76, Tryd.ntmps76
  go_wp2_with fail
  refine HC.out.mono ?_
  rintro e w1 ⟨A1, c1, L, rfl, h1⟩
  have HB := Lib.hid h1.below
  clear h1
  go_wp2
  go_ret
  exact ⟨rfl, HB.out⟩
theorem impl_tracedBad (w : World) (hr : Row .i64 w A n c f) (hv : validB W H n f = false) :
    Calls Tryd.prog 94 #[.agg #[.int .i64 W, .int .i64 H, .slice A n c]] w (Gives (.tuple #[.agg #[.int .i64 0, .int .i64 0, .slice none 0 0, .slice none 0 0, .slice none 0 0], .int .i64 1]) w) := by
  have HL := Lib.hid (show Below w.heap.size w ((w.alloc (.cells #[.int .i64 W, .int .i64 H, .slice A n c] 35)).alloc (.cells #[.int .i64 0, .int .i64 0, .slice none 0 0, .slice none 0 0, .slice none 0 0] 84)) from ((Below.refl _ _).alloc (Nat.le_refl _) _).alloc (by simp) _)
  have HR := Lib.hid hr
  have HV := Lib.hid hv
  clear hr hv
  go_enter Tryd.func94, Tryd.ntmps94
  go_wp2_with fail
  refine (implOk_is HV.out (HR.out.below HL.out (Nat.le_refl _))).mono ?_
  rintro e w1 ⟨rfl, b1⟩
  obtain ⟨hc1, hf1⟩ := bcell b1
  go_wp2
  refine bodyPost_ret ?_ rfl ⟨rfl, (((((HL.out.trans (b1.mono (by first | exact Nat.le_refl _ | (simp; done) | (simp; omega) | omega))).setCell (by first | exact Nat.le_refl _ | (simp; done) | (simp; omega) | omega) _).setCell (by first | exact Nat.le_refl _ | (simp; done) | (simp; omega) | omega) _).setCell (by first | exact Nat.le_refl _ | (simp; done) | (simp; omega) | omega) _).setCell (by first | exact Nat.le_refl _ | (simp; done) | (simp; omega) | omega) _).setCell (by first | exact Nat.le_refl _ | (simp; done) | (simp; omega) | omega) _⟩
  simp [results, Tryd.results94, go_sem, hc1]
theorem spec_countCurves (w : World) (W H : Int) (A : Option Addr) (n c : Nat) (f : Nat → Int) (hr : Row .i64 w A n c f) :
    Calls Tryd.prog 39 #[.agg #[.int .i64 W, .int .i64 H, .slice A n c]] w (Gives (.tuple #[.int .i64 (cnV W H n f), .int .i64 (okC W H n f)]) w) := by
  have HL := Lib.hid (show Below w.heap.size w (w.alloc (.cells #[.int .i64 W, .int .i64 H, .slice A n c] 35)) from (Below.refl _ _).alloc (Nat.le_refl _) _)
  have HR := Lib.hid hr
  clear hr
  cases hv : validB W H n f
  · rw [cnV_no hv, (segN_no hv).2]
    have HV := Lib.hid hv
    clear hv
    go_enter Tryd.func39, Tryd.ntmps39
    go_wp2_with fail
    refine (specOk_is HV.out (Box.new w _ W H A n c) (HR.out.below HL.out (Nat.le_refl _))).mono ?_
    rintro e w1 ⟨m, rfl, rfl⟩
    go_wp2
    go_ret2
    exact ⟨rfl, below_drewN HL.out m⟩
  · rw [cnV_yes hv, (segN_yes hv).2]
    have hle := cnN_le hv
    have HV := Lib.hid hv
    clear hv
    go_enter Tryd.func39, Tryd.ntmps39
    go_wp2_with fail
    refine (specOk_is HV.out (Box.new w _ W H A n c) (HR.out.below HL.out (Nat.le_refl _))).mono ?_
    rintro e w1 ⟨m, rfl, rfl⟩
    go_wp2_with fail
    have HB := Lib.hid (below_drewN HL.out m)
    refine (spec_l04Count _ w.heap.size ((Box.new w 35 W H A n c).below (below_drewN (Below.refl (w.alloc (.cells #[.int .i64 W, .int .i64 H, .slice A n c] 35)).heap.size (w.alloc (.cells #[.int .i64 W, .int .i64 H, .slice A n c] 35))) m) (by simp)) (HR.out.below HB.out (Nat.le_refl _)) HV.out).mono ?_
    rintro e w2 ⟨rfl, b2⟩
    go_wp2
    go_ret2
    exact ⟨rfl, HB.out.trans (b2.mono HB.out.size)⟩
/-- the curve of a segment, and the code -/
noncomputable def caV (W H : Int) (n : Nat) (f : Nat → Int) (s : Int) : Int := if wtC W H n f s = 0 then (trs W H f (4 * W * H).toNat).of s.toNat else 0
noncomputable def sgB (W H : Int) (n : Nat) (f : Nat → Int) : Bool := validB W H n f && (cnV W H n f == 1)
end
end Go.Proofs.YtbpdjmjkjiddjaaDoor.Base
