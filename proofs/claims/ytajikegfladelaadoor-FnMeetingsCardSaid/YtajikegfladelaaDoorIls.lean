/-
  Slices of integers as lists of elements of one cell; the curves of all segments.
-/
import Derived.Test.YtajikegfladelaaDoorWls
import Derived.Test.YtajikegfladelaaDoorCta
namespace Go.Proofs.YtajikegfladelaaDoor.Base
open Go.RowKit
set_option linter.unusedVariables false
set_option linter.unusedSimpArgs false


/-- the number of segments of a valid panel -/
def sgcN (W H : Int) (n : Nat) (f : Nat → Int) : Nat := (segN W H n f).toNat
noncomputable def sgcF (W H : Int) (f : Nat → Int) : Nat → Int := (trs W H f (4 * W * H).toNat).of
theorem sgc_wf {W H : Int} {n : Nat} {f : Nat → Int} (hv : validB W H n f = true) (i : Nat) : (Lit.int .i64 (sgcF W H f i)).wf = true := by
  obtain ⟨hW, hH, -, -⟩ := validB_yes hv
  obtain ⟨m0, m1⟩ := segs_bd hW hH
  obtain ⟨h1, h2, h3⟩ := trs_of_ge W H f (4 * W * H).toNat i
  exact WalkArith.wf_i64 (by unfold sgcF; omega)
theorem sgcN_no {W H : Int} {n : Nat} {f : Nat → Int} (hv : validB W H n f = false) : sgcN W H n f = 0 := by unfold sgcN; rw [(segN_no hv).1]; rfl
theorem sgcN_yes {W H : Int} {n : Nat} {f : Nat → Int} (hv : validB W H n f = true) : sgcN W H n f = (4 * W * H).toNat := by unfold sgcN; rw [(segN_yes hv).1]
theorem sgcN_le (W H : Int) (n : Nat) (f : Nat → Int) : sgcN W H n f ≤ 256 := by
  cases hv : validB W H n f
  · rw [sgcN_no hv]; omega
  · obtain ⟨hW, hH, -, -⟩ := validB_yes hv
    obtain ⟨m0, m1⟩ := segs_bd hW hH
    rw [sgcN_yes hv]; omega
theorem spec_segmentCurves (w : World) (W H : Int) (A : Option Addr) (n c : Nat) (f : Nat → Int) (hr : Row .i64 w A n c f) :
    Calls Tryd.prog 55 #[.agg #[.int .i64 W, .int .i64 H, .slice A n c]] w (ListOut 1 (sgcN W H n f) (sgcF W H f) (okC W H n f) w.heap.size w) := by
  have HL := Lib.hid (show Below w.heap.size w (w.alloc (.cells #[.int .i64 W, .int .i64 H, .slice A n c] 35)) from (Below.refl _ _).alloc (Nat.le_refl _) _)
  have HR := Lib.hid hr
  clear hr
  cases hv : validB W H n f
  · rw [sgcN_no hv, (segN_no hv).2]
    have HV := Lib.hid hv
    clear hv
    go_enter Tryd.func55, Tryd.ntmps55
    go_wp2_with fail
    refine (specOk_is HV.out (Box.new w _ W H A n c) (HR.out.below HL.out (Nat.le_refl _))).mono ?_
    rintro e w1 ⟨m, rfl, rfl⟩
    go_wp2
    go_ret2
    exact ⟨none, 0, rfl, ownS_nil _ _ _ _, below_drewN HL.out m⟩
  · rw [sgcN_yes hv, (segN_yes hv).2]
    have hM := sgcN_le W H n f
    rw [sgcN_yes hv] at hM
    have HV := Lib.hid hv
    clear hv
    go_enter Tryd.func55, Tryd.ntmps55
    go_wp2_with fail
    refine (specOk_is HV.out (Box.new w _ W H A n c) (HR.out.below HL.out (Nat.le_refl _))).mono ?_
    rintro e w1 ⟨m, rfl, rfl⟩
    go_wp2_with fail
    have HB := Lib.hid (below_drewN HL.out m)
    refine (spec_all _ w.heap.size W H A n c f ((Box.new w 35 W H A n c).below (below_drewN (Below.refl (w.alloc (.cells #[.int .i64 W, .int .i64 H, .slice A n c] 35)).heap.size (w.alloc (.cells #[.int .i64 W, .int .i64 H, .slice A n c] 35))) m) (by simp)) (HR.out.below HB.out (Nat.le_refl _)) HV.out).mono ?_
    rintro e w2 ⟨A1, d1, L, rfl, h1⟩
    obtain ⟨ob, hob⟩ : ∃ ob, ((w.alloc (.cells #[.int .i64 W, .int .i64 H, .slice A n c] 35)).drewN m).heap.size = ob := ⟨_, rfl⟩
    have HBs := Lib.hid (show w.heap.size ≤ ob by rw [← hob]; exact HB.out.size)
    rw [hob] at h1 ⊢
    clear hob
    have HO := Lib.hid h1.of
    have HB2 := Lib.hid h1.below
    clear h1
    go_wp2
    go_ret2
    exact ⟨_, _, rfl, ownS_row HO.out (by unfold maxLen; omega) (fun i _ => sgc_wf HV.out i) HBs.out, HB.out.trans (HB2.out.mono HBs.out)⟩
end Go.Proofs.YtajikegfladelaaDoor.Base
