/-
  CountSegments, SegmentOf, BackWalker: spec's and the program's.
-/
import Derived.Test.YtcnhgfgjmdbddaaWlkB
namespace Go.Proofs.Ytcnhgfgjmdbddaa.Base
open Go.RowKit
set_option linter.unusedVariables false

def segs (W H : Int) : Int := 4 * W * H
def segN (W H : Int) (n : Nat) (f : Nat → Int) : Int := if validB W H n f then segs W H else 0
def okC (W H : Int) (n : Nat) (f : Nat → Int) : Int := if validB W H n f then 0 else 1
theorem segs_bd {W H : Int} (hW : sideB W = true) (hH : sideB H = true) : 0 ≤ 4 * W * H ∧ 4 * W * H ≤ 256 := by
  obtain ⟨a1, a2⟩ := side_mk hW
  obtain ⟨b1, b2⟩ := side_mk hH
  exact ⟨Int.mul_nonneg (by omega) (by omega), Int.mul_le_mul (show 4 * W ≤ 32 by omega) b2 (by omega) (by omega)⟩
theorem segN_yes {W H : Int} {n : Nat} {f : Nat → Int} (h : validB W H n f = true) : segN W H n f = 4 * W * H ∧ okC W H n f = 0 := by simp [segN, okC, segs, h]
theorem segN_no {W H : Int} {n : Nat} {f : Nat → Int} (h : validB W H n f = false) : segN W H n f = 0 ∧ okC W H n f = 1 := by simp [segN, okC, h]

theorem implSegs (w : World) (W H : Int) (hW : sideB W = true) (hH : sideB H = true) :
    Calls Try.prog 65 #[.agg #[.int .i64 W, .int .i64 H]] w (Gives (.int .i64 (4 * W * H)) w) := by
  obtain ⟨m0, m1⟩ := segs_bd hW hH
  obtain ⟨a1, a2⟩ := side_mk hW
  obtain ⟨b1, b2⟩ := side_mk hH
  clear hW hH
  go_enter Try.func65, Try.ntmps65
  go_wp2
  go_ret
  exact ⟨rfl, by go_grown⟩

theorem spec_countSegments (w : World) (W H : Int) (A : Option Addr) (n c : Nat) (f : Nat → Int) (hr : Row .i64 w A n c f) :
    Calls Try.prog 26 #[.agg #[.int .i64 W, .int .i64 H, .slice A n c]] w (Gives (.tuple #[.int .i64 (segN W H n f), .int .i64 (okC W H n f)]) w) := by
  have HL := Lib.hid (show Below w.heap.size w (w.alloc (.cells #[.int .i64 W, .int .i64 H, .slice A n c] 28)) from (Below.refl _ _).alloc (Nat.le_refl _) _)
  have HR := Lib.hid hr
  clear hr
  cases hv : validB W H n f
  · rw [(segN_no hv).1, (segN_no hv).2]
    have HV := Lib.hid hv
    clear hv
    go_enter Try.func26, Try.ntmps26
    go_wp2_with fail
    refine (specOk_is HV.out (Box.new w _ W H A n c) (HR.out.below HL.out (Nat.le_refl _))).mono ?_
    rintro e w1 ⟨m, rfl, rfl⟩
    go_wp2
    go_ret2
    exact ⟨rfl, below_drewN HL.out m⟩
  · obtain ⟨hW, hH, -, -⟩ := validB_yes hv
    rw [(segN_yes hv).1, (segN_yes hv).2]
    obtain ⟨m0, m1⟩ := segs_bd hW hH
    obtain ⟨a1, a2⟩ := side_mk hW
    obtain ⟨b1, b2⟩ := side_mk hH
    have HV := Lib.hid hv
    clear hv hW hH
    go_enter Try.func26, Try.ntmps26
    go_wp2_with fail
    refine (specOk_is HV.out (Box.new w _ W H A n c) (HR.out.below HL.out (Nat.le_refl _))).mono ?_
    rintro e w1 ⟨m, rfl, rfl⟩
    go_wp2
    go_ret2
    exact ⟨rfl, below_drewN HL.out m⟩

theorem impl_countSegments (w : World) (W H : Int) (A : Option Addr) (n c : Nat) (f : Nat → Int) (hr : Row .i64 w A n c f) :
    Calls Try.prog 27 #[.agg #[.int .i64 W, .int .i64 H, .slice A n c]] w (Gives (.tuple #[.int .i64 (segN W H n f), .int .i64 (okC W H n f)]) w) := by
  have HL := Lib.hid (show Below w.heap.size w (w.alloc (.cells #[.int .i64 W, .int .i64 H, .slice A n c] 28)) from (Below.refl _ _).alloc (Nat.le_refl _) _)
  have HR := Lib.hid hr
  clear hr
  cases hv : validB W H n f
  · rw [(segN_no hv).1, (segN_no hv).2]
    have HV := Lib.hid hv
    clear hv
    go_enter Try.func27, Try.ntmps27
    go_wp2_with fail
    refine (implOk_is HV.out (HR.out.below HL.out (Nat.le_refl _))).mono ?_
    rintro e w1 ⟨rfl, b1⟩
    go_wp2
    go_ret2
    exact ⟨rfl, HL.out.trans (b1.mono (by simp))⟩
  · obtain ⟨hW, hH, -, -⟩ := validB_yes hv
    rw [(segN_yes hv).1, (segN_yes hv).2]
    have HV := Lib.hid hv
    clear hv
    go_enter Try.func27, Try.ntmps27
    go_wp2_with fail
    refine (implOk_is HV.out (HR.out.below HL.out (Nat.le_refl _))).mono ?_
    rintro e w1 ⟨rfl, b1⟩
    obtain ⟨hc1, hf1⟩ := bcell b1
    have HB1 := Lib.hid (HL.out.trans (b1.mono (by simp)))
    clear b1
    go_wp2_with fail
    refine (sizeOf_any _ W H A n c).mono ?_
    rintro e w2 ⟨rfl, b2⟩
    go_wp2_with fail
    refine (implSegs _ W H hW hH).mono ?_
    rintro e w3 ⟨rfl, b3⟩
    go_wp2
    go_ret2
    exact ⟨rfl, HB1.out.trans ((b2.mono HB1.out.size).trans (b3.mono (Nat.le_trans HB1.out.size b2.size)))⟩
end Go.Proofs.Ytcnhgfgjmdbddaa.Base
