/- Proved: whatever two numbers, walker and number of steps PlainWalk of the program is called with, it answers as the model, every field. No condition. -/
import Derived.Test.YtfgbfmpolhilcaaRows
import Derived.Test.YtfgbfmpolhilcaaBase
import Derived.Test.YtfgbfmpolhilcaaShape
import Derived.Test.YtfgbfmpolhilcaaWlkC
import Derived.Test.YtfgbfmpolhilcaaPlw
import Derived.Test.YtfgbfmpolhilcaaPwi
import Derived.WalkKit
import Derived.ProofKit
import Derived.OpenShut
import Derived.ShutString
import Derived.ChangeOld
import Derived.Below
import Derived.Lib.SmallJoins
namespace Go.Proofs.Ytfgbfmpolhilcaa.fnExactPlainWalk
open Go.ChangeShapes Go.WideShapes Go.ChangeAt Go.RowKit Go.Joins
open Go.ChangeMaps (open_string shut_string)
open Go.Proofs.Ytfgbfmpolhilcaa.Base
set_option linter.unusedVariables false
theorem own : ownKnob Try.prog.godebug = none := by kernel_rfl
theorem laidOut : laidOutB Try.prog = true := by kernel_rfl

theorem walk (w : World) (a0 : Int) (w0 : (Lit.int .i64 a0).wf = true) (a1 : Int) (w1 : (Lit.int .i64 a1).wf = true) (x2 y2 dx2 dy2 : Int) (wx2 : (Lit.int .i64 x2).wf = true) (wy2 : (Lit.int .i64 y2).wf = true) (wdx2 : (Lit.int .i64 dx2).wf = true) (wdy2 : (Lit.int .i64 dy2).wf = true) (a3 : Int) (w3 : (Lit.int .i64 a3).wf = true) :
    Calls Try.prog 8 #[.int .i64 a0, .int .i64 a1, .agg #[.int .i64 x2, .int .i64 y2, .int .i64 dx2, .int .i64 dy2], .int .i64 a3] w fun e w' => e = .returned (.bool true) ∧ Below w.heap.size w w' := by
  have bx := (Below.refl w.heap.size w).alloc (Nat.le_refl _) (.cells #[.int .i64 x2, .int .i64 y2, .int .i64 dx2, .int .i64 dy2] 28)
  have HX0 := Lib.hid (Cel.new w [.int .i64 x2, .int .i64 y2, .int .i64 dx2, .int .i64 dy2] 28)
  have HB0 := Lib.hid bx
  clear bx
  have W0 := Lib.hid w0
  have W1 := Lib.hid w1
  have HS := Lib.hid (fun w => spec_PlainWalk w a0 a1 x2 y2 dx2 dy2 a3)
  have HI := Lib.hid (fun w => impl_PlainWalk w a0 a1 x2 y2 dx2 dy2 a3 W0.out W1.out)
  clear w0 w1
  generalize pwX a0 a1 x2 y2 dx2 dy2 a3 = X at HS HI
  generalize pwY a0 a1 x2 y2 dx2 dy2 a3 = Y at HS HI
  generalize pwDX a0 a1 x2 y2 dx2 dy2 a3 = DX at HS HI
  generalize pwDY a0 a1 x2 y2 dx2 dy2 a3 = DY at HS HI
  generalize pwC a0 a1 x2 y2 dx2 dy2 a3 = code at HS HI
  have hcd : (code != code) = false := by simp
  go_enter Try.func8, Try.ntmps8
  go_wp2_with fail
  refine (toWalker_any _ x2 y2 dx2 dy2).mono ?_
  rintro e v1 ⟨rfl, b1⟩
  have HX1 := Lib.hid (HX0.out.below b1 HX0.out.1)
  have HB1 := Lib.hid (HB0.out.trans (b1.mono HB0.out.size))
  clear b1 HX0 HB0
  go_wp2_with fail
  refine (HS.out _).mono ?_
  rintro e v2 ⟨rfl, b2⟩
  have HX2 := Lib.hid (HX1.out.below b2 HX1.out.1)
  have HB2 := Lib.hid (HB1.out.trans (b2.mono HB1.out.size))
  clear b2 HX1 HB1
  have bN := (Below.refl v2.heap.size v2).alloc (Nat.le_refl _) (.cells #[.int .i64 X, .int .i64 Y, .int .i64 DX, .int .i64 DY] 31)
  have HM3 := Lib.hid (Cel.new v2 [.int .i64 X, .int .i64 Y, .int .i64 DX, .int .i64 DY] 31)
  have HX3 := Lib.hid (HX2.out.below bN HX2.out.1)
  have HB3 := Lib.hid (HB2.out.trans (bN.mono HB2.out.size))
  clear bN
  have kz := HX2.out.1
  have k0 := HX2.out.2 0 _ rfl
  have k1 := HX2.out.2 1 _ rfl
  have k2 := HX2.out.2 2 _ rfl
  have k3 := HX2.out.2 3 _ rfl
  go_wp2_with fail
  clear kz k0 k1 k2 k3 HX2 HB2
  refine (toWalker_any _ x2 y2 dx2 dy2).mono ?_
  rintro e v4 ⟨rfl, b4⟩
  have HM4 := Lib.hid (HM3.out.below b4 HM3.out.1)
  have HB4 := Lib.hid (HB3.out.trans (b4.mono HB3.out.size))
  clear b4 HM3 HX3 HB3
  go_wp2_with fail
  refine (HI.out _).mono ?_
  rintro e v5 ⟨rfl, b5⟩
  have HM5 := Lib.hid (HM4.out.below b5 HM4.out.1)
  have HB5 := Lib.hid (HB4.out.trans (b5.mono HB4.out.size))
  clear b5 HM4 HB4
  have kz := HM5.out.1
  have k0 := HM5.out.2 0 _ rfl
  have k1 := HM5.out.2 1 _ rfl
  have k2 := HM5.out.2 2 _ rfl
  have k3 := HM5.out.2 3 _ rfl
  go_wp2_with fail
  refine (eqWalker_same _ X Y DX DY).mono ?_
  rintro e v6 ⟨rfl, b6⟩
  go_wp2
  go_ret
  exact ⟨rfl, HB5.out.trans (((Below.refl v5.heap.size v5).alloc (Nat.le_refl _) _).trans (b6.mono (by simp)) |>.mono HB5.out.size)⟩

set_option maxRecDepth 100000 in
theorem lifted (os : Os) (started : os.Started) (H : Type) (enc : TypeId × Value → H) :
    ReturnsInHanded {} Try.checked os 8 .any (Rows.fnExactPlainWalkSpec.pre6 enc Try.prog Try.f8 Rows.fnExactPlainWalkRow.domain false) (Rows.fnExactPlainWalkSpec.post enc Try.prog Try.f8 false true false false) := by
  refine returnsInHanded_of_change (C := Try.checked) own started (by kernel_rfl) Try.func8
    (ChangeSpec.witness6 (enc := enc) (C := Try.checked) false ⟨#[], #[.int .i64 0, .int .i64 0, .agg #[.int .i64 0, .int .i64 0, .int .i64 0, .int .i64 0], .int .i64 0], []⟩ 8 (by kernel_rfl) (by kernel_rfl) (by kernel_rfl) (by kernel_rfl)) ?_
  intro W base args ds gs before hval0 hW hcnd _
  have hval : ∀ (j : Nat) t v, Try.f8.params[j]? = some t → args[j]? = some v → Value.okWide Try.prog W .any base t v := hval0
  have hW' := hW
  obtain ⟨p, q, hA0, hV, rfl, hfz, hnd⟩ := hW
  have hA : DataW.TrodAll enc Try.prog W 0 (fun _ => true) true Try.f8.params.toList args.toList ds p := hA0
  rw [Try.params8] at hA hval
  obtain ⟨v0, vs0, d0, ds0, p0, q0, hargs, rfl, rfl, h0, tl0⟩ := trodAll_cons hA
  obtain ⟨v1, vs1, d1, ds1, p1, q1, rfl, rfl, rfl, h1, tl1⟩ := trodAll_cons tl0
  obtain ⟨v2, vs2, d2, ds2, p2, q2, rfl, rfl, rfl, h2, tl2⟩ := trodAll_cons tl1
  obtain ⟨v3, vs3, d3, ds3, p3, q3, rfl, rfl, rfl, h3, tl3⟩ := trodAll_cons tl2
  obtain ⟨rfl, rfl, rfl⟩ := trodAll_nil tl3
  obtain rfl : args = #[v0, v1, v2, v3] := by cases args; simp_all
  obtain ⟨rfl, rfl⟩ := trodVars_none hV
  have k0 := h0
  have lt0 : ∀ x ∈ p0, x.block < W.heap.size := by obtain ⟨m, hm⟩ := k0; exact DataW.trod_lt m _ _ _ hm
  have k1 := h1
  have lt1 : ∀ x ∈ p1, x.block < W.heap.size := by obtain ⟨m, hm⟩ := k1; exact DataW.trod_lt m _ _ _ hm
  have k2 := h2
  have lt2 : ∀ x ∈ p2, x.block < W.heap.size := by obtain ⟨m, hm⟩ := k2; exact DataW.trod_lt m _ _ _ hm
  have k3 := h3
  have lt3 : ∀ x ∈ p3, x.block < W.heap.size := by obtain ⟨m, hm⟩ := k3; exact DataW.trod_lt m _ _ _ hm
  obtain ⟨a0, rfl, rfl, rfl, w0⟩ := open_int Try.underlying2 (hval 0 2 v0 rfl rfl) h0
  obtain ⟨a1, rfl, rfl, rfl, w1⟩ := open_int Try.underlying2 (hval 1 2 v1 rfl rfl) h1
  obtain ⟨x2, y2, dx2, dy2, rfl, wx2, wy2, wdx2, wdy2⟩ := open_walker Try.underlying28 Try.underlying26 Try.underlying2 Try.underlying2 Try.underlying2 Try.underlying2 rfl (by kernel_rfl) (hval 2 28 v2 rfl rfl) h2
  obtain ⟨a3, rfl, rfl, rfl, w3⟩ := open_int Try.underlying2 (hval 3 2 v3 rfl rfl) h3
  clear hA0 hval0
  refine (walk W a0 w0 a1 w1 x2 y2 dx2 dy2 wx2 wy2 wdx2 wdy2 a3 w3).mono fun e W' ⟨he, bel⟩ => ?_
  subst he
  exact ⟨_, rfl, _, _, _, [], _, [], hW', trodAll_mk1 (shut_bool Try.underlying4 _), (trodAll_cons_mk (Below.trod laidOut (by kernel_rfl) (of_decide_eq_true (by kernel_rfl)) k0 bel lt0) (trodAll_cons_mk (Below.trod laidOut (by kernel_rfl) (of_decide_eq_true (by kernel_rfl)) k1 bel lt1) (trodAll_cons_mk (Below.trod laidOut (by kernel_rfl) (of_decide_eq_true (by kernel_rfl)) k2 bel lt2) (trodAll_cons_mk (Below.trod laidOut (by kernel_rfl) (of_decide_eq_true (by kernel_rfl)) k3 bel lt3) trodAll_mk0)))), rfl, bel.frame _, fun h => by cases h⟩

theorem over : Rows.fnExactPlainWalkRow.holds Try.pinned (OpenSpec.ofChange Rows.fnExactPlainWalkSpec) :=
  OpenClaim.holds_of_wide 8 Try.f8 rfl rfl rfl rfl rfl rfl rfl ⟨rfl, rfl, rfl, rfl, rfl⟩ rfl rfl rfl rfl rfl (by kernel_rfl) Try.func8 (by kernel_rfl)
    (of_decide_eq_true (by kernel_rfl)) (by unfold Func.isWrapper; first | (rw [if_pos (by decide +kernel)]; kernel_rfl) | (rw [if_neg (by decide +kernel)]; exact ⟨rfl, rfl⟩))
    (fun os started H enc _ => lifted os started H enc)

theorem proved : Rows.FnExactPlainWalkSaid := over
#print axioms proved
end Go.Proofs.Ytfgbfmpolhilcaa.fnExactPlainWalk
