/- Proved: whatever number SingleSizes of the program is called with, it answers as the model, every element; its list's memory is its own. No condition. -/
import Derived.Test.YtfgbfmpolhilcaaRows
import Derived.Test.YtfgbfmpolhilcaaBase
import Derived.Test.YtfgbfmpolhilcaaMark
import Derived.Test.YtfgbfmpolhilcaaNew
import Derived.Test.YtfgbfmpolhilcaaHeap
import Derived.Test.YtfgbfmpolhilcaaWls
import Derived.Test.YtfgbfmpolhilcaaSsz
import Derived.WalkKit
import Derived.ProofKit
import Derived.OpenShut
import Derived.ShutString
import Derived.ChangeOld
import Derived.Below
import Derived.Lib.SmallJoins
namespace Go.Proofs.Ytfgbfmpolhilcaa.fnExactSingleSizes
open Go.ChangeShapes Go.WideShapes Go.ChangeAt Go.RowKit Go.Joins
open Go.ChangeMaps (open_string shut_string)
open Go.Proofs.Ytfgbfmpolhilcaa.Base
set_option linter.unusedVariables false
theorem own : ownKnob Try.prog.godebug = none := by kernel_rfl
theorem laidOut : laidOutB Try.prog = true := by kernel_rfl

set_option maxHeartbeats 2000000 in
theorem core (w : World) (a0 : Int) (N : Nat) (F : Nat → Int) (code : Int) (hN : N ≤ 1048576)
    (HS : Hid (∀ w : World, Calls Try.prog 31 #[.int .i64 a0] w (ListOut 1 N F code w.heap.size w)))
    (HI : Hid (∀ w : World, Calls Try.prog 32 #[.int .i64 a0] w (ListOut 1 N F code w.heap.size w))) :
    Calls Try.prog 10 #[.int .i64 a0] w fun e w' => e = .returned (.bool true) ∧ Below w.heap.size w w' := by
  have hcd : (code != code) = false := by simp
  have hmk : ((1 + (N : Int)) != (1 + (N : Int))) = false := by simp
  go_enter Try.func10, Try.ntmps10
  go_wp2_with fail
  refine (HS.out _).mono ?_
  rintro e w2 ⟨AM, cM, rfl, RM, b2⟩
  have HQM : Hid (0 < N → ∀ b, blk AM = some b → b < w2.heap.size) := Lib.hid (RM.row.blk_lt)
  have rM2 := Lib.hid RM.row
  have HB2 := Lib.hid b2
  have z2 := b2.size
  clear RM b2
  go_wp2_with fail
  refine (HI.out _).mono ?_
  rintro e w6 ⟨AG, cG, rfl, RG, b6⟩
  have HQG : Hid (0 < N → ∀ b, blk AG = some b → w2.heap.size ≤ b) := Lib.hid (RG.blk_ge)
  have rG6 := Lib.hid RG
  have rM6 := Lib.hid (rM2.out.below b6 (Nat.le_refl _))
  have HB6 := Lib.hid (HB2.out.trans (b6.mono HB2.out.size))
  have z6 := b6.size
  clear RG b6 rM2 HB2
  go_wp2_with fail
  refine (eqI64_same _ AG AM N cG cM F rG6.out.row rM6.out).mono ?_
  rintro e w7 ⟨rfl, b7⟩
  have rG7 := Lib.hid (rG6.out.below b7 (Nat.le_refl _))
  have rM7 := Lib.hid (rM6.out.below b7 (Nat.le_refl _))
  have HB7 := Lib.hid (HB6.out.trans (b7.mono HB6.out.size))
  have z7 := b7.size
  clear b7 rG6 rM6 HB6
  go_wp2_with fail
  refine (markI64_any _ w2.heap.size AG N cG F 1 rG7.out (by omega) (by omega)).mono ?_
  rintro e w8 ⟨rfl, R5, r, g5, hr5⟩
  have HBm := Lib.hid (markedS_below (B := w.heap.size) g5 hr5 rG7.out (by omega) (by omega))
  have rG8 := Lib.hid R5
  have rM8 := Lib.hid (rM7.out.grownR g5 (fun b hn hb e => by obtain ⟨hn9, hA⟩ := hr5 _ e; have h1 := HQG.out hn9 _ hA; have := HQM.out hn b hb; omega))
  have HB8 := Lib.hid (HB7.out.trans HBm.out)
  have z8 := g5.size
  clear R5 g5 hr5 HBm rG7 rM7 HB7
  go_wp2_with fail
  refine (heldI64_any _ AG N cG 1 rG8.out.row (by omega) (by omega)).mono ?_
  rintro e w9 ⟨rfl, b9⟩
  have rG9 := Lib.hid (rG8.out.below b9 (Nat.le_refl _))
  have rM9 := Lib.hid (rM8.out.below b9 (Nat.le_refl _))
  have HB9 := Lib.hid (HB8.out.trans (b9.mono HB8.out.size))
  have z9 := b9.size
  clear b9 rG8 rM8 HB8
  go_wp2_with fail
  refine (HI.out _).mono ?_
  rintro e w10 ⟨AH, cH, rfl, RH, b10⟩
  have rH10 := Lib.hid RH.row
  have rG10 := Lib.hid (rG9.out.below b10 (Nat.le_refl _))
  have rM10 := Lib.hid (rM9.out.below b10 (Nat.le_refl _))
  have HB10 := Lib.hid (HB9.out.trans (b10.mono HB9.out.size))
  have z10 := b10.size
  clear RH b10 rG9 rM9 HB9
  go_wp2_with fail
  refine (eqI64_same _ AH AM N cH cM F rH10.out rM10.out).mono ?_
  rintro e w11 ⟨rfl, b11⟩
  have rG11 := Lib.hid (rG10.out.below b11 (Nat.le_refl _))
  have HB11 := Lib.hid (HB10.out.trans (b11.mono HB10.out.size))
  have z11 := b11.size
  clear b11 rG10 rM10 HB10 rH10
  go_wp2_with fail
  refine (heldI64_any _ AG N cG 1 rG11.out.row (by omega) (by omega)).mono ?_
  rintro e w12 ⟨rfl, b12⟩
  have HB12 := Lib.hid (HB11.out.trans (b12.mono HB11.out.size))
  clear b12 rG11 HB11
  go_wp2
  go_ret
  exact ⟨rfl, HB12.out⟩

theorem walk (w : World) (a0 : Int) (w0 : (Lit.int .i64 a0).wf = true) :
    Calls Try.prog 10 #[.int .i64 a0] w fun e w' => e = .returned (.bool true) ∧ Below w.heap.size w w' := by
  exact core w a0 (ssN a0) (ssF a0) (ssC a0) (by have := ssN_le a0; omega) (Lib.hid fun w => spec_singleSizes w a0) (Lib.hid fun w => impl_singleSizes w a0)

set_option maxRecDepth 100000 in
theorem lifted (os : Os) (started : os.Started) (H : Type) (enc : TypeId × Value → H) :
    ReturnsInHanded {} Try.checked os 10 .any (Rows.fnExactSingleSizesSpec.pre6 enc Try.prog Try.f10 Rows.fnExactSingleSizesRow.domain false) (Rows.fnExactSingleSizesSpec.post enc Try.prog Try.f10 false true false false) := by
  refine returnsInHanded_of_change (C := Try.checked) own started (by kernel_rfl) Try.func10
    (ChangeSpec.witness6 (enc := enc) (C := Try.checked) false ⟨#[], #[.int .i64 0], []⟩ 8 (by kernel_rfl) (by kernel_rfl) (by kernel_rfl) (by kernel_rfl)) ?_
  intro W base args ds gs before hval0 hW hcnd _
  have hval : ∀ (j : Nat) t v, Try.f10.params[j]? = some t → args[j]? = some v → Value.okWide Try.prog W .any base t v := hval0
  have hW' := hW
  obtain ⟨p, q, hA0, hV, rfl, hfz, hnd⟩ := hW
  have hA : DataW.TrodAll enc Try.prog W 0 (fun _ => true) true Try.f10.params.toList args.toList ds p := hA0
  rw [Try.params10] at hA hval
  obtain ⟨v0, vs0, d0, ds0, p0, q0, hargs, rfl, rfl, h0, tl0⟩ := trodAll_cons hA
  obtain ⟨rfl, rfl, rfl⟩ := trodAll_nil tl0
  obtain rfl : args = #[v0] := by cases args; simp_all
  obtain ⟨rfl, rfl⟩ := trodVars_none hV
  have k0 := h0
  have lt0 : ∀ x ∈ p0, x.block < W.heap.size := by obtain ⟨m, hm⟩ := k0; exact DataW.trod_lt m _ _ _ hm
  obtain ⟨a0, rfl, rfl, rfl, w0⟩ := open_int Try.underlying2 (hval 0 2 v0 rfl rfl) h0
  clear hA0 hval0
  refine (walk W a0 w0).mono fun e W' ⟨he, bel⟩ => ?_
  subst he
  exact ⟨_, rfl, _, _, _, [], _, [], hW', trodAll_mk1 (shut_bool Try.underlying4 _), (trodAll_cons_mk (Below.trod laidOut (by kernel_rfl) (of_decide_eq_true (by kernel_rfl)) k0 bel lt0) trodAll_mk0), rfl, bel.frame _, fun h => by cases h⟩

theorem over : Rows.fnExactSingleSizesRow.holds Try.pinned (OpenSpec.ofChange Rows.fnExactSingleSizesSpec) :=
  OpenClaim.holds_of_wide 10 Try.f10 rfl rfl rfl rfl rfl rfl rfl ⟨rfl, rfl, rfl, rfl, rfl⟩ rfl rfl rfl rfl rfl (by kernel_rfl) Try.func10 (by kernel_rfl)
    (of_decide_eq_true (by kernel_rfl)) (by unfold Func.isWrapper; first | (rw [if_pos (by decide +kernel)]; kernel_rfl) | (rw [if_neg (by decide +kernel)]; exact ⟨rfl, rfl⟩))
    (fun os started H enc _ => lifted os started H enc)

theorem proved : Rows.FnExactSingleSizesSaid := over
#print axioms proved
end Go.Proofs.Ytfgbfmpolhilcaa.fnExactSingleSizes
