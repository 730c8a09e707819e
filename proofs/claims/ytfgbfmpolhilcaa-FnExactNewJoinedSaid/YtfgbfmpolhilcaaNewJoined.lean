/- Proved: whatever number NewJoined of the program is called with, it answers as the model, every field; the memory of its lists is its own. No condition. -/
import Derived.Test.YtfgbfmpolhilcaaRows
import Derived.Test.YtfgbfmpolhilcaaBase
import Derived.Test.YtfgbfmpolhilcaaJn
import Derived.Test.YtfgbfmpolhilcaaNwj
import Derived.WalkKit
import Derived.ProofKit
import Derived.OpenShut
import Derived.ShutString
import Derived.ChangeOld
import Derived.Below
import Derived.Lib.SmallJoins
namespace Go.Proofs.Ytfgbfmpolhilcaa.fnExactNewJoined
open Go.ChangeShapes Go.WideShapes Go.ChangeAt Go.RowKit Go.Joins
open Go.ChangeMaps (open_string shut_string)
open Go.Proofs.Ytfgbfmpolhilcaa.Base
set_option linter.unusedVariables false
theorem own : ownKnob Try.prog.godebug = none := by kernel_rfl
theorem laidOut : laidOutB Try.prog = true := by kernel_rfl

set_option maxHeartbeats 4000000 in
theorem core (w : World) (a0 : Int) (n : Nat) (f : Nat → Int) (m : Nat) (g : Nat → Int) (code : Int) (hn : n ≤ 1048576) (hm : m ≤ 1048576)
    (HS : Hid (∀ w : World, Calls Try.prog 41 #[.int .i64 a0] w (JnOut n f m g code w)))
    (HI : Hid (∀ w : World, Calls Try.prog 42 #[.int .i64 a0] w (JnOut n f m g code w))) :
    Calls Try.prog 12 #[.int .i64 a0] w fun e w' => e = .returned (.bool true) ∧ Below w.heap.size w w' := by
  have hcd : (code != code) = false := by simp
  have hmk : ((1 + (n : Int) + (m : Int)) != (1 + (n : Int) + (m : Int))) = false := by simp
  go_enter Try.func12, Try.ntmps12
  go_wp2_with fail
  refine (HS.out _).mono ?_
  rintro e w1 ⟨AM, cM, BM, dM, rfl, J1, b1⟩
  have rM1 := Lib.hid J1.1.row
  have rN1 := Lib.hid J1.2.1.row
  have HQM : Hid (0 < n → ∀ b, blk AM = some b → b < w1.heap.size) := Lib.hid (row_blk rM1.out)
  have HQN : Hid (0 < m → ∀ b, blk BM = some b → b < w1.heap.size) := Lib.hid (row_blk rN1.out)
  have HB1 := Lib.hid b1
  have z1 := b1.size
  clear J1 b1
  go_wp2_with fail
  have bN := (Below.refl w1.heap.size w1).alloc (Nat.le_refl _) (.cells #[.slice AM n cM, .slice BM m dM] 54)
  have HX2 := Lib.hid (Cel.new w1 [.slice AM n cM, .slice BM m dM] 54)
  have zz2 : w1.heap.size + 1 ≤ (w1.alloc (.cells #[.slice AM n cM, .slice BM m dM] 54)).heap.size := by simp
  have rM2 := Lib.hid (rM1.out.below bN (Nat.le_refl _))
  have rN2 := Lib.hid (rN1.out.below bN (Nat.le_refl _))
  have HB2 := Lib.hid (HB1.out.trans (bN.mono HB1.out.size))
  have z2 := (bN).size
  clear HB1 rM1 rN1 bN
  generalize w1.alloc (.cells #[.slice AM n cM, .slice BM m dM] 54) = w2 at *
  generalize hbeX : w1.heap.size = bX at *
  clear hbeX
  refine (HI.out _).mono ?_
  rintro e w3 ⟨AG, cG, BG, dG, rfl, J3, b3⟩
  have HQG : Hid (0 < n → ∀ b, blk AG = some b → w2.heap.size ≤ b ∧ b < w3.heap.size) := Lib.hid (fun h b hb => J3.1.base_lt h b hb)
  have HQH : Hid (0 < m → ∀ b, blk BG = some b → w2.heap.size ≤ b ∧ b < w3.heap.size) := Lib.hid (fun h b hb => J3.2.1.base_lt h b hb)
  have HX3 := Lib.hid (HX2.out.below b3 HX2.out.1)
  have rM3 := Lib.hid (rM2.out.below b3 (Nat.le_refl _))
  have rN3 := Lib.hid (rN2.out.below b3 (Nat.le_refl _))
  have HB3 := Lib.hid (HB2.out.trans (b3.mono HB2.out.size))
  have z3 := (b3).size
  clear HB2 HX2 rM2 rN2 b3
  have jG3 := Lib.hid J3
  clear J3
  have kX_z := HX3.out.1
  have kX_0 := HX3.out.2 0 _ rfl
  have kX_1 := HX3.out.2 1 _ rfl
  go_wp2_with fail
  clear kX_z kX_0 kX_1
  have bN := (Below.refl w3.heap.size w3).alloc (Nat.le_refl _) (.cells #[.slice AG n cG, .slice BG m dG] 54)
  have HY4 := Lib.hid (Cel.new w3 [.slice AG n cG, .slice BG m dG] 54)
  have zz4 : w3.heap.size + 1 ≤ (w3.alloc (.cells #[.slice AG n cG, .slice BG m dG] 54)).heap.size := by simp
  have HX4 := Lib.hid (HX3.out.below bN HX3.out.1)
  have rM4 := Lib.hid (rM3.out.below bN (Nat.le_refl _))
  have rN4 := Lib.hid (rN3.out.below bN (Nat.le_refl _))
  have jG4 := Lib.hid (jG3.out.below bN (Nat.le_refl _))
  have HB4 := Lib.hid (HB3.out.trans (bN.mono HB3.out.size))
  have z4 := (bN).size
  clear HB3 HX3 rM3 rN3 jG3 bN
  generalize w3.alloc (.cells #[.slice AG n cG, .slice BG m dG] 54) = w4 at *
  generalize hbeY : w3.heap.size = bY at *
  clear hbeY
  refine (eqJ_same _ AG AM BG BM n cG cM m dG dM f g jG4.out.1.row rM4.out jG4.out.2.1.row rN4.out).mono ?_
  rintro e w5 ⟨rfl, b5⟩
  have HX5 := Lib.hid (HX4.out.below b5 HX4.out.1)
  have HY5 := Lib.hid (HY4.out.below b5 HY4.out.1)
  have rM5 := Lib.hid (rM4.out.below b5 (Nat.le_refl _))
  have rN5 := Lib.hid (rN4.out.below b5 (Nat.le_refl _))
  have jG5 := Lib.hid (jG4.out.below b5 (Nat.le_refl _))
  have HB5 := Lib.hid (HB4.out.trans (b5.mono HB4.out.size))
  have z5 := (b5).size
  clear HB4 HX4 HY4 rM4 rN4 jG4 b5
  have kX_z := HX5.out.1
  have kX_0 := HX5.out.2 0 _ rfl
  have kX_1 := HX5.out.2 1 _ rfl
  have kY_z := HY5.out.1
  have kY_0 := HY5.out.2 0 _ rfl
  have kY_1 := HY5.out.2 1 _ rfl
  go_wp2_with fail
  clear kX_z kX_0 kX_1
  clear kY_z kY_0 kY_1
  refine (markJ_any _ w2.heap.size AG n cG f BG m dG g 1 jG5.out (by omega) (by omega) (by omega)).mono ?_
  rintro e w6 ⟨rfl, J6, b6, kp⟩
  have HX6 := Lib.hid (HX5.out.kept kp (fun h e => by have := HQG.out h _ e; omega) (fun h e => by have := HQH.out h _ e; omega))
  have HY6 := Lib.hid (HY5.out.kept kp (fun h e => by have := HQG.out h _ e; omega) (fun h e => by have := HQH.out h _ e; omega))
  have rM6 := Lib.hid (rM5.out.kept kp (fun b hq hb h e => by have := HQG.out h _ e; have := HQM.out hq b hb; omega) (fun b hq hb h e => by have := HQH.out h _ e; have := HQM.out hq b hb; omega))
  have rN6 := Lib.hid (rN5.out.kept kp (fun b hq hb h e => by have := HQG.out h _ e; have := HQN.out hq b hb; omega) (fun b hq hb h e => by have := HQH.out h _ e; have := HQN.out hq b hb; omega))
  have HB6 := Lib.hid (HB5.out.trans (b6.mono (by omega)))
  have z6 := b6.size
  have jG6 := Lib.hid J6
  clear HX5 HY5 HB5 rM5 rN5 jG5 J6 b6 kp
  have kX_z := HX6.out.1
  have kX_0 := HX6.out.2 0 _ rfl
  have kX_1 := HX6.out.2 1 _ rfl
  have kY_z := HY6.out.1
  have kY_0 := HY6.out.2 0 _ rfl
  have kY_1 := HY6.out.2 1 _ rfl
  go_wp2_with fail
  clear kX_z kX_0 kX_1
  clear kY_z kY_0 kY_1
  refine (heldJ_any _ AG n cG BG m dG 1 jG6.out.1.row jG6.out.2.1.row (by omega) (by omega)).mono ?_
  rintro e w7 ⟨rfl, b7⟩
  have HX7 := Lib.hid (HX6.out.below b7 HX6.out.1)
  have HY7 := Lib.hid (HY6.out.below b7 HY6.out.1)
  have rM7 := Lib.hid (rM6.out.below b7 (Nat.le_refl _))
  have rN7 := Lib.hid (rN6.out.below b7 (Nat.le_refl _))
  have jG7 := Lib.hid (jG6.out.below b7 (Nat.le_refl _))
  have HB7 := Lib.hid (HB6.out.trans (b7.mono HB6.out.size))
  have z7 := (b7).size
  clear HB6 HX6 HY6 rM6 rN6 jG6 b7
  go_wp2_with fail
  refine (HI.out _).mono ?_
  rintro e w8 ⟨AH, cH, BH, dH, rfl, J8, b8⟩
  have HX8 := Lib.hid (HX7.out.below b8 HX7.out.1)
  have HY8 := Lib.hid (HY7.out.below b8 HY7.out.1)
  have rM8 := Lib.hid (rM7.out.below b8 (Nat.le_refl _))
  have rN8 := Lib.hid (rN7.out.below b8 (Nat.le_refl _))
  have jG8 := Lib.hid (jG7.out.below b8 (Nat.le_refl _))
  have HB8 := Lib.hid (HB7.out.trans (b8.mono HB7.out.size))
  have z8 := (b8).size
  clear HB7 HX7 HY7 rM7 rN7 jG7 b8
  have rU8 := Lib.hid J8.1.row
  have rV8 := Lib.hid J8.2.1.row
  clear J8
  have kX_z := HX8.out.1
  have kX_0 := HX8.out.2 0 _ rfl
  have kX_1 := HX8.out.2 1 _ rfl
  have kY_z := HY8.out.1
  have kY_0 := HY8.out.2 0 _ rfl
  have kY_1 := HY8.out.2 1 _ rfl
  go_wp2_with fail
  clear kX_z kX_0 kX_1
  clear kY_z kY_0 kY_1
  have bN := (Below.refl w8.heap.size w8).alloc (Nat.le_refl _) (.cells #[.slice AH n cH, .slice BH m dH] 54)
  have HZ9 := Lib.hid (Cel.new w8 [.slice AH n cH, .slice BH m dH] 54)
  have zz9 : w8.heap.size + 1 ≤ (w8.alloc (.cells #[.slice AH n cH, .slice BH m dH] 54)).heap.size := by simp
  have HX9 := Lib.hid (HX8.out.below bN HX8.out.1)
  have HY9 := Lib.hid (HY8.out.below bN HY8.out.1)
  have rM9 := Lib.hid (rM8.out.below bN (Nat.le_refl _))
  have rN9 := Lib.hid (rN8.out.below bN (Nat.le_refl _))
  have rU9 := Lib.hid (rU8.out.below bN (Nat.le_refl _))
  have rV9 := Lib.hid (rV8.out.below bN (Nat.le_refl _))
  have jG9 := Lib.hid (jG8.out.below bN (Nat.le_refl _))
  have HB9 := Lib.hid (HB8.out.trans (bN.mono HB8.out.size))
  have z9 := (bN).size
  clear HB8 HX8 HY8 rM8 rN8 rU8 rV8 jG8 bN
  generalize w8.alloc (.cells #[.slice AH n cH, .slice BH m dH] 54) = w9 at *
  generalize hbeZ : w8.heap.size = bZ at *
  clear hbeZ
  refine (eqJ_same _ AH AM BH BM n cH cM m dH dM f g rU9.out rM9.out rV9.out rN9.out).mono ?_
  rintro e w10 ⟨rfl, b10⟩
  have HX10 := Lib.hid (HX9.out.below b10 HX9.out.1)
  have HY10 := Lib.hid (HY9.out.below b10 HY9.out.1)
  have HZ10 := Lib.hid (HZ9.out.below b10 HZ9.out.1)
  have rM10 := Lib.hid (rM9.out.below b10 (Nat.le_refl _))
  have rN10 := Lib.hid (rN9.out.below b10 (Nat.le_refl _))
  have rU10 := Lib.hid (rU9.out.below b10 (Nat.le_refl _))
  have rV10 := Lib.hid (rV9.out.below b10 (Nat.le_refl _))
  have jG10 := Lib.hid (jG9.out.below b10 (Nat.le_refl _))
  have HB10 := Lib.hid (HB9.out.trans (b10.mono HB9.out.size))
  have z10 := (b10).size
  clear HB9 HX9 HY9 HZ9 rM9 rN9 rU9 rV9 jG9 b10
  have kX_z := HX10.out.1
  have kX_0 := HX10.out.2 0 _ rfl
  have kX_1 := HX10.out.2 1 _ rfl
  have kY_z := HY10.out.1
  have kY_0 := HY10.out.2 0 _ rfl
  have kY_1 := HY10.out.2 1 _ rfl
  have kZ_z := HZ10.out.1
  have kZ_0 := HZ10.out.2 0 _ rfl
  have kZ_1 := HZ10.out.2 1 _ rfl
  go_wp2_with fail
  clear kX_z kX_0 kX_1
  clear kY_z kY_0 kY_1
  clear kZ_z kZ_0 kZ_1
  refine (heldJ_any _ AG n cG BG m dG 1 jG10.out.1.row jG10.out.2.1.row (by omega) (by omega)).mono ?_
  rintro e w11 ⟨rfl, b11⟩
  have HF := Lib.hid (HB10.out.trans (b11.mono HB10.out.size))
  go_wp2
  go_ret
  exact ⟨rfl, HF.out⟩

theorem walk (w : World) (a0 : Int) (w0 : (Lit.int .i64 a0).wf = true) :
    Calls Try.prog 12 #[.int .i64 a0] w fun e w' => e = .returned (.bool true) ∧ Below w.heap.size w w' := by
  exact core w a0 (njN a0) idF 0 (fun _ => 0) (njC a0) (by unfold njN; split <;> first | omega | (next h => have := in_yes h; omega)) (by omega) (Lib.hid fun w => spec_newJoined w a0) (Lib.hid fun w => impl_newJoined w a0)

set_option maxRecDepth 100000 in
theorem lifted (os : Os) (started : os.Started) (H : Type) (enc : TypeId × Value → H) :
    ReturnsInHanded {} Try.checked os 12 .any (Rows.fnExactNewJoinedSpec.pre6 enc Try.prog Try.f12 Rows.fnExactNewJoinedRow.domain false) (Rows.fnExactNewJoinedSpec.post enc Try.prog Try.f12 false true false false) := by
  refine returnsInHanded_of_change (C := Try.checked) own started (by kernel_rfl) Try.func12
    (ChangeSpec.witness6 (enc := enc) (C := Try.checked) false ⟨#[], #[.int .i64 0], []⟩ 8 (by kernel_rfl) (by kernel_rfl) (by kernel_rfl) (by kernel_rfl)) ?_
  intro W base args ds gs before hval0 hW hcnd _
  have hval : ∀ (j : Nat) t v, Try.f12.params[j]? = some t → args[j]? = some v → Value.okWide Try.prog W .any base t v := hval0
  have hW' := hW
  obtain ⟨p, q, hA0, hV, rfl, hfz, hnd⟩ := hW
  have hA : DataW.TrodAll enc Try.prog W 0 (fun _ => true) true Try.f12.params.toList args.toList ds p := hA0
  rw [Try.params12] at hA hval
  obtain ⟨v0, vs0, d0, ds0, p0, q0, hargs, rfl, rfl, h0, tl0⟩ := trodAll_cons hA
  obtain ⟨rfl, rfl, rfl⟩ := trodAll_nil tl0
  obtain rfl : args = #[v0] := by cases args; simp_all
  obtain ⟨rfl, rfl⟩ := trodVars_none hV
  have k0 := h0
  have lt0 : ∀ x ∈ p0, x.block < W.heap.size := by obtain ⟨m, hm⟩ := k0; exact DataW.trod_lt m _ _ _ hm
  obtain ⟨a0, rfl, rfl, rfl, w0⟩ := open_int Try.underlying2 (hval 0 2 v0 rfl rfl) h0
  clear hA0 hval0
  refine (walk W a0 w0).mono fun e W' ⟨he, bel⟩ => ?_
  subst he
  exact ⟨_, rfl, _, _, _, [], _, [], hW', trodAll_mk1 (shut_bool Try.underlying4 _), (trodAll_cons_mk (Below.trod laidOut (by kernel_rfl) (of_decide_eq_true (by kernel_rfl)) k0 bel lt0) trodAll_mk0), rfl, bel.frame _, fun h => by cases h⟩

theorem over : Rows.fnExactNewJoinedRow.holds Try.pinned (OpenSpec.ofChange Rows.fnExactNewJoinedSpec) :=
  OpenClaim.holds_of_wide 12 Try.f12 rfl rfl rfl rfl rfl rfl rfl ⟨rfl, rfl, rfl, rfl, rfl⟩ rfl rfl rfl rfl rfl (by kernel_rfl) Try.func12 (by kernel_rfl)
    (of_decide_eq_true (by kernel_rfl)) (by unfold Func.isWrapper; first | (rw [if_pos (by decide +kernel)]; kernel_rfl) | (rw [if_neg (by decide +kernel)]; exact ⟨rfl, rfl⟩))
    (fun os started H enc _ => lifted os started H enc)

theorem proved : Rows.FnExactNewJoinedSaid := over
#print axioms proved
end Go.Proofs.Ytfgbfmpolhilcaa.fnExactNewJoined
