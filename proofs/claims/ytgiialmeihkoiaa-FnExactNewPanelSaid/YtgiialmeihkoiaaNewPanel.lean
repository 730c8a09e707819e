/- Proved: whatever two numbers NewPanel of the program is called with, it answers as the model, every field; its panel's memory is its own. No condition. -/
import Derived.Test.YtgiialmeihkoiaaRows
import Derived.Test.YtgiialmeihkoiaaBase
import Derived.Test.YtgiialmeihkoiaaPan
import Derived.Test.YtgiialmeihkoiaaCopy
import Derived.Test.YtgiialmeihkoiaaMark
import Derived.Test.YtgiialmeihkoiaaNew
import Derived.WalkKit
import Derived.ProofKit
import Derived.OpenShut
import Derived.ShutString
import Derived.ChangeOld
import Derived.Below
import Derived.Lib.SmallJoins
namespace Go.Proofs.Ytgiialmeihkoiaa.fnExactNewPanel
open Go.ChangeShapes Go.WideShapes Go.ChangeAt Go.RowKit Go.Joins
open Go.ChangeMaps (open_string shut_string)
open Go.Proofs.Ytgiialmeihkoiaa.Base
set_option linter.unusedVariables false
theorem own : ownKnob Try.prog.godebug = none := by kernel_rfl
theorem laidOut : laidOutB Try.prog = true := by kernel_rfl

theorem core (w : World) (a0 a1 W H code : Int) (n : Nat) (f : Nat → Int) (hn20 : n ≤ 1048576)
    (HS : Hid (∀ w : World, Calls Try.prog 39 #[.int .i64 a0, .int .i64 a1] w (PanelOut W H n f code w)))
    (HI : Hid (∀ w : World, Calls Try.prog 40 #[.int .i64 a0, .int .i64 a1] w (PanelOut W H n f code w))) :
    Calls Try.prog 9 #[.int .i64 a0, .int .i64 a1] w fun e w' => e = .returned (.bool true) ∧ Below w.heap.size w w' := by
  have hc : (code != code) = false := by simp
  have hm : ((1 + (n : Int)) != 1 + (n : Int)) = false := by simp
  go_enter Try.func9, Try.ntmps9
  go_wp2_with fail
  refine (HS.out _).mono ?_
  rintro e w1 ⟨A0, c0, rfl, R0, b1⟩
  have hR0 := Lib.hid R0.row
  have z1 := b1.size
  have HB1 := Lib.hid b1
  clear R0 b1
  go_wp2_with fail
  -- the box of the model's panel
  have bx := (Below.refl w1.heap.size w1).alloc (Nat.le_refl _) (.cells #[.int .i64 W, .int .i64 H, .slice A0 n c0] 26)
  have HX1 := Lib.hid (Box.new w1 26 W H A0 n c0)
  have HBX := Lib.hid bx
  clear bx
  refine (HI.out _).mono ?_
  rintro e w2 ⟨A1, c1, rfl, R1, b2⟩
  have HB12 := Lib.hid (HBX.out.trans (b2.mono (by simp)))
  have HX2 := Lib.hid (HX1.out.below b2 HX1.out.1)
  have z2 : w1.heap.size + 1 ≤ w2.heap.size := by have := b2.size; simp at this; omega
  simp only [World.size_alloc] at R1
  have HR1 := Lib.hid R1
  clear R1 b2 HX1 HBX
  have hz2 := HX2.out.1
  obtain ⟨-, k0, k1, k2⟩ := id HX2.out
  go_wp2_with fail
  clear k0 k1 k2
  -- the box of the program's panel
  have bx := (Below.refl w2.heap.size w2).alloc (Nat.le_refl _) (.cells #[.int .i64 W, .int .i64 H, .slice A1 n c1] 26)
  have HY3 := Lib.hid (Box.new w2 26 W H A1 n c1)
  have HX3 := Lib.hid (HX2.out.below bx HX2.out.1)
  have HB13 := Lib.hid (HB12.out.trans (bx.mono (by omega)))
  have HR3 := Lib.hid (HR1.out.below bx (Nat.le_refl _))
  clear bx HX2
  refine (eqPanel_same _ W H A1 A0 n c1 c0 f HR3.out.row (hR0.out.below HB13.out (Nat.le_refl _))).mono ?_
  rintro e w3 ⟨rfl, b3⟩
  have HX4 := Lib.hid (HX3.out.below b3 HX3.out.1)
  have HY4 := Lib.hid (HY3.out.below b3 HY3.out.1)
  have HB14 := Lib.hid (HB13.out.trans (b3.mono (by simp; omega)))
  have HR4 := Lib.hid (HR3.out.below b3 (Nat.le_refl _))
  have z3 : w2.heap.size + 1 ≤ w3.heap.size := by have := b3.size; simp at this; omega
  clear b3 HX3 HY3 HB13 HR3 HB12
  obtain ⟨-, k0, k1, k2⟩ := id HY4.out
  go_wp2_with fail
  clear k0 k1 k2
  refine (markPanel_any _ (w1.heap.size + 1) W H A1 n c1 f 1 HR4.out (by omega) (by omega)).mono ?_
  rintro e w4 ⟨rfl, R5, r, g5, hr5⟩
  have HBM := Lib.hid (Marked.below g5 hr5 HR4.out (by omega))
  have HX5 := Lib.hid (HX4.out.below HBM.out (by omega))
  have hY5 : Box w4 w2.heap.size W H A1 n c1 := HY4.out.grown' g5 (fun e => by
    obtain ⟨hn, hA⟩ := hr5 _ e
    obtain ⟨b, hb, _, hlt⟩ := HR1.out.base_le hn
    rw [hA] at hb
    injection hb with hb
    omega)
  have HY5 := Lib.hid hY5
  have HB15 := Lib.hid (HB14.out.trans (HBM.out.mono (by omega)))
  have HR5 := Lib.hid R5
  have z4 : w3.heap.size ≤ w4.heap.size := g5.size
  clear hY5 g5 hr5 R5 HX4 HY4 HB14 HR4
  obtain ⟨-, k0, k1, k2⟩ := id HY5.out
  go_wp2_with fail
  clear k0 k1 k2
  refine (heldPanel_any _ W H A1 n c1 1 HR5.out.row (by omega) (by omega)).mono ?_
  rintro e w5 ⟨rfl, b6⟩
  have HX6 := Lib.hid (HX5.out.below b6 HX5.out.1)
  have HY6 := Lib.hid (HY5.out.below b6 HY5.out.1)
  have HB16 := Lib.hid (HB15.out.trans (b6.mono (by omega)))
  have HR6 := Lib.hid (HR5.out.below b6 (Nat.le_refl _))
  have z5 := b6.size
  clear b6 HX5 HY5 HB15 HR5
  go_wp2_with fail
  refine (HI.out _).mono ?_
  rintro e w6 ⟨A2, c2, rfl, R2, b7⟩
  have HX7 := Lib.hid (HX6.out.below b7 HX6.out.1)
  have HY7 := Lib.hid (HY6.out.below b7 HY6.out.1)
  have HB17 := Lib.hid (HB16.out.trans (b7.mono (by omega)))
  have HR7 := Lib.hid (HR6.out.below b7 (Nat.le_refl _))
  have HR2 := Lib.hid R2
  have z6 := b7.size
  clear b7 HX6 HY6 HB16 HR6 R2
  obtain ⟨hzx, k0, k1, k2⟩ := id HX7.out
  go_wp2_with fail
  clear hzx k0 k1 k2
  have bx := (Below.refl w6.heap.size w6).alloc (Nat.le_refl _) (.cells #[.int .i64 W, .int .i64 H, .slice A2 n c2] 26)
  have HY8 := Lib.hid (HY7.out.below bx HY7.out.1)
  have HB18 := Lib.hid (HB17.out.trans (bx.mono (by omega)))
  have HR8 := Lib.hid (HR7.out.below bx (Nat.le_refl _))
  have HR28 := Lib.hid (HR2.out.below bx (Nat.le_refl _))
  clear bx HX7 HY7 HB17 HR7 HR2
  refine (eqPanel_same _ W H A2 A0 n c2 c0 f HR28.out.row (hR0.out.below HB18.out (Nat.le_refl _))).mono ?_
  rintro e w7 ⟨rfl, b9⟩
  have HY9 := Lib.hid (HY8.out.below b9 HY8.out.1)
  have HB19 := Lib.hid (HB18.out.trans (b9.mono (by simp; omega)))
  have HR9 := Lib.hid (HR8.out.below b9 (Nat.le_refl _))
  have z7 : w6.heap.size + 1 ≤ w7.heap.size := by have := b9.size; simp at this; omega
  clear b9 HY8 HB18 HR8 HR28
  obtain ⟨-, k0, k1, k2⟩ := id HY9.out
  go_wp2_with fail
  clear k0 k1 k2
  refine (heldPanel_any _ W H A1 n c1 1 HR9.out.row (by omega) (by omega)).mono ?_
  rintro e w8 ⟨rfl, b10⟩
  have HBF := Lib.hid (HB1.out.trans ((HB19.out.mono z1).trans (b10.mono (by omega))))
  clear b10
  go_wp2
  go_ret
  exact ⟨rfl, HBF.out⟩

theorem walk (w : World) (a0 : Int) (w0 : (Lit.int .i64 a0).wf = true) (a1 : Int) (w1 : (Lit.int .i64 a1).wf = true) :
    Calls Try.prog 9 #[.int .i64 a0, .int .i64 a1] w fun e w' => e = .returned (.bool true) ∧ Below w.heap.size w w' := by
  by_cases h : sideB a0 = true ∧ sideB a1 = true
  · obtain ⟨i1, i2⟩ := inner_bd' h.1 h.2
    have hn : ((inner a0 a1).toNat : Int) = inner a0 a1 := by omega
    exact core w a0 a1 a0 a1 0 (inner a0 a1).toNat (fun _ => 0) (by omega) (Lib.hid fun w => specNewPanel_ok w a0 a1 _ h.1 h.2 hn) (Lib.hid fun w => implNewPanel_ok w a0 a1 _ h.1 h.2 hn)
  · have h' : sideB a0 = false ∨ sideB a1 = false := by
      cases e : sideB a0
      · exact .inl rfl
      · cases e' : sideB a1
        · exact .inr rfl
        · exact absurd ⟨e, e'⟩ h
    exact core w a0 a1 0 0 2 0 (fun _ => 0) (by omega) (Lib.hid fun w => specNewPanel_bad w a0 a1 h') (Lib.hid fun w => implNewPanel_bad w a0 a1 h')

set_option maxRecDepth 100000 in
theorem lifted (os : Os) (started : os.Started) (H : Type) (enc : TypeId × Value → H) :
    ReturnsInHanded {} Try.checked os 9 .any (Rows.fnExactNewPanelSpec.pre6 enc Try.prog Try.f9 Rows.fnExactNewPanelRow.domain false) (Rows.fnExactNewPanelSpec.post enc Try.prog Try.f9 false true false false) := by
  refine returnsInHanded_of_change (C := Try.checked) own started (by kernel_rfl) Try.func9
    (ChangeSpec.witness6 (enc := enc) (C := Try.checked) false ⟨#[], #[.int .i64 0, .int .i64 0], []⟩ 8 (by kernel_rfl) (by kernel_rfl) (by kernel_rfl) (by kernel_rfl)) ?_
  intro W base args ds gs before hval0 hW hcnd _
  have hval : ∀ (j : Nat) t v, Try.f9.params[j]? = some t → args[j]? = some v → Value.okWide Try.prog W .any base t v := hval0
  have hW' := hW
  obtain ⟨p, q, hA0, hV, rfl, hfz, hnd⟩ := hW
  have hA : DataW.TrodAll enc Try.prog W 0 (fun _ => true) true Try.f9.params.toList args.toList ds p := hA0
  rw [Try.params9] at hA hval
  obtain ⟨v0, vs0, d0, ds0, p0, q0, hargs, rfl, rfl, h0, tl0⟩ := trodAll_cons hA
  obtain ⟨v1, vs1, d1, ds1, p1, q1, rfl, rfl, rfl, h1, tl1⟩ := trodAll_cons tl0
  obtain ⟨rfl, rfl, rfl⟩ := trodAll_nil tl1
  obtain rfl : args = #[v0, v1] := by cases args; simp_all
  obtain ⟨rfl, rfl⟩ := trodVars_none hV
  have k0 := h0
  have lt0 : ∀ x ∈ p0, x.block < W.heap.size := by obtain ⟨m, hm⟩ := k0; exact DataW.trod_lt m _ _ _ hm
  have k1 := h1
  have lt1 : ∀ x ∈ p1, x.block < W.heap.size := by obtain ⟨m, hm⟩ := k1; exact DataW.trod_lt m _ _ _ hm
  obtain ⟨a0, rfl, rfl, rfl, w0⟩ := open_int Try.underlying2 (hval 0 2 v0 rfl rfl) h0
  obtain ⟨a1, rfl, rfl, rfl, w1⟩ := open_int Try.underlying2 (hval 1 2 v1 rfl rfl) h1
  clear hA0 hval0
  refine (walk W a0 w0 a1 w1).mono fun e W' ⟨he, bel⟩ => ?_
  subst he
  exact ⟨_, rfl, _, _, _, [], _, [], hW', trodAll_mk1 (shut_bool Try.underlying4 _), (trodAll_cons_mk (Below.trod laidOut (by kernel_rfl) (of_decide_eq_true (by kernel_rfl)) k0 bel lt0) (trodAll_cons_mk (Below.trod laidOut (by kernel_rfl) (of_decide_eq_true (by kernel_rfl)) k1 bel lt1) trodAll_mk0)), rfl, bel.frame _, fun h => by cases h⟩

theorem over : Rows.fnExactNewPanelRow.holds Try.pinned (OpenSpec.ofChange Rows.fnExactNewPanelSpec) :=
  OpenClaim.holds_of_wide 9 Try.f9 rfl rfl rfl rfl rfl rfl rfl ⟨rfl, rfl, rfl, rfl, rfl⟩ rfl rfl rfl rfl rfl (by kernel_rfl) Try.func9 (by kernel_rfl)
    (of_decide_eq_true (by kernel_rfl)) (by unfold Func.isWrapper; first | (rw [if_pos (by decide +kernel)]; kernel_rfl) | (rw [if_neg (by decide +kernel)]; exact ⟨rfl, rfl⟩))
    (fun os started H enc _ => lifted os started H enc)

theorem proved : Rows.FnExactNewPanelSaid := over
#print axioms proved
end Go.Proofs.Ytgiialmeihkoiaa.fnExactNewPanel
