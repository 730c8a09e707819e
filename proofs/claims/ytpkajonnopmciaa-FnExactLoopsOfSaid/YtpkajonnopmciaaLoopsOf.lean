/- Proved: whatever list or lists of numbers (of at most 2^20 each; for longer ones the law answers true at once) LoopsOf of the program is called with, it answers as the model and changes nothing. No condition. -/
import Derived.Test.YtpkajonnopmciaaRows
import Derived.Test.YtpkajonnopmciaaBase
import Derived.Test.YtpkajonnopmciaaPan
import Derived.Test.YtpkajonnopmciaaPlp
import Derived.WalkKit
import Derived.ProofKit
import Derived.OpenShut
import Derived.ShutString
import Derived.ChangeOld
import Derived.Below
import Derived.Lib.SmallJoins
namespace Go.Proofs.Ytpkajonnopmciaa.fnExactLoopsOf
open Go.ChangeShapes Go.WideShapes Go.ChangeAt Go.RowKit Go.Joins
open Go.ChangeMaps (open_string shut_string)
open Go.Proofs.Ytpkajonnopmciaa.Base
set_option linter.unusedVariables false
theorem own : ownKnob Try.prog.godebug = none := by kernel_rfl
theorem laidOut : laidOutB Try.prog = true := by kernel_rfl

theorem walk (w : World) (A0 : Option Addr) (n0 c0 : Nat) (zs0 : Nat → Int) (r0 : Row .i64 w A0 n0 c0 zs0) (A1 : Option Addr) (n1 c1 : Nat) (zs1 : Nat → Int) (r1 : Row .i64 w A1 n1 c1 zs1) :
    Calls Try.prog 9 #[.slice A0 n0 c0, .slice A1 n1 c1] w fun e w' => e = .returned (.bool true) ∧ Below w.heap.size w w' := by
  have hm0 : n0 ≤ 9223372036854775807 := by have := r0.1; have := r0.2.1; unfold maxLen at this; omega
  have hm1 : n1 ≤ 9223372036854775807 := by have := r1.1; have := r1.2.1; unfold maxLen at this; omega
  by_cases hs0 : n0 ≤ 1048576
  · skip
    by_cases hs1 : n1 ≤ 1048576
    · skip
      have HA0 := Lib.hid r0
      have HA1 := Lib.hid r1
      clear r0 r1
      have HB := Lib.hid (Below.refl w.heap.size w)
      go_enter Try.func9, Try.ntmps9
      go_wp2_with fail
      refine (toInts_any _ A0 n0 c0 zs0 HA0.out hs0).mono ?_
      rintro e w1 ⟨pS0, rfl, hpS0, rowS0, bT⟩
      replace HA0 := Lib.hid (HA0.out.below bT (Nat.le_refl _))
      replace HA1 := Lib.hid (HA1.out.below bT (Nat.le_refl _))
      replace HB := Lib.hid (HB.out.trans (bT.mono HB.out.size))
      clear bT
      have S0 := Lib.hid (Row.of_rowIs rowS0 (by unfold maxLen; omega) HA0.out.2.2.1)
      clear rowS0
      go_wp2_with fail
      refine (toInts_any _ A1 n1 c1 zs1 HA1.out hs1).mono ?_
      rintro e w2 ⟨pS1, rfl, hpS1, rowS1, bT⟩
      replace HA0 := Lib.hid (HA0.out.below bT (Nat.le_refl _))
      replace HA1 := Lib.hid (HA1.out.below bT (Nat.le_refl _))
      replace S0 := Lib.hid (S0.out.below bT (Nat.le_refl _))
      replace HB := Lib.hid (HB.out.trans (bT.mono HB.out.size))
      clear bT
      have S1 := Lib.hid (Row.of_rowIs rowS1 (by unfold maxLen; omega) HA1.out.2.2.1)
      clear rowS1
      go_wp2_with fail
      refine (spec_loopsOf _ (some ⟨pS0, 0, none⟩) n0 n0 zs0 (some ⟨pS1, 0, none⟩) n1 n1 zs1 S0.out S1.out).mono ?_
      rintro e w3 ⟨rfl, bT⟩
      replace HA0 := Lib.hid (HA0.out.below bT (Nat.le_refl _))
      replace HA1 := Lib.hid (HA1.out.below bT (Nat.le_refl _))
      replace S0 := Lib.hid (S0.out.below bT (Nat.le_refl _))
      replace S1 := Lib.hid (S1.out.below bT (Nat.le_refl _))
      replace HB := Lib.hid (HB.out.trans (bT.mono HB.out.size))
      clear bT
      clear S0 hpS0
      clear S1 hpS1
      go_wp2_with fail
      refine (toInts_any _ A0 n0 c0 zs0 HA0.out hs0).mono ?_
      rintro e w4 ⟨pX0, rfl, hpX0, rowX0, bT⟩
      replace HA0 := Lib.hid (HA0.out.below bT (Nat.le_refl _))
      replace HA1 := Lib.hid (HA1.out.below bT (Nat.le_refl _))
      replace HB := Lib.hid (HB.out.trans (bT.mono HB.out.size))
      clear bT
      have X0 := Lib.hid (Row.of_rowIs rowX0 (by unfold maxLen; omega) HA0.out.2.2.1)
      clear rowX0
      go_wp2_with fail
      refine (toInts_any _ A1 n1 c1 zs1 HA1.out hs1).mono ?_
      rintro e w5 ⟨pX1, rfl, hpX1, rowX1, bT⟩
      replace HA0 := Lib.hid (HA0.out.below bT (Nat.le_refl _))
      replace HA1 := Lib.hid (HA1.out.below bT (Nat.le_refl _))
      replace X0 := Lib.hid (X0.out.below bT (Nat.le_refl _))
      replace HB := Lib.hid (HB.out.trans (bT.mono HB.out.size))
      clear bT
      have X1 := Lib.hid (Row.of_rowIs rowX1 (by unfold maxLen; omega) HA1.out.2.2.1)
      clear rowX1
      go_wp2_with fail
      refine (impl_loopsOf _ (some ⟨pX0, 0, none⟩) n0 n0 zs0 (some ⟨pX1, 0, none⟩) n1 n1 zs1 X0.out X1.out).mono ?_
      rintro e w6 ⟨rfl, bT⟩
      replace HA0 := Lib.hid (HA0.out.below bT (Nat.le_refl _))
      replace HA1 := Lib.hid (HA1.out.below bT (Nat.le_refl _))
      replace X0 := Lib.hid (X0.out.below bT (Nat.le_refl _))
      replace X1 := Lib.hid (X1.out.below bT (Nat.le_refl _))
      replace HB := Lib.hid (HB.out.trans (bT.mono HB.out.size))
      clear bT
      go_wp2_with fail
      refine (toInts_any _ A0 n0 c0 zs0 HA0.out hs0).mono ?_
      rintro e w7 ⟨pY0, rfl, hpY0, rowY0, bT⟩
      replace HA0 := Lib.hid (HA0.out.below bT (Nat.le_refl _))
      replace HA1 := Lib.hid (HA1.out.below bT (Nat.le_refl _))
      replace X0 := Lib.hid (X0.out.below bT (Nat.le_refl _))
      replace X1 := Lib.hid (X1.out.below bT (Nat.le_refl _))
      replace HB := Lib.hid (HB.out.trans (bT.mono HB.out.size))
      clear bT
      have Y0 := Lib.hid (Row.of_rowIs rowY0 (by unfold maxLen; omega) HA0.out.2.2.1)
      clear rowY0
      go_wp2_with fail
      refine (eqInts_same _ _ _ n0 n0 n0 zs0 X0.out Y0.out).mono ?_
      rintro e w8 ⟨mm0, rfl, rfl⟩
      have bT := below_of_drew (m := mm0) (w := w7) rfl
      replace HB := Lib.hid (below_drewN HB.out mm0)
      replace HA0 := Lib.hid (HA0.out.below bT (Nat.le_refl _))
      replace HA1 := Lib.hid (HA1.out.below bT (Nat.le_refl _))
      replace X0 := Lib.hid (X0.out.below bT (Nat.le_refl _))
      replace X1 := Lib.hid (X1.out.below bT (Nat.le_refl _))
      replace Y0 := Lib.hid (Y0.out.below bT (Nat.le_refl _))
      clear bT
      go_wp2_with fail
      refine (toInts_any _ A1 n1 c1 zs1 HA1.out hs1).mono ?_
      rintro e w9 ⟨pY1, rfl, hpY1, rowY1, bT⟩
      replace HA0 := Lib.hid (HA0.out.below bT (Nat.le_refl _))
      replace HA1 := Lib.hid (HA1.out.below bT (Nat.le_refl _))
      replace X0 := Lib.hid (X0.out.below bT (Nat.le_refl _))
      replace X1 := Lib.hid (X1.out.below bT (Nat.le_refl _))
      replace Y0 := Lib.hid (Y0.out.below bT (Nat.le_refl _))
      replace HB := Lib.hid (HB.out.trans (bT.mono HB.out.size))
      clear bT
      have Y1 := Lib.hid (Row.of_rowIs rowY1 (by unfold maxLen; omega) HA1.out.2.2.1)
      clear rowY1
      go_wp2_with fail
      refine (eqInts_same _ _ _ n1 n1 n1 zs1 X1.out Y1.out).mono ?_
      rintro e w10 ⟨mm1, rfl, rfl⟩
      have bT := below_of_drew (m := mm1) (w := w9) rfl
      replace HB := Lib.hid (below_drewN HB.out mm1)
      replace HA0 := Lib.hid (HA0.out.below bT (Nat.le_refl _))
      replace HA1 := Lib.hid (HA1.out.below bT (Nat.le_refl _))
      replace X0 := Lib.hid (X0.out.below bT (Nat.le_refl _))
      replace X1 := Lib.hid (X1.out.below bT (Nat.le_refl _))
      replace Y0 := Lib.hid (Y0.out.below bT (Nat.le_refl _))
      replace Y1 := Lib.hid (Y1.out.below bT (Nat.le_refl _))
      clear bT
      go_wp2
      go_ret
      exact ⟨rfl, HB.out⟩
    · have hs1 : 1048576 < n1 := by omega
      go_enter Try.func9, Try.ntmps9
      go_wp2
      go_ret
      exact ⟨rfl, Below.refl _ _⟩
  · have hs0 : 1048576 < n0 := by omega
    go_enter Try.func9, Try.ntmps9
    go_wp2
    go_ret
    exact ⟨rfl, Below.refl _ _⟩

set_option maxRecDepth 100000 in
theorem lifted (os : Os) (started : os.Started) (H : Type) (enc : TypeId × Value → H) :
    ReturnsInHanded {} Try.checked os 9 .any (Rows.fnExactLoopsOfSpec.pre6 enc Try.prog Try.f9 Rows.fnExactLoopsOfRow.domain false) (Rows.fnExactLoopsOfSpec.post enc Try.prog Try.f9 false true false false) := by
  refine returnsInHanded_of_change (C := Try.checked) own started (by kernel_rfl) Try.func9
    (ChangeSpec.witness6 (enc := enc) (C := Try.checked) false ⟨#[], #[.slice none 0 0, .slice none 0 0], []⟩ 8 (by kernel_rfl) (by kernel_rfl) (by kernel_rfl) (by kernel_rfl)) ?_
  intro W base args ds gs before hval0 hW hcnd _
  have hval : ∀ (j : Nat) t v, Try.f9.params[j]? = some t → args[j]? = some v → Value.okWide Try.prog W .any base t v := hval0
  have hW' := hW
  obtain ⟨p, q, hA0, hV, rfl, hfz, hnd⟩ := hW
  have hA : DataW.TrodAll enc Try.prog W 0 (fun _ => true) true Try.f9.params.toList args.toList ds p := hA0
  rw [Try.params9] at hA hval
  obtain ⟨v0, vs0, d0, ds0, p0, q0, hargs, rfl, rfl, h0, tl0⟩ := trodAll_cons hA
  obtain ⟨v1, vs1, d1, ds1, p1, q1, rfl, rfl, rfl, h1, tl1⟩ := trodAll_cons tl0
  obtain ⟨rfl, rfl, rfl⟩ := trodAll_nil tl1
  obtain rfl : args = #[v0, v1] := by cases args; simp_all
  obtain ⟨rfl, rfl⟩ := trodVars_none hV
  have k0 := h0
  have lt0 : ∀ x ∈ p0, x.block < W.heap.size := by obtain ⟨m, hm⟩ := k0; exact DataW.trod_lt m _ _ _ hm
  have k1 := h1
  have lt1 : ∀ x ∈ p1, x.block < W.heap.size := by obtain ⟨m, hm⟩ := k1; exact DataW.trod_lt m _ _ _ hm
  obtain ⟨A0, n0, c0, rfl⟩ := okWide_slice Try.underlying22 (hval 0 22 v0 rfl rfl)
  obtain ⟨zs0, r0⟩ : ∃ zs, Row .i64 W A0 n0 c0 zs := by
    obtain ⟨fuel, hf⟩ := h0
    obtain ⟨A', n', c', zs, e2, r⟩ := row_of Try.underlying22 Try.underlying2 (by kernel_rfl) hf (fun x hx => lt0 x hx)
    simp [Value.cells] at e2
    obtain ⟨rfl, rfl, rfl⟩ := e2
    exact ⟨zs, r⟩
  obtain ⟨A1, n1, c1, rfl⟩ := okWide_slice Try.underlying22 (hval 1 22 v1 rfl rfl)
  obtain ⟨zs1, r1⟩ : ∃ zs, Row .i64 W A1 n1 c1 zs := by
    obtain ⟨fuel, hf⟩ := h1
    obtain ⟨A', n', c', zs, e2, r⟩ := row_of Try.underlying22 Try.underlying2 (by kernel_rfl) hf (fun x hx => lt1 x hx)
    simp [Value.cells] at e2
    obtain ⟨rfl, rfl, rfl⟩ := e2
    exact ⟨zs, r⟩
  clear hA0 hval0
  refine (walk W A0 n0 c0 zs0 r0 A1 n1 c1 zs1 r1).mono fun e W' ⟨he, bel⟩ => ?_
  subst he
  exact ⟨_, rfl, _, _, _, [], _, [], hW', trodAll_mk1 (shut_bool Try.underlying4 _), (trodAll_cons_mk (Below.trod laidOut (by kernel_rfl) (of_decide_eq_true (by kernel_rfl)) k0 bel lt0) (trodAll_cons_mk (Below.trod laidOut (by kernel_rfl) (of_decide_eq_true (by kernel_rfl)) k1 bel lt1) trodAll_mk0)), rfl, bel.frame _, fun h => by cases h⟩

theorem over : Rows.fnExactLoopsOfRow.holds Try.pinned (OpenSpec.ofChange Rows.fnExactLoopsOfSpec) :=
  OpenClaim.holds_of_wide 9 Try.f9 rfl rfl rfl rfl rfl rfl rfl ⟨rfl, rfl, rfl, rfl, rfl⟩ rfl rfl rfl rfl rfl (by kernel_rfl) Try.func9 (by kernel_rfl)
    (of_decide_eq_true (by kernel_rfl)) (by unfold Func.isWrapper; first | (rw [if_pos (by decide +kernel)]; kernel_rfl) | (rw [if_neg (by decide +kernel)]; exact ⟨rfl, rfl⟩))
    (fun os started H enc _ => lifted os started H enc)

theorem proved : Rows.FnExactLoopsOfSaid := over
#print axioms proved
end Go.Proofs.Ytpkajonnopmciaa.fnExactLoopsOf
