/- Proved: whatever panel (of at most 2^20 breaks; for larger ones the law answers true at once) ValidPanel of the program is called with, it answers as the model and changes nothing. No condition. -/
import Derived.Test.YtgiialmeihkoiaaRows
import Derived.Test.YtgiialmeihkoiaaBase
import Derived.Test.YtgiialmeihkoiaaPan
import Derived.Test.YtgiialmeihkoiaaPanB
import Derived.Test.YtgiialmeihkoiaaCopy
import Derived.WalkKit
import Derived.ProofKit
import Derived.OpenShut
import Derived.ShutString
import Derived.ChangeOld
import Derived.Below
import Derived.Lib.SmallJoins
namespace Go.Proofs.Ytgiialmeihkoiaa.fnExactValidPanel
open Go.ChangeShapes Go.WideShapes Go.ChangeAt Go.RowKit Go.Joins
open Go.ChangeMaps (open_string shut_string)
open Go.Proofs.Ytgiialmeihkoiaa.Base
set_option linter.unusedVariables false
theorem own : ownKnob Try.prog.godebug = none := by kernel_rfl
theorem laidOut : laidOutB Try.prog = true := by kernel_rfl

theorem walk (w : World) (W0 H0 : Int) (A0 : Option Addr) (n0 c0 : Nat) (zs0 : Nat → Int) (wW0 : (Lit.int .i64 W0).wf = true) (wH0 : (Lit.int .i64 H0).wf = true) (r0 : Row .i64 w A0 n0 c0 zs0) :
    Calls Try.prog 6 #[.agg #[.int .i64 W0, .int .i64 H0, .slice A0 n0 c0]] w fun e w' => e = .returned (.bool true) ∧ Below w.heap.size w w' := by
  have hnm : n0 ≤ 9223372036854775807 := by have := r0.1; have := r0.2.1; unfold maxLen at this; omega
  by_cases hs : (n0 : Int) ≤ 1048576
  · have HR := Lib.hid r0
    clear r0
    go_enter Try.func6, Try.ntmps6
    go_wp2_with fail
    refine (sz_yes _ W0 H0 A0 n0 c0 1048576 (by omega) (by omega) hs).mono ?_
    rintro e w1 ⟨rfl, b1⟩
    have x1 := (Box.new w 45 W0 H0 A0 n0 c0).below b1 (by simp)
    have B1 : Below w.heap.size w w1 := ((Below.refl _ _).alloc (Nat.le_refl _) _).trans (b1.mono (by simp))
    clear b1
    obtain ⟨-, k0, k1, k2⟩ := id x1
    go_wp2_with fail
    refine (toPanel_any _ W0 H0 A0 n0 c0 zs0 (HR.out.below B1 (Nat.le_refl _)) (by omega)).mono ?_
    rintro e w2 ⟨bp, rfl, hbp, hrow2, b2⟩
    have R2 : Row .i64 w2 (some ⟨bp, 0, none⟩) n0 n0 zs0 := Row.of_rowIs hrow2 (by unfold maxLen; omega) HR.out.2.2.1
    have x2 := x1.below b2 x1.1
    have B2 : Below w.heap.size w w2 := B1.trans (b2.mono B1.size)
    clear b2 hrow2 k0 k1 k2
    go_wp2_with fail
    refine (spec_validPanel _ W0 H0 _ n0 n0 zs0 R2).mono ?_
    rintro e w3 ⟨rfl, b3⟩
    have x3 := x2.below b3 x2.1
    have B3 : Below w.heap.size w w3 := B2.trans (b3.mono B2.size)
    clear b3 R2
    obtain ⟨-, k0, k1, k2⟩ := id x3
    go_wp2_with fail
    refine (toPanel_any _ W0 H0 A0 n0 c0 zs0 (HR.out.below B3 (Nat.le_refl _)) (by omega)).mono ?_
    rintro e w4 ⟨bq, rfl, hbq, hrow4, b4⟩
    have R4 : Row .i64 w4 (some ⟨bq, 0, none⟩) n0 n0 zs0 := Row.of_rowIs hrow4 (by unfold maxLen; omega) HR.out.2.2.1
    have x4 := x3.below b4 x3.1
    have B4 : Below w.heap.size w w4 := B3.trans (b4.mono B3.size)
    clear b4 hrow4 k0 k1 k2
    go_wp2_with fail
    have bN : Below w4.heap.size w4 (w4.alloc (.cells #[.int .i64 W0, .int .i64 H0, .slice (some ⟨bq, 0, none⟩) n0 n0] 26)) := (Below.refl _ _).alloc (Nat.le_refl _) _
    have y5 := Box.new w4 26 W0 H0 (some ⟨bq, 0, none⟩) n0 n0
    have R5 := R4.below bN (Nat.le_refl _)
    have x5 := x4.below bN x4.1
    have B5 := B4.trans (bN.mono B4.size)
    clear bN R4
    refine (impl_validPanel _ W0 H0 _ n0 n0 zs0 R5).mono ?_
    rintro e w6 ⟨rfl, b6⟩
    have y6 := y5.below b6 y5.1
    have x6 := x5.below b6 x5.1
    have R6 := R5.below b6 (Nat.le_refl _)
    have B6 : Below w.heap.size w w6 := B5.trans (b6.mono B5.size)
    have hz6 := y6.1
    clear b6 y5 x5 R5 B5 B4 B3 B2 B1 x4 x3 x2 x1
    have HR6 := Lib.hid R6
    have HA6 := Lib.hid (HR.out.below B6 (Nat.le_refl _))
    have hv : (validB W0 H0 n0 zs0 != validB W0 H0 n0 zs0) = false := by simp
    have hn20 : n0 ≤ 1048576 := by omega
    have hn63 : n0 ≤ maxLen := by unfold maxLen; omega
    have HW := Lib.hid HR.out.2.2.1
    have ST := Lib.hid (keep6d y6 x6 (Below.refl _ _))
    have HB6 := Lib.hid B6
    have hsz : w.heap.size ≤ w6.heap.size := B6.size
    clear R6 HR B6
    obtain ⟨-, k0, k1, k2⟩ := y6
    obtain ⟨-, k3, k4, k5⟩ := x6
    go_wp2
    clear k0 k1 k2 k3 k4 k5
    go_region_held3 (fun w' => w'.cell? ⟨w4.heap.size, 0, none⟩ = some (.int .i64 W0) ∧ w'.cell? ⟨w4.heap.size, 1, none⟩ = some (.int .i64 H0) ∧ w'.cell? ⟨w4.heap.size, 2, none⟩ = some (.slice (some ⟨bq, 0, none⟩) n0 n0) ∧
        w'.cell? ⟨w.heap.size, 0, none⟩ = some (.int .i64 W0) ∧ w'.cell? ⟨w.heap.size, 1, none⟩ = some (.int .i64 H0) ∧ w'.cell? ⟨w.heap.size, 2, none⟩ = some (.slice A0 n0 c0) ∧ Below w6.heap.size w6 w')
      (first | exact ST.out | exact keep6 (by assumption) (by assumption))
      (first | (go_at_call 33; refine (toPanel_any _ W0 H0 A0 n0 c0 zs0 ?_ hn20).mono ?_; exact row_keep6 (by assumption) HA6.out; rintro e w7 ⟨bz, rfl, hbz, hrow7, b7⟩) | (go_at_call 35; refine (eqPanel_same _ W0 H0 _ _ n0 n0 n0 zs0 ?_ ?_).mono ?_; exact row_keep6 (by assumption) HR6.out; exact Row.of_rowIs hrow7 hn63 HW.out; rintro e w8 ⟨rfl, b8⟩))
    rename_i hS
    have hB := hS.2.2.2.2.2.2
    clear hS
    go_wp2
    go_ret
    exact ⟨rfl, HB6.out.trans (hB.mono hsz)⟩
  · have hs : 1048576 < (n0 : Int) := by omega
    go_enter Try.func6, Try.ntmps6
    go_wp2_with fail
    refine (sz_no _ W0 H0 A0 n0 c0 1048576 (by omega) (by omega) hnm hs).mono ?_
    rintro e w1 ⟨rfl, b1⟩
    go_wp2
    go_ret
    exact ⟨rfl, ((Below.refl _ _).alloc (Nat.le_refl _) _).trans (b1.mono (by simp))⟩

set_option maxRecDepth 100000 in
theorem lifted (os : Os) (started : os.Started) (H : Type) (enc : TypeId × Value → H) :
    ReturnsInHanded {} Try.checked os 6 .any (Rows.fnExactValidPanelSpec.pre6 enc Try.prog Try.f6 Rows.fnExactValidPanelRow.domain false) (Rows.fnExactValidPanelSpec.post enc Try.prog Try.f6 false true false false) := by
  refine returnsInHanded_of_change (C := Try.checked) own started (by kernel_rfl) Try.func6
    (ChangeSpec.witness6 (enc := enc) (C := Try.checked) false ⟨#[], #[.agg #[.int .i64 0, .int .i64 0, .slice none 0 0]], []⟩ 8 (by kernel_rfl) (by kernel_rfl) (by kernel_rfl) (by kernel_rfl)) ?_
  intro W base args ds gs before hval0 hW hcnd _
  have hval : ∀ (j : Nat) t v, Try.f6.params[j]? = some t → args[j]? = some v → Value.okWide Try.prog W .any base t v := hval0
  have hW' := hW
  obtain ⟨p, q, hA0, hV, rfl, hfz, hnd⟩ := hW
  have hA : DataW.TrodAll enc Try.prog W 0 (fun _ => true) true Try.f6.params.toList args.toList ds p := hA0
  rw [Try.params6] at hA hval
  obtain ⟨v0, vs0, d0, ds0, p0, q0, hargs, rfl, rfl, h0, r0⟩ := trodAll_cons hA
  obtain ⟨rfl, rfl, rfl⟩ := trodAll_nil r0
  obtain rfl : args = #[v0] := by cases args; simp_all
  obtain ⟨rfl, rfl⟩ := trodVars_none hV
  have k0 := h0
  have lt0 : ∀ x ∈ p0, x.block < W.heap.size := by obtain ⟨m, hm⟩ := k0; exact DataW.trod_lt m _ _ _ hm
  obtain ⟨u00, u01, u02, y00, y01, y02, m0, rfl, rfl, hp0, g00, g01, g02⟩ := open_agg3 Try.underlying45 (by kernel_rfl) (by kernel_rfl) (hval 0 45 v0 rfl rfl) h0
  obtain ⟨W0, e00, -, wW0⟩ := DataW.trod_int Try.underlying2 g00
  obtain ⟨H0, e01, -, wH0⟩ := DataW.trod_int Try.underlying2 g01
  simp at e00 e01
  subst e00 e01
  obtain ⟨A0, n0, c0, zs0, e02, r0⟩ := row_of Try.underlying24 Try.underlying2 (by kernel_rfl) g02 (fun x hx => lt0 x (by rw [hp0]; simp [hx]))
  simp at e02
  subst e02
  clear hA0 hval0
  refine (walk W W0 H0 A0 n0 c0 zs0 wW0 wH0 r0).mono fun e W' ⟨he, bel⟩ => ?_
  subst he
  exact ⟨_, rfl, _, _, _, [], _, [], hW', trodAll_mk1 (shut_bool Try.underlying4 _), (trodAll_cons_mk (Below.trod laidOut (by kernel_rfl) (of_decide_eq_true (by kernel_rfl)) k0 bel lt0) trodAll_mk0), rfl, bel.frame _, fun h => by cases h⟩

theorem over : Rows.fnExactValidPanelRow.holds Try.pinned (OpenSpec.ofChange Rows.fnExactValidPanelSpec) :=
  OpenClaim.holds_of_wide 6 Try.f6 rfl rfl rfl rfl rfl rfl rfl ⟨rfl, rfl, rfl, rfl, rfl⟩ rfl rfl rfl rfl rfl (by kernel_rfl) Try.func6 (by kernel_rfl)
    (of_decide_eq_true (by kernel_rfl)) (by unfold Func.isWrapper; first | (rw [if_pos (by decide +kernel)]; kernel_rfl) | (rw [if_neg (by decide +kernel)]; exact ⟨rfl, rfl⟩))
    (fun os started H enc _ => lifted os started H enc)

theorem proved : Rows.FnExactValidPanelSaid := over
#print axioms proved
end Go.Proofs.Ytgiialmeihkoiaa.fnExactValidPanel
