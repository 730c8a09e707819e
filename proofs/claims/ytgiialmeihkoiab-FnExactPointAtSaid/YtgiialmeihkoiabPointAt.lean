/- Proved: whatever panel (of at most 2^20 breaks; for larger ones the law answers true at once) (and whatever other arguments) PointAt of the program is called with, it answers as the model and changes nothing. No condition. -/
import Derived.Test.YtgiialmeihkoiabRows
import Derived.Test.YtgiialmeihkoiabBase
import Derived.Test.YtgiialmeihkoiabPan
import Derived.Test.YtgiialmeihkoiabPanB
import Derived.Test.YtgiialmeihkoiabCopy
import Derived.Test.YtgiialmeihkoiabPt
import Derived.Test.YtgiialmeihkoiabPtB
import Derived.Test.YtgiialmeihkoiabNum
import Derived.Test.YtgiialmeihkoiabNumB
import Derived.Test.YtgiialmeihkoiabAt
import Derived.WalkKit
import Derived.ProofKit
import Derived.OpenShut
import Derived.ShutString
import Derived.ChangeOld
import Derived.Below
import Derived.Lib.SmallJoins
namespace Go.Proofs.Ytgiialmeihkoiab.fnExactPointAt
open Go.ChangeShapes Go.WideShapes Go.ChangeAt Go.RowKit Go.Joins
open Go.ChangeMaps (open_string shut_string)
open Go.Proofs.Ytgiialmeihkoiab.Base
set_option linter.unusedVariables false
theorem own : ownKnob Try.prog.godebug = none := by kernel_rfl
theorem laidOut : laidOutB Try.prog = true := by kernel_rfl

theorem walk (w : World) (W0 H0 : Int) (A0 : Option Addr) (n0 c0 : Nat) (zs0 : Nat → Int) (wW0 : (Lit.int .i64 W0).wf = true) (wH0 : (Lit.int .i64 H0).wf = true) (r0 : Row .i64 w A0 n0 c0 zs0) (a1 : Int) (w1 : (Lit.int .i64 a1).wf = true) :
    Calls Try.prog 3 #[.agg #[.int .i64 W0, .int .i64 H0, .slice A0 n0 c0], .int .i64 a1] w fun e w' => e = .returned (.bool true) ∧ Below w.heap.size w w' := by
  have hnm : n0 ≤ 9223372036854775807 := by have := r0.1; have := r0.2.1; unfold maxLen at this; omega
  by_cases hs : (n0 : Int) ≤ 1048576
  · have HR := Lib.hid r0
    clear r0
    have hn20 : n0 ≤ 1048576 := by omega
    have hn63 : n0 ≤ maxLen := by unfold maxLen; omega
    have HW := Lib.hid HR.out.2.2.1
    go_enter Try.func3, Try.ntmps3
    go_wp2_with fail
    refine (sz_yes _ W0 H0 A0 n0 c0 1048576 (by omega) (by omega) hs).mono ?_
    rintro e w1 ⟨rfl, b1⟩
    have HX1 := Lib.hid ((Box.new w 24 W0 H0 A0 n0 c0).below b1 (by simp))
    have HB1 := Lib.hid (((Below.refl w.heap.size w).alloc (Nat.le_refl _) (.cells #[.int .i64 W0, .int .i64 H0, .slice A0 n0 c0] 24)).trans (b1.mono (by simp)))
    clear b1
    obtain ⟨-, k0, k1, k2⟩ := id HX1.out
    go_wp2_with fail
    refine (toPanel_any _ W0 H0 A0 n0 c0 zs0 (HR.out.below HB1.out (Nat.le_refl _)) hn20).mono ?_
    rintro e w2 ⟨bp, rfl, hbp, hrow2, b2⟩
    have HR2 := Lib.hid (Row.of_rowIs hrow2 hn63 HW.out)
    have HX2 := Lib.hid (HX1.out.below b2 HX1.out.1)
    have HB2 := Lib.hid (HB1.out.trans (b2.mono HB1.out.size))
    clear b2 hrow2 hbp k0 k1 k2
    go_wp2_with fail
    refine (spec_pointAt _ W0 H0 _ n0 n0 zs0 a1 HR2.out).mono ?_
    rintro e w3 ⟨rfl, b3⟩
    have HX3 := Lib.hid (HX2.out.below b3 HX2.out.1)
    have HB3 := Lib.hid (HB2.out.trans (b3.mono HB2.out.size))
    have z3 := HB3.out.size
    clear b3 HX2 HB2 HR2 HX1 HB1
    have bM : Below w3.heap.size w3 (w3.alloc (.cells #[.int .i64 (atX W0 H0 n0 zs0 a1), .int .i64 (atY W0 H0 n0 zs0 a1)] 27)) := (Below.refl _ _).alloc (Nat.le_refl _) _
    have HZ3 := Lib.hid (HX3.out.below bM HX3.out.1)
    have HC3 := Lib.hid (HB3.out.trans (bM.mono HB3.out.size))
    have HD3 := Lib.hid (Dot.new w3 27 (atX W0 H0 n0 zs0 a1) (atY W0 H0 n0 zs0 a1))
    clear bM
    obtain ⟨hz3, k0, k1, k2⟩ := id HX3.out
    go_wp2_with fail
    refine (toPanel_any _ W0 H0 A0 n0 c0 zs0 (HR.out.below (HC3.out) (Nat.le_refl _)) hn20).mono ?_
    rintro e w4 ⟨bq, rfl, hbq, hrow4, b4⟩
    have HR4 := Lib.hid (Row.of_rowIs hrow4 hn63 HW.out)
    have HX4 := Lib.hid ((HZ3.out).below b4 (HZ3.out).1)
    have HB4 := Lib.hid ((HC3.out).trans (b4.mono (HC3.out).size))
    have HD4 := Lib.hid (HD3.out.below b4 HD3.out.1)
    clear b4 hrow4 hbq k0 k1 k2
    go_wp2_with fail
    have bN : Below w4.heap.size w4 (w4.alloc (.cells #[.int .i64 W0, .int .i64 H0, .slice (some ⟨bq, 0, none⟩) n0 n0] 30)) := (Below.refl _ _).alloc (Nat.le_refl _) _
    have HY5 := Lib.hid (Box.new w4 30 W0 H0 (some ⟨bq, 0, none⟩) n0 n0)
    have HR5 := Lib.hid (HR4.out.below bN (Nat.le_refl _))
    have HX5 := Lib.hid (HX4.out.below bN HX4.out.1)
    have HB5 := Lib.hid (HB4.out.trans (bN.mono HB4.out.size))
    have HD5 := Lib.hid (HD4.out.below bN HD4.out.1)
    clear bN HR4 HX4
    refine (impl_pointAt _ W0 H0 _ n0 n0 zs0 a1 HR5.out).mono ?_
    rintro e w6 ⟨rfl, b6⟩
    have Y6 := HY5.out.below b6 HY5.out.1
    have X6 := HX5.out.below b6 HX5.out.1
    have HR6 := Lib.hid (HR5.out.below b6 (Nat.le_refl _))
    have HB6 := Lib.hid (HB5.out.trans (b6.mono HB5.out.size))
    have HA6 := Lib.hid (HR.out.below HB6.out (Nat.le_refl _))
    have HD6 := Lib.hid (HD5.out.below b6 HD5.out.1)
    clear b6 HY5 HX5 HR5 HB5 HB4 HB3 HR
    obtain ⟨hzd, d0, d1⟩ := id HD6.out
    go_wp2_with fail
    clear hzd d0 d1
    have bM : Below w6.heap.size w6 (w6.alloc (.cells #[.int .i64 (atX W0 H0 n0 zs0 a1), .int .i64 (atY W0 H0 n0 zs0 a1)] 27)) := (Below.refl _ _).alloc (Nat.le_refl _) _
    have E7 := Dot.new w6 27 (atX W0 H0 n0 zs0 a1) (atY W0 H0 n0 zs0 a1)
    have D7 := HD6.out.below bM HD6.out.1
    have HY7 := Lib.hid (Y6.below bM Y6.1)
    have HX7 := Lib.hid (X6.below bM X6.1)
    have HB7 := Lib.hid (HB6.out.trans (bM.mono HB6.out.size))
    clear bM Y6 X6 HD6
    refine (eqPoint_same _ (atX W0 H0 n0 zs0 a1) (atY W0 H0 n0 zs0 a1)).mono ?_
    rintro e w9 ⟨rfl, b9⟩
    have Y9 := HY7.out.below b9 HY7.out.1
    have X9 := HX7.out.below b9 HX7.out.1
    have HB9 := Lib.hid (HB7.out.trans (b9.mono HB7.out.size))
    have HR9 := Lib.hid ((HR6.out.below ((Below.refl w6.heap.size w6).alloc (Nat.le_refl _) (.cells #[.int .i64 (atX W0 H0 n0 zs0 a1), .int .i64 (atY W0 H0 n0 zs0 a1)] 27)) (Nat.le_refl _)).below b9 (Nat.le_refl _))
    have HA9 := Lib.hid ((HA6.out.below ((Below.refl w6.heap.size w6).alloc (Nat.le_refl _) (.cells #[.int .i64 (atX W0 H0 n0 zs0 a1), .int .i64 (atY W0 H0 n0 zs0 a1)] 27)) (Nat.le_refl _)).below b9 (Nat.le_refl _))
    clear b9 HY7 HX7 HB7 HR6 HA6 HB6 D7 E7
    have ST := Lib.hid (keep6d Y9 X9 (Below.refl w9.heap.size w9))
    obtain ⟨-, k0, k1, k2⟩ := X9
    obtain ⟨-, k3, k4, k5⟩ := Y9
    have hv0 : (atC W0 H0 n0 zs0 a1 != atC W0 H0 n0 zs0 a1) = false := by simp
    go_wp2
    clear k0 k1 k2 k3 k4 k5
    go_region_held3 (fun w' => w'.cell? ⟨w4.heap.size, 0, none⟩ = some (.int .i64 W0) ∧ w'.cell? ⟨w4.heap.size, 1, none⟩ = some (.int .i64 H0) ∧ w'.cell? ⟨w4.heap.size, 2, none⟩ = some (.slice (some ⟨bq, 0, none⟩) n0 n0) ∧
        w'.cell? ⟨w.heap.size, 0, none⟩ = some (.int .i64 W0) ∧ w'.cell? ⟨w.heap.size, 1, none⟩ = some (.int .i64 H0) ∧ w'.cell? ⟨w.heap.size, 2, none⟩ = some (.slice A0 n0 c0) ∧ Below w9.heap.size w9 w')
      (first | exact ST.out | exact keep6 (by assumption) (by assumption))
      (first | (go_at_call 10; refine (toPanel_any _ W0 H0 A0 n0 c0 zs0 ?_ hn20).mono ?_; exact row_keep6 (by assumption) HA9.out; rintro e w7 ⟨bz, rfl, hbz, hrow7, b7⟩) | (go_at_call 13; refine (eqPanel_same _ W0 H0 _ _ n0 n0 n0 zs0 ?_ ?_).mono ?_; exact row_keep6 (by assumption) HR9.out; exact Row.of_rowIs hrow7 hn63 HW.out; rintro e w8 ⟨rfl, b8⟩))
    rename_i hS
    have hB := hS.2.2.2.2.2.2
    clear hS
    go_wp2
    go_ret
    exact ⟨rfl, HB9.out.trans (hB.mono HB9.out.size)⟩
  · have hs : 1048576 < (n0 : Int) := by omega
    go_enter Try.func3, Try.ntmps3
    go_wp2_with fail
    refine (sz_no _ W0 H0 A0 n0 c0 1048576 (by omega) (by omega) hnm hs).mono ?_
    rintro e w1 ⟨rfl, b1⟩
    go_wp2
    go_ret
    exact ⟨rfl, ((Below.refl _ _).alloc (Nat.le_refl _) _).trans (b1.mono (by simp))⟩

set_option maxRecDepth 100000 in
theorem lifted (os : Os) (started : os.Started) (H : Type) (enc : TypeId × Value → H) :
    ReturnsInHanded {} Try.checked os 3 .any (Rows.fnExactPointAtSpec.pre6 enc Try.prog Try.f3 Rows.fnExactPointAtRow.domain false) (Rows.fnExactPointAtSpec.post enc Try.prog Try.f3 false true false false) := by
  refine returnsInHanded_of_change (C := Try.checked) own started (by kernel_rfl) Try.func3
    (ChangeSpec.witness6 (enc := enc) (C := Try.checked) false ⟨#[], #[.agg #[.int .i64 0, .int .i64 0, .slice none 0 0], .int .i64 0], []⟩ 8 (by kernel_rfl) (by kernel_rfl) (by kernel_rfl) (by kernel_rfl)) ?_
  intro W base args ds gs before hval0 hW hcnd _
  have hval : ∀ (j : Nat) t v, Try.f3.params[j]? = some t → args[j]? = some v → Value.okWide Try.prog W .any base t v := hval0
  have hW' := hW
  obtain ⟨p, q, hA0, hV, rfl, hfz, hnd⟩ := hW
  have hA : DataW.TrodAll enc Try.prog W 0 (fun _ => true) true Try.f3.params.toList args.toList ds p := hA0
  rw [Try.params3] at hA hval
  obtain ⟨v0, vs0, d0, ds0, p0, q0, hargs, rfl, rfl, h0, tl0⟩ := trodAll_cons hA
  obtain ⟨v1, vs1, d1, ds1, p1, q1, rfl, rfl, rfl, h1, tl1⟩ := trodAll_cons tl0
  obtain ⟨rfl, rfl, rfl⟩ := trodAll_nil tl1
  obtain rfl : args = #[v0, v1] := by cases args; simp_all
  obtain ⟨rfl, rfl⟩ := trodVars_none hV
  have k0 := h0
  have lt0 : ∀ x ∈ p0, x.block < W.heap.size := by obtain ⟨m, hm⟩ := k0; exact DataW.trod_lt m _ _ _ hm
  have k1 := h1
  have lt1 : ∀ x ∈ p1, x.block < W.heap.size := by obtain ⟨m, hm⟩ := k1; exact DataW.trod_lt m _ _ _ hm
  obtain ⟨u00, u01, u02, y00, y01, y02, m0, rfl, rfl, hp0, g00, g01, g02⟩ := open_agg3 Try.underlying24 (by kernel_rfl) (by kernel_rfl) (hval 0 24 v0 rfl rfl) h0
  obtain ⟨W0, e00, -, wW0⟩ := DataW.trod_int Try.underlying2 g00
  obtain ⟨H0, e01, -, wH0⟩ := DataW.trod_int Try.underlying2 g01
  simp at e00 e01
  subst e00 e01
  obtain ⟨A0, n0, c0, zs0, e02, r0⟩ := row_of Try.underlying22 Try.underlying2 (by kernel_rfl) g02 (fun x hx => lt0 x (by rw [hp0]; simp [hx]))
  simp at e02
  subst e02
  obtain ⟨a1, rfl, rfl, rfl, w1⟩ := open_int Try.underlying2 (hval 1 2 v1 rfl rfl) h1
  clear hA0 hval0
  refine (walk W W0 H0 A0 n0 c0 zs0 wW0 wH0 r0 a1 w1).mono fun e W' ⟨he, bel⟩ => ?_
  subst he
  exact ⟨_, rfl, _, _, _, [], _, [], hW', trodAll_mk1 (shut_bool Try.underlying4 _), (trodAll_cons_mk (Below.trod laidOut (by kernel_rfl) (of_decide_eq_true (by kernel_rfl)) k0 bel lt0) (trodAll_cons_mk (Below.trod laidOut (by kernel_rfl) (of_decide_eq_true (by kernel_rfl)) k1 bel lt1) trodAll_mk0)), rfl, bel.frame _, fun h => by cases h⟩

theorem over : Rows.fnExactPointAtRow.holds Try.pinned (OpenSpec.ofChange Rows.fnExactPointAtSpec) :=
  OpenClaim.holds_of_wide 3 Try.f3 rfl rfl rfl rfl rfl rfl rfl ⟨rfl, rfl, rfl, rfl, rfl⟩ rfl rfl rfl rfl rfl (by kernel_rfl) Try.func3 (by kernel_rfl)
    (of_decide_eq_true (by kernel_rfl)) (by unfold Func.isWrapper; first | (rw [if_pos (by decide +kernel)]; kernel_rfl) | (rw [if_neg (by decide +kernel)]; exact ⟨rfl, rfl⟩))
    (fun os started H enc _ => lifted os started H enc)

theorem proved : Rows.FnExactPointAtSaid := over
#print axioms proved
end Go.Proofs.Ytgiialmeihkoiab.fnExactPointAt
