/- Proved: whatever panel (of at most 2^20 breaks; for larger ones the law answers true at once) (and whatever other arguments) PassesOver of the program is called with, it answers as the model and changes nothing. No condition. -/
import Derived.Test.YtbpdjmjkjiddjaaRows
import Derived.Test.YtbpdjmjkjiddjaaBase
import Derived.Test.YtbpdjmjkjiddjaaPan
import Derived.Test.YtbpdjmjkjiddjaaShape
import Derived.Test.YtbpdjmjkjiddjaaWlkC
import Derived.Test.YtbpdjmjkjiddjaaWlk
import Derived.Test.YtbpdjmjkjiddjaaCxe
import Derived.Test.YtbpdjmjkjiddjaaCxp
import Derived.Test.YtbpdjmjkjiddjaaPao
import Derived.WalkKit
import Derived.ProofKit
import Derived.OpenShut
import Derived.ShutString
import Derived.ChangeOld
import Derived.Below
import Derived.Lib.SmallJoins
namespace Go.Proofs.Ytbpdjmjkjiddjaa.fnExactPassesOver
open Go.ChangeShapes Go.WideShapes Go.ChangeAt Go.RowKit Go.Joins
open Go.ChangeMaps (open_string shut_string)
open Go.Proofs.Ytbpdjmjkjiddjaa.Base
set_option linter.unusedVariables false
theorem own : ownKnob Try.prog.godebug = none := by kernel_rfl
theorem laidOut : laidOutB Try.prog = true := by kernel_rfl

theorem walk (w : World) (W0 H0 : Int) (A0 : Option Addr) (n0 c0 : Nat) (zs0 : Nat → Int) (wW0 : (Lit.int .i64 W0).wf = true) (wH0 : (Lit.int .i64 H0).wf = true) (r0 : Row .i64 w A0 n0 c0 zs0) (x1 y1 dx1 dy1 : Int) (wx1 : (Lit.int .i64 x1).wf = true) (wy1 : (Lit.int .i64 y1).wf = true) (wdx1 : (Lit.int .i64 dx1).wf = true) (wdy1 : (Lit.int .i64 dy1).wf = true) :
    Calls Try.prog 7 #[.agg #[.int .i64 W0, .int .i64 H0, .slice A0 n0 c0], .agg #[.int .i64 x1, .int .i64 y1, .int .i64 dx1, .int .i64 dy1]] w fun e w' => e = .returned (.bool true) ∧ Below w.heap.size w w' := by
  have hnm : n0 ≤ 9223372036854775807 := by have := r0.1; have := r0.2.1; unfold maxLen at this; omega
  by_cases hs : (n0 : Int) ≤ 1048576
  · have HR := Lib.hid r0
    clear r0
    have hn20 : n0 ≤ 1048576 := by omega
    have hn63 : n0 ≤ maxLen := by unfold maxLen; omega
    have HW := Lib.hid HR.out.2.2.1
    go_enter Try.func7, Try.ntmps7
    go_wp2_with fail
    refine (sz_yes _ W0 H0 A0 n0 c0 1048576 (by omega) (by omega) hs).mono ?_
    rintro e w1 ⟨rfl, b1⟩
    have HB1 := Lib.hid (Below.trans (show Below w.heap.size w ((w.alloc (.cells #[.int .i64 W0, .int .i64 H0, .slice A0 n0 c0] 24)).alloc (.cells #[.int .i64 x1, .int .i64 y1, .int .i64 dx1, .int .i64 dy1] 44)) from (((Below.refl w.heap.size w).alloc (by simp) _).alloc (by simp) _)) (b1.mono (by first | (simp; done) | (simp; omega))))
    have HX1 : Hid (Cel w1 (w.heap.size) [.int .i64 W0, .int .i64 H0, .slice A0 n0 c0]) := Lib.hid (by have h := (((Cel.new w [.int .i64 W0, .int .i64 H0, .slice A0 n0 c0] 24).below ((Below.refl _ (w.alloc (.cells #[.int .i64 W0, .int .i64 H0, .slice A0 n0 c0] 24))).alloc (Nat.le_refl _) (.cells #[.int .i64 x1, .int .i64 y1, .int .i64 dx1, .int .i64 dy1] 44)) (by simp)).below b1 (by first | (simp; done) | (simp; omega))); simpa using h)
    have HD11 : Hid (Cel w1 (w.heap.size + 1) [.int .i64 x1, .int .i64 y1, .int .i64 dx1, .int .i64 dy1]) := Lib.hid (by have h := ((Cel.new (w.alloc (.cells #[.int .i64 W0, .int .i64 H0, .slice A0 n0 c0] 24)) [.int .i64 x1, .int .i64 y1, .int .i64 dx1, .int .i64 dy1] 44).below b1 (by first | (simp; done) | (simp; omega))); simpa using h)
    have HA1 := Lib.hid (HR.out.below HB1.out (Nat.le_refl _))
    clear b1 HR
    have kX_z := HX1.out.1
    have kX_0 := HX1.out.2 0 _ rfl
    have kX_1 := HX1.out.2 1 _ rfl
    have kX_2 := HX1.out.2 2 _ rfl
    have kD1_z := HD11.out.1
    have kD1_0 := HD11.out.2 0 _ rfl
    have kD1_1 := HD11.out.2 1 _ rfl
    have kD1_2 := HD11.out.2 2 _ rfl
    have kD1_3 := HD11.out.2 3 _ rfl
    have OL := Lib.hid (Old.mk_ (Below.refl w1.heap.size w1).drew)
    go_wp2_with fail
    go_region_held3 (fun w' => (∀ b o, b < w1.heap.size → w'.cell? ⟨b, o, none⟩ = w1.cell? ⟨b, o, none⟩) ∧ Below w1.heap.size w1 w')
      (first | assumption | exact OL.out | exact Old.trans (by assumption) (by assumption))
      (first | (go_at_call 12; refine (toPanel_any _ W0 H0 A0 n0 c0 zs0 ?_ hn20).mono ?_; exact HA1.out.old (by assumption); rintro e wP ⟨bP, rfl, hbP, hrowP, bbP⟩) | (go_at_call 27; (with_reducible refine (toWalker_any _ x1 y1 dx1 dy1).mono ?_); rintro e wQ1 ⟨rfl, bQ1⟩) | (go_at_call 26; (with_reducible refine (spec_passesOver _ W0 H0 _ n0 n0 zs0 x1 y1 dx1 dy1 ?_).mono ?_); exact ((Row.of_rowIs hrowP hn63 HW.out).below bQ1 (Nat.le_refl _)); rintro e w2 ⟨rfl, b2⟩))
    clear kX_z kX_0 kX_1 kX_2 kD1_z kD1_0 kD1_1 kD1_2 kD1_3
    rename_i hS
    have hB2 := hS.2
    have HB2 := Lib.hid (HB1.out.trans (hB2.mono HB1.out.size))
    have HA2 := Lib.hid (HA1.out.below hB2 (Nat.le_refl _))
    have HX2 := Lib.hid (HX1.out.below hB2 HX1.out.1)
    have HD12 := Lib.hid (HD11.out.below hB2 HD11.out.1)
    clear hS hB2 OL hrowP hbP bbP b2 bQ1 HB1 HA1
    clear HX1 HD11
    have kX_z := HX2.out.1
    have kX_0 := HX2.out.2 0 _ rfl
    have kX_1 := HX2.out.2 1 _ rfl
    have kX_2 := HX2.out.2 2 _ rfl
    have kD1_z := HD12.out.1
    have kD1_0 := HD12.out.2 0 _ rfl
    have kD1_1 := HD12.out.2 1 _ rfl
    have kD1_2 := HD12.out.2 2 _ rfl
    have kD1_3 := HD12.out.2 3 _ rfl
    go_wp2_with fail
    refine (toPanel_any _ W0 H0 A0 n0 c0 zs0 HA2.out hn20).mono ?_
    rintro e w4 ⟨bq, rfl, hbq, hrow4, b4⟩
    clear kX_z kX_0 kX_1 kX_2 kD1_z kD1_0 kD1_1 kD1_2 kD1_3
    have HX4 := Lib.hid (HX2.out.below b4 HX2.out.1)
    have HD14 := Lib.hid (HD12.out.below b4 HD12.out.1)
    have HB4 := Lib.hid (HB2.out.trans (b4.mono HB2.out.size))
    have HA4 := Lib.hid (HA2.out.below b4 (Nat.le_refl _))
    have HR4 := Lib.hid (Row.of_rowIs hrow4 hn63 HW.out)
    clear b4 hrow4 hbq HB2 HA2
    clear HX2 HD12
    go_wp2_with fail
    have bN := (Below.refl w4.heap.size w4).alloc (Nat.le_refl _) (.cells #[.int .i64 W0, .int .i64 H0, .slice (some ⟨bq, 0, none⟩) n0 n0] 29)
    have HX5 := Lib.hid (HX4.out.below bN HX4.out.1)
    have HD15 := Lib.hid (HD14.out.below bN HD14.out.1)
    have HY5 := Lib.hid (Cel.new w4 [.int .i64 W0, .int .i64 H0, .slice (some ⟨bq, 0, none⟩) n0 n0] 29)
    have HB5 := Lib.hid (HB4.out.trans (bN.mono HB4.out.size))
    have HA5 := Lib.hid (HA4.out.below bN (Nat.le_refl _))
    have HR5 := Lib.hid (HR4.out.below bN (Nat.le_refl _))
    clear bN HB4 HA4 HR4
    clear HX4 HD14
    generalize w4.alloc (.cells #[.int .i64 W0, .int .i64 H0, .slice (some ⟨bq, 0, none⟩) n0 n0] 29) = w5 at *
    generalize w4.heap.size = bY at *
    have kX_z := HX5.out.1
    have kX_0 := HX5.out.2 0 _ rfl
    have kX_1 := HX5.out.2 1 _ rfl
    have kX_2 := HX5.out.2 2 _ rfl
    have kD1_z := HD15.out.1
    have kD1_0 := HD15.out.2 0 _ rfl
    have kD1_1 := HD15.out.2 1 _ rfl
    have kD1_2 := HD15.out.2 2 _ rfl
    have kD1_3 := HD15.out.2 3 _ rfl
    have kY_z := HY5.out.1
    have kY_0 := HY5.out.2 0 _ rfl
    have kY_1 := HY5.out.2 1 _ rfl
    have kY_2 := HY5.out.2 2 _ rfl
    have OL := Lib.hid (Old.mk_ (Below.refl w5.heap.size w5).drew)
    go_region_held3 (fun w' => (∀ b o, b < w5.heap.size → w'.cell? ⟨b, o, none⟩ = w5.cell? ⟨b, o, none⟩) ∧ Below w5.heap.size w5 w')
      (first | assumption | exact OL.out | exact Old.trans (by assumption) (by assumption))
      (first | (go_at_call 27; (with_reducible refine (toWalker_any _ x1 y1 dx1 dy1).mono ?_); rintro e wQ1 ⟨rfl, bQ1⟩) | (go_at_call 28; (with_reducible refine (impl_passesOver _ W0 H0 _ n0 n0 zs0 x1 y1 dx1 dy1 ?_).mono ?_); exact HR5.out.old (by first | assumption | exact OL.out | exact Old.trans OL.out (by assumption) | exact Old.trans (Old.trans OL.out (by assumption)) (by assumption)); rintro e w6 ⟨rfl, b6⟩))
    clear kX_z kX_0 kX_1 kX_2 kD1_z kD1_0 kD1_1 kD1_2 kD1_3 kY_z kY_0 kY_1 kY_2
    rename_i hS
    have b6 := hS.2
    clear hS OL
    have HX6 := Lib.hid (HX5.out.below b6 HX5.out.1)
    have HD16 := Lib.hid (HD15.out.below b6 HD15.out.1)
    have HY6 := Lib.hid (HY5.out.below b6 HY5.out.1)
    have HB6 := Lib.hid (HB5.out.trans (b6.mono HB5.out.size))
    have HA6 := Lib.hid (HA5.out.below b6 (Nat.le_refl _))
    have HR6 := Lib.hid (HR5.out.below b6 (Nat.le_refl _))
    clear b6 HB5 HA5 HR5
    clear HX5 HD15 HY5
    have kX_z := HX6.out.1
    have kX_0 := HX6.out.2 0 _ rfl
    have kX_1 := HX6.out.2 1 _ rfl
    have kX_2 := HX6.out.2 2 _ rfl
    have kD1_z := HD16.out.1
    have kD1_0 := HD16.out.2 0 _ rfl
    have kD1_1 := HD16.out.2 1 _ rfl
    have kD1_2 := HD16.out.2 2 _ rfl
    have kD1_3 := HD16.out.2 3 _ rfl
    have kY_z := HY6.out.1
    have kY_0 := HY6.out.2 0 _ rfl
    have kY_1 := HY6.out.2 1 _ rfl
    have kY_2 := HY6.out.2 2 _ rfl
    have hv0 : ((poV W0 H0 n0 zs0 x1 y1 dx1 dy1) != (poV W0 H0 n0 zs0 x1 y1 dx1 dy1)) = false := by simp
    have hv1 : ((poC W0 H0 n0 zs0 x1 y1 dx1 dy1) != (poC W0 H0 n0 zs0 x1 y1 dx1 dy1)) = false := by simp
    have OL := Lib.hid (Old.mk_ (Below.refl w6.heap.size w6).drew)
    go_wp2
    go_region_held3 (fun w' => (∀ b o, b < w6.heap.size → w'.cell? ⟨b, o, none⟩ = w6.cell? ⟨b, o, none⟩) ∧ Below w6.heap.size w6 w')
      (first | assumption | exact OL.out | exact Old.trans (by assumption) (by assumption))
      (first | (go_at_call 12; refine (toPanel_any _ W0 H0 A0 n0 c0 zs0 ?_ hn20).mono ?_; exact HA6.out.old (by assumption); rintro e w7 ⟨bz, rfl, hbz, hrow7, b7⟩) | (go_at_call 15; refine (eqPanel_same _ W0 H0 _ _ n0 n0 n0 zs0 ?_ ?_).mono ?_; exact HR6.out.old (by assumption); exact Row.of_rowIs hrow7 hn63 HW.out; rintro e w8 ⟨rfl, b8⟩))
    rename_i hS
    have hB := hS.2
    clear hS
    go_wp2
    go_ret
    exact ⟨rfl, HB6.out.trans (hB.mono HB6.out.size)⟩
  · have hs : 1048576 < (n0 : Int) := by omega
    go_enter Try.func7, Try.ntmps7
    go_wp2_with fail
    refine (sz_no _ W0 H0 A0 n0 c0 1048576 (by omega) (by omega) hnm hs).mono ?_
    rintro e w1 ⟨rfl, b1⟩
    go_wp2
    go_ret
    exact ⟨rfl, Below.trans (show Below w.heap.size w ((w.alloc (.cells #[.int .i64 W0, .int .i64 H0, .slice A0 n0 c0] 24)).alloc (.cells #[.int .i64 x1, .int .i64 y1, .int .i64 dx1, .int .i64 dy1] 44)) from (((Below.refl w.heap.size w).alloc (by simp) _).alloc (by simp) _)) (b1.mono (by first | (simp; done) | (simp; omega)))⟩

set_option maxRecDepth 100000 in
theorem lifted (os : Os) (started : os.Started) (H : Type) (enc : TypeId × Value → H) :
    ReturnsInHanded {} Try.checked os 7 .any (Rows.fnExactPassesOverSpec.pre6 enc Try.prog Try.f7 Rows.fnExactPassesOverRow.domain false) (Rows.fnExactPassesOverSpec.post enc Try.prog Try.f7 false true false false) := by
  refine returnsInHanded_of_change (C := Try.checked) own started (by kernel_rfl) Try.func7
    (ChangeSpec.witness6 (enc := enc) (C := Try.checked) false ⟨#[], #[.agg #[.int .i64 0, .int .i64 0, .slice none 0 0], .agg #[.int .i64 0, .int .i64 0, .int .i64 0, .int .i64 0]], []⟩ 8 (by kernel_rfl) (by kernel_rfl) (by kernel_rfl) (by kernel_rfl)) ?_
  intro W base args ds gs before hval0 hW hcnd _
  have hval : ∀ (j : Nat) t v, Try.f7.params[j]? = some t → args[j]? = some v → Value.okWide Try.prog W .any base t v := hval0
  have hW' := hW
  obtain ⟨p, q, hA0, hV, rfl, hfz, hnd⟩ := hW
  have hA : DataW.TrodAll enc Try.prog W 0 (fun _ => true) true Try.f7.params.toList args.toList ds p := hA0
  rw [Try.params7] at hA hval
  obtain ⟨v0, vs0, d0, ds0, p0, q0, hargs, rfl, rfl, h0, tl0⟩ := trodAll_cons hA
  obtain ⟨v1, vs1, d1, ds1, p1, q1, rfl, rfl, rfl, h1, tl1⟩ := trodAll_cons tl0
  obtain ⟨rfl, rfl, rfl⟩ := trodAll_nil tl1
  obtain rfl : args = #[v0, v1] := by cases args; simp_all
  obtain ⟨rfl, rfl⟩ := trodVars_none hV
  have k0 := h0
  have lt0 : ∀ x ∈ p0, x.block < W.heap.size := by obtain ⟨m, hm⟩ := k0; exact DataW.trod_lt m _ _ _ hm
  have k1 := h1
  have lt1 : ∀ x ∈ p1, x.block < W.heap.size := by obtain ⟨m, hm⟩ := k1; exact DataW.trod_lt m _ _ _ hm
  obtain ⟨u00, u01, u02, y00, y01, y02, m0, rfl, rfl, hp0, g00, g01, g02⟩ := open_agg3 Try.underlying24 (by kernel_rfl) (by kernel_rfl) (hval 0 24 v0 rfl rfl) h0
  obtain ⟨W0, e00, -, wW0⟩ := DataW.trod_int Try.underlying2 g00
  obtain ⟨H0, e01, -, wH0⟩ := DataW.trod_int Try.underlying2 g01
  simp at e00 e01
  subst e00 e01
  obtain ⟨A0, n0, c0, zs0, e02, r0⟩ := row_of Try.underlying22 Try.underlying2 (by kernel_rfl) g02 (fun x hx => lt0 x (by rw [hp0]; simp [hx]))
  simp at e02
  subst e02
  obtain ⟨x1, y1, dx1, dy1, rfl, wx1, wy1, wdx1, wdy1⟩ := open_walker Try.underlying44 Try.underlying26 Try.underlying2 Try.underlying2 Try.underlying2 Try.underlying2 rfl (by kernel_rfl) (hval 1 44 v1 rfl rfl) h1
  clear hA0 hval0
  refine (walk W W0 H0 A0 n0 c0 zs0 wW0 wH0 r0 x1 y1 dx1 dy1 wx1 wy1 wdx1 wdy1).mono fun e W' ⟨he, bel⟩ => ?_
  subst he
  exact ⟨_, rfl, _, _, _, [], _, [], hW', trodAll_mk1 (shut_bool Try.underlying4 _), (trodAll_cons_mk (Below.trod laidOut (by kernel_rfl) (of_decide_eq_true (by kernel_rfl)) k0 bel lt0) (trodAll_cons_mk (Below.trod laidOut (by kernel_rfl) (of_decide_eq_true (by kernel_rfl)) k1 bel lt1) trodAll_mk0)), rfl, bel.frame _, fun h => by cases h⟩

theorem over : Rows.fnExactPassesOverRow.holds Try.pinned (OpenSpec.ofChange Rows.fnExactPassesOverSpec) :=
  OpenClaim.holds_of_wide 7 Try.f7 rfl rfl rfl rfl rfl rfl rfl ⟨rfl, rfl, rfl, rfl, rfl⟩ rfl rfl rfl rfl rfl (by kernel_rfl) Try.func7 (by kernel_rfl)
    (of_decide_eq_true (by kernel_rfl)) (by unfold Func.isWrapper; first | (rw [if_pos (by decide +kernel)]; kernel_rfl) | (rw [if_neg (by decide +kernel)]; exact ⟨rfl, rfl⟩))
    (fun os started H enc _ => lifted os started H enc)

theorem proved : Rows.FnExactPassesOverSaid := over
#print axioms proved
end Go.Proofs.Ytbpdjmjkjiddjaa.fnExactPassesOver
