/- Proved: whatever panel (of at most 2^20 breaks; for larger ones the law answers true at once) and point CrossingIndex of the program is called with, it answers as the model and changes nothing. No condition. -/
import Derived.Test.YtbpdjmjkjiddjaaRows
import Derived.Test.YtbpdjmjkjiddjaaBase
import Derived.Test.YtbpdjmjkjiddjaaPan
import Derived.Test.YtbpdjmjkjiddjaaNum
import Derived.Test.YtbpdjmjkjiddjaaCxe
import Derived.Test.YtbpdjmjkjiddjaaCxp
import Derived.Test.YtbpdjmjkjiddjaaCnu
import Derived.WalkKit
import Derived.ProofKit
import Derived.OpenShut
import Derived.ShutString
import Derived.ChangeOld
import Derived.Below
import Derived.Lib.SmallJoins
namespace Go.Proofs.Ytbpdjmjkjiddjaa.fnExactCrossingIndex
open Go.ChangeShapes Go.WideShapes Go.ChangeAt Go.RowKit Go.Joins
open Go.ChangeMaps (open_string shut_string)
open Go.Proofs.Ytbpdjmjkjiddjaa.Base
set_option linter.unusedVariables false
theorem own : ownKnob Try.prog.godebug = none := by kernel_rfl
theorem laidOut : laidOutB Try.prog = true := by kernel_rfl

theorem walk (w : World) (W0 H0 : Int) (A0 : Option Addr) (n0 c0 : Nat) (zs0 : Nat → Int) (wW0 : (Lit.int .i64 W0).wf = true) (wH0 : (Lit.int .i64 H0).wf = true) (r0 : Row .i64 w A0 n0 c0 zs0) (x1 y1 : Int) (wx1 : (Lit.int .i64 x1).wf = true) (wy1 : (Lit.int .i64 y1).wf = true) :
    Calls Try.prog 5 #[.agg #[.int .i64 W0, .int .i64 H0, .slice A0 n0 c0], .agg #[.int .i64 x1, .int .i64 y1]] w fun e w' => e = .returned (.bool true) ∧ Below w.heap.size w w' := by
  have hnm : n0 ≤ 9223372036854775807 := by have := r0.1; have := r0.2.1; unfold maxLen at this; omega
  by_cases hs : (n0 : Int) ≤ 1048576
  · have HR := Lib.hid r0
    clear r0
    go_enter Try.func5, Try.ntmps5
    go_wp2_with fail
    refine (sz_yes _ W0 H0 A0 n0 c0 1048576 (by omega) (by omega) hs).mono ?_
    rintro e w1 ⟨rfl, b1⟩
    have X1 := (two_boxes w 24 26 W0 H0 A0 n0 c0 x1 y1).below b1 (by simp; omega)
    have D1 := (Dot.new (w.alloc (.cells #[.int .i64 W0, .int .i64 H0, .slice A0 n0 c0] 24)) 26 x1 y1).below b1 (by simp)
    have B1 : Below w.heap.size w w1 := (((Below.refl _ _).alloc (Nat.le_refl _) _).alloc (by simp) _).trans (b1.mono (by simp; omega))
    clear b1
    simp only [World.size_alloc] at D1
    have hn20 : n0 ≤ 1048576 := by omega
    have hn63 : n0 ≤ maxLen := by unfold maxLen; omega
    have HW := Lib.hid HR.out.2.2.1
    have HA := Lib.hid (HR.out.below B1 (Nat.le_refl _))
    have HB := Lib.hid B1
    have z1 := B1.size
    have ST := Lib.hid (keep5d X1 D1 (Below.refl w1.heap.size w1))
    clear B1 HR X1 D1
    go_wp2_with fail
    go_region_held3 (fun w' => w'.cell? ⟨w.heap.size, 0, none⟩ = some (.int .i64 W0) ∧ w'.cell? ⟨w.heap.size, 1, none⟩ = some (.int .i64 H0) ∧ w'.cell? ⟨w.heap.size, 2, none⟩ = some (.slice A0 n0 c0) ∧
        w'.cell? ⟨w.heap.size + 1, 0, none⟩ = some (.int .i64 x1) ∧ w'.cell? ⟨w.heap.size + 1, 1, none⟩ = some (.int .i64 y1) ∧ Below w1.heap.size w1 w')
      (first | exact ST.out | exact keep5 (by assumption) (by assumption))
      (first | (go_at_call 12; refine (toPanel_any _ W0 H0 A0 n0 c0 zs0 ?_ hn20).mono ?_; exact row_keep5 (by assumption) HA.out; rintro e wP ⟨bP, rfl, hbP, hrowP, bbP⟩) | (go_at_call 13; refine (toPoint_any _ x1 y1).mono ?_; rintro e wQ ⟨rfl, bQ⟩) | (go_at_call 22; refine (spec_crossingIndex _ W0 H0 _ n0 n0 zs0 x1 y1 ?_).mono ?_; exact (Row.of_rowIs hrowP hn63 HW.out).below bQ (Nat.le_refl _); rintro e w2 ⟨rfl, b2⟩))
    rename_i hS
    have hB2 := hS.2.2.2.2.2
    have X2 : Box w2 w.heap.size W0 H0 A0 n0 c0 := ⟨World.block_lt_of_cell? _ _ hS.1, hS.1, hS.2.1, hS.2.2.1⟩
    have D2 : Dot w2 (w.heap.size + 1) x1 y1 := ⟨World.block_lt_of_cell? _ _ hS.2.2.2.1, hS.2.2.2.1, hS.2.2.2.2.1⟩
    have HB2 := Lib.hid (HB.out.trans (hB2.mono z1))
    have HA2 := Lib.hid (HA.out.below hB2 (Nat.le_refl _))
    clear hS hB2 ST HA HB hrowP hbP bbP bQ b2
    obtain ⟨-, k0, k1, k2⟩ := id X2
    have HX2 := Lib.hid X2
    have HD2 := Lib.hid D2
    clear X2 D2
    go_wp2_with fail
    refine (toPanel_any _ W0 H0 A0 n0 c0 zs0 HA2.out hn20).mono ?_
    rintro e w4 ⟨bq, rfl, hbq, hrow4, b4⟩
    clear k0 k1 k2
    have R4 : Row .i64 w4 (some ⟨bq, 0, none⟩) n0 n0 zs0 := Row.of_rowIs hrow4 hn63 HW.out
    have bN : Below w4.heap.size w4 (w4.alloc (.cells #[.int .i64 W0, .int .i64 H0, .slice (some ⟨bq, 0, none⟩) n0 n0] 29)) := (Below.refl _ _).alloc (Nat.le_refl _) _
    have b5 : Below w2.heap.size w2 (w4.alloc (.cells #[.int .i64 W0, .int .i64 H0, .slice (some ⟨bq, 0, none⟩) n0 n0] 29)) := b4.trans (bN.mono b4.size)
    have HB5 := Lib.hid (HB2.out.trans (b5.mono HB2.out.size))
    have HA5 := Lib.hid (HA2.out.below b5 (Nat.le_refl _))
    have HX5 := Lib.hid (HX2.out.below b5 HX2.out.1)
    have HD5 := Lib.hid (HD2.out.below b5 HD2.out.1)
    have HR5 := Lib.hid (R4.below bN (Nat.le_refl _))
    have HY5 := Lib.hid (Box.new w4 29 W0 H0 (some ⟨bq, 0, none⟩) n0 n0)
    clear R4 bN b5 b4 hrow4
    go_wp2_with fail
    generalize hw5 : w4.alloc (.cells #[.int .i64 W0, .int .i64 H0, .slice (some ⟨bq, 0, none⟩) n0 n0] 29) = w5 at *
    have hw5z : w4.heap.size < w5.heap.size := by rw [← hw5]; simp
    clear hw5
    have ST := Lib.hid (keep5d HY5.out HD5.out (Below.refl w5.heap.size w5))
    go_region_held3 (fun w' => w'.cell? ⟨w4.heap.size, 0, none⟩ = some (.int .i64 W0) ∧ w'.cell? ⟨w4.heap.size, 1, none⟩ = some (.int .i64 H0) ∧ w'.cell? ⟨w4.heap.size, 2, none⟩ = some (.slice (some ⟨bq, 0, none⟩) n0 n0) ∧
        w'.cell? ⟨w.heap.size + 1, 0, none⟩ = some (.int .i64 x1) ∧ w'.cell? ⟨w.heap.size + 1, 1, none⟩ = some (.int .i64 y1) ∧ Below w5.heap.size w5 w')
      (first | exact ST.out | exact keep5 (by assumption) (by assumption))
      (first | (go_at_call 13; refine (toPoint_any _ x1 y1).mono ?_; rintro e wQ ⟨rfl, bQ⟩) | (go_at_call 23; refine (impl_crossingIndex _ W0 H0 _ n0 n0 zs0 x1 y1 ?_).mono ?_; exact row_keep5 (by assumption) HR5.out; rintro e w6 ⟨rfl, b6⟩))
    rename_i hS
    have hB6 := hS.2.2.2.2.2
    clear hS ST bQ b6
    have HB6 := Lib.hid (HB5.out.trans (hB6.mono HB5.out.size))
    have HA6 := Lib.hid (HA5.out.below hB6 (Nat.le_refl _))
    have HR6 := Lib.hid (HR5.out.below hB6 (Nat.le_refl _))
    have X6 := HX5.out.below hB6 HX5.out.1
    have Y6 := HY5.out.below hB6 HY5.out.1
    have ST := Lib.hid (keep6d Y6 X6 (Below.refl w6.heap.size w6))
    obtain ⟨-, k0, k1, k2⟩ := X6
    obtain ⟨-, k3, k4, k5⟩ := Y6
    clear hB6 HB5 HA5 HX5 HD5 HR5 HY5 HB2 HA2 HX2 HD2
    have hv0 : (ciV W0 H0 n0 zs0 x1 y1 != ciV W0 H0 n0 zs0 x1 y1) = false := by simp
    have hv1 : (cxC W0 H0 n0 zs0 x1 y1 != cxC W0 H0 n0 zs0 x1 y1) = false := by simp
    go_wp2
    clear k0 k1 k2 k3 k4 k5
    go_region_held3 (fun w' => w'.cell? ⟨w4.heap.size, 0, none⟩ = some (.int .i64 W0) ∧ w'.cell? ⟨w4.heap.size, 1, none⟩ = some (.int .i64 H0) ∧ w'.cell? ⟨w4.heap.size, 2, none⟩ = some (.slice (some ⟨bq, 0, none⟩) n0 n0) ∧
        w'.cell? ⟨w.heap.size, 0, none⟩ = some (.int .i64 W0) ∧ w'.cell? ⟨w.heap.size, 1, none⟩ = some (.int .i64 H0) ∧ w'.cell? ⟨w.heap.size, 2, none⟩ = some (.slice A0 n0 c0) ∧ Below w6.heap.size w6 w')
      (first | exact ST.out | exact keep6 (by assumption) (by assumption))
      (first | (go_at_call 12; refine (toPanel_any _ W0 H0 A0 n0 c0 zs0 ?_ hn20).mono ?_; exact row_keep6 (by assumption) HA6.out; rintro e w7 ⟨bz, rfl, hbz, hrow7, b7⟩) | (go_at_call 15; refine (eqPanel_same _ W0 H0 _ _ n0 n0 n0 zs0 ?_ ?_).mono ?_; exact row_keep6 (by assumption) HR6.out; exact Row.of_rowIs hrow7 hn63 HW.out; rintro e w8 ⟨rfl, b8⟩))
    rename_i hS
    have hB := hS.2.2.2.2.2.2
    clear hS
    go_wp2
    go_ret
    exact ⟨rfl, HB6.out.trans (hB.mono HB6.out.size)⟩
  · have hs : 1048576 < (n0 : Int) := by omega
    go_enter Try.func5, Try.ntmps5
    go_wp2_with fail
    refine (sz_no _ W0 H0 A0 n0 c0 1048576 (by omega) (by omega) hnm hs).mono ?_
    rintro e w1 ⟨rfl, b1⟩
    go_wp2
    go_ret
    exact ⟨rfl, (((Below.refl _ _).alloc (Nat.le_refl _) _).alloc (by simp) _).trans (b1.mono (by simp; omega))⟩

set_option maxRecDepth 100000 in
theorem lifted (os : Os) (started : os.Started) (H : Type) (enc : TypeId × Value → H) :
    ReturnsInHanded {} Try.checked os 5 .any (Rows.fnExactCrossingIndexSpec.pre6 enc Try.prog Try.f5 Rows.fnExactCrossingIndexRow.domain false) (Rows.fnExactCrossingIndexSpec.post enc Try.prog Try.f5 false true false false) := by
  refine returnsInHanded_of_change (C := Try.checked) own started (by kernel_rfl) Try.func5
    (ChangeSpec.witness6 (enc := enc) (C := Try.checked) false ⟨#[], #[.agg #[.int .i64 0, .int .i64 0, .slice none 0 0], .agg #[.int .i64 0, .int .i64 0]], []⟩ 8 (by kernel_rfl) (by kernel_rfl) (by kernel_rfl) (by kernel_rfl)) ?_
  intro W base args ds gs before hval0 hW hcnd _
  have hval : ∀ (j : Nat) t v, Try.f5.params[j]? = some t → args[j]? = some v → Value.okWide Try.prog W .any base t v := hval0
  have hW' := hW
  obtain ⟨p, q, hA0, hV, rfl, hfz, hnd⟩ := hW
  have hA : DataW.TrodAll enc Try.prog W 0 (fun _ => true) true Try.f5.params.toList args.toList ds p := hA0
  rw [Try.params5] at hA hval
  obtain ⟨v0, vs0, d0, ds0, p0, q0, hargs, rfl, rfl, h0, tl0⟩ := trodAll_cons hA
  obtain ⟨v1, vs1, d1, ds1, p1, q1, rfl, rfl, rfl, h1, tl1⟩ := trodAll_cons tl0
  obtain ⟨rfl, rfl, rfl⟩ := trodAll_nil tl1
  obtain rfl : args = #[v0, v1] := by cases args; simp_all
  obtain ⟨rfl, rfl⟩ := trodVars_none hV
  have k0 := h0
  have lt0 : ∀ x ∈ p0, x.block < W.heap.size := by obtain ⟨m, hm⟩ := k0; exact DataW.trod_lt m _ _ _ hm
  have k1 := h1
  have lt1 : ∀ x ∈ p1, x.block < W.heap.size := by obtain ⟨m, hm⟩ := k1; exact DataW.trod_lt m _ _ _ hm
  obtain ⟨u00, u01, u02, y00, y01, y02, m0, rfl, rfl, hp0, g00, g01, g02⟩ := open_agg3 Try.underlying24 (by kernel_rfl) (by kernel_rfl) (hval 0 24 v0 rfl rfl) h0
  obtain ⟨W0, e00, -, wW0⟩ := DataW.trod_int Try.underlying2 g00
  obtain ⟨H0, e01, -, wH0⟩ := DataW.trod_int Try.underlying2 g01
  simp at e00 e01
  subst e00 e01
  obtain ⟨A0, n0, c0, zs0, e02, r0⟩ := row_of Try.underlying22 Try.underlying2 (by kernel_rfl) g02 (fun x hx => lt0 x (by rw [hp0]; simp [hx]))
  simp at e02
  subst e02
  obtain ⟨u10, u11, y10, y11, m1, rfl, rfl, -, g10, g11⟩ := open_agg2 Try.underlying26 (by kernel_rfl) (by kernel_rfl) (hval 1 26 v1 rfl rfl) h1
  obtain ⟨x1, e10, -, wx1⟩ := DataW.trod_int Try.underlying2 g10
  obtain ⟨y1, e11, -, wy1⟩ := DataW.trod_int Try.underlying2 g11
  simp at e10 e11
  subst e10 e11
  clear hA0 hval0
  refine (walk W W0 H0 A0 n0 c0 zs0 wW0 wH0 r0 x1 y1 wx1 wy1).mono fun e W' ⟨he, bel⟩ => ?_
  subst he
  exact ⟨_, rfl, _, _, _, [], _, [], hW', trodAll_mk1 (shut_bool Try.underlying4 _), (trodAll_cons_mk (Below.trod laidOut (by kernel_rfl) (of_decide_eq_true (by kernel_rfl)) k0 bel lt0) (trodAll_cons_mk (Below.trod laidOut (by kernel_rfl) (of_decide_eq_true (by kernel_rfl)) k1 bel lt1) trodAll_mk0)), rfl, bel.frame _, fun h => by cases h⟩

theorem over : Rows.fnExactCrossingIndexRow.holds Try.pinned (OpenSpec.ofChange Rows.fnExactCrossingIndexSpec) :=
  OpenClaim.holds_of_wide 5 Try.f5 rfl rfl rfl rfl rfl rfl rfl ⟨rfl, rfl, rfl, rfl, rfl⟩ rfl rfl rfl rfl rfl (by kernel_rfl) Try.func5 (by kernel_rfl)
    (of_decide_eq_true (by kernel_rfl)) (by unfold Func.isWrapper; first | (rw [if_pos (by decide +kernel)]; kernel_rfl) | (rw [if_neg (by decide +kernel)]; exact ⟨rfl, rfl⟩))
    (fun os started H enc _ => lifted os started H enc)

theorem proved : Rows.FnExactCrossingIndexSaid := over
#print axioms proved
end Go.Proofs.Ytbpdjmjkjiddjaa.fnExactCrossingIndex
