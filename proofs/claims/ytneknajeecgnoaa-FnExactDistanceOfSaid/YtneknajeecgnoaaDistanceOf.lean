/- Proved: whatever two panels (of at most 2^20 breaks together; for larger ones the law answers true at once) DistanceOf of the program is called with, it answers as the model and changes nothing. No condition. -/
import Derived.Test.YtneknajeecgnoaaRows
import Derived.Test.YtneknajeecgnoaaBase
import Derived.Test.YtneknajeecgnoaaPan
import Derived.Test.YtneknajeecgnoaaSame
import Derived.Test.YtneknajeecgnoaaDis
import Derived.WalkKit
import Derived.ProofKit
import Derived.OpenShut
import Derived.ShutString
import Derived.ChangeOld
import Derived.Below
import Derived.Lib.SmallJoins
namespace Go.Proofs.Ytneknajeecgnoaa.fnExactDistanceOf
open Go.ChangeShapes Go.WideShapes Go.ChangeAt Go.RowKit Go.Joins
open Go.ChangeMaps (open_string shut_string)
open Go.Proofs.Ytneknajeecgnoaa.Base
set_option linter.unusedVariables false
theorem own : ownKnob Try.prog.godebug = none := by kernel_rfl
theorem laidOut : laidOutB Try.prog = true := by kernel_rfl

set_option maxHeartbeats 1000000 in
theorem walk (w : World) (W0 H0 : Int) (A0 : Option Addr) (n0 c0 : Nat) (zs0 : Nat → Int) (wW0 : (Lit.int .i64 W0).wf = true) (wH0 : (Lit.int .i64 H0).wf = true) (r0 : Row .i64 w A0 n0 c0 zs0) (W1 H1 : Int) (A1 : Option Addr) (n1 c1 : Nat) (zs1 : Nat → Int) (wW1 : (Lit.int .i64 W1).wf = true) (wH1 : (Lit.int .i64 H1).wf = true) (r1 : Row .i64 w A1 n1 c1 zs1) :
    Calls Try.prog 11 #[.agg #[.int .i64 W0, .int .i64 H0, .slice A0 n0 c0], .agg #[.int .i64 W1, .int .i64 H1, .slice A1 n1 c1]] w fun e w' => e = .returned (.bool true) ∧ Below w.heap.size w w' := by
  have hnm0 : n0 ≤ 9223372036854775807 := by have := r0.1; have := r0.2.1; unfold maxLen at this; omega
  have hnm1 : n1 ≤ 9223372036854775807 := by have := r1.1; have := r1.2.1; unfold maxLen at this; omega
  have hx := box_two w 48 W0 H0 W1 H1 A0 A1 n0 c0 n1 c1
  have hbel : Below w.heap.size w ((w.alloc (.cells #[.int .i64 W0, .int .i64 H0, .slice A0 n0 c0] 48)).alloc (.cells #[.int .i64 W1, .int .i64 H1, .slice A1 n1 c1] 48)) := by go_grown
  have HL := Lib.hid hbel
  have HX := Lib.hid hx
  have HR := Lib.hid r0
  have HS := Lib.hid r1
  clear hx hbel r0 r1
  by_cases hs : (n0 : Int) ≤ 1048576
  · by_cases hs2 : (n1 : Int) ≤ 1048576 - n0
    · have hn0 : n0 ≤ 1048576 := by omega
      have hn1 : n1 ≤ 1048576 := by omega
      have hm0 : n0 ≤ maxLen := by unfold maxLen; omega
      have hm1 : n1 ≤ maxLen := by unfold maxLen; omega
      have HW0 := Lib.hid HR.out.2.2.1
      have HW1 := Lib.hid HS.out.2.2.1
      have hv : (dsV W0 H0 n0 zs0 W1 H1 n1 zs1 != dsV W0 H0 n0 zs0 W1 H1 n1 zs1) = false := by simp
      have hv2 : (dsC W0 H0 n0 zs0 W1 H1 n1 zs1 != dsC W0 H0 n0 zs0 W1 H1 n1 zs1) = false := by simp
      go_enter Try.func11, Try.ntmps11
      go_wp2_with fail
      refine (sz_yes _ W0 H0 A0 n0 c0 1048576 (by omega) (by omega) hs).mono ?_
      rintro e w1 ⟨rfl, b1⟩
      have HX1 := Lib.hid (HX.out.1.below b1 HX.out.1.1)
      have HY1 := Lib.hid (HX.out.2.below b1 HX.out.2.1)
      have HB1 := Lib.hid (HL.out.trans (b1.mono (by simp; omega)))
      clear b1
      obtain ⟨-, k0, k1, k2⟩ := id HY1.out
      go_wp2_with fail
      clear k0 k1 k2
      refine (sz_yes _ W1 H1 A1 n1 c1 (1048576 - n0) (by omega) (by omega) hs2).mono ?_
      rintro e w2 ⟨rfl, b2⟩
      have HX2 := Lib.hid (HX1.out.below b2 HX1.out.1)
      have HY2 := Lib.hid (HY1.out.below b2 HY1.out.1)
      have HB2 := Lib.hid (HB1.out.trans (b2.mono HB1.out.size))
      have z2 := HB2.out.size
      have HP2 := Lib.hid (HR.out.below HB2.out (Nat.le_refl _))
      have HQ2 := Lib.hid (HS.out.below HB2.out (Nat.le_refl _))
      clear b2 HX1 HY1 HB1 HX HL
      have ST := Lib.hid (keep6d HX2.out HY2.out (Below.refl w2.heap.size w2))
      go_wp2_with fail
      go_region_held3 (fun w' => w'.cell? ⟨w.heap.size, 0, none⟩ = some (.int .i64 W0) ∧ w'.cell? ⟨w.heap.size, 1, none⟩ = some (.int .i64 H0) ∧ w'.cell? ⟨w.heap.size, 2, none⟩ = some (.slice A0 n0 c0) ∧
          w'.cell? ⟨w.heap.size + 1, 0, none⟩ = some (.int .i64 W1) ∧ w'.cell? ⟨w.heap.size + 1, 1, none⟩ = some (.int .i64 H1) ∧ w'.cell? ⟨w.heap.size + 1, 2, none⟩ = some (.slice A1 n1 c1) ∧ Below w2.heap.size w2 w')
        (first | exact ST.out | exact keep6 (by assumption) (by assumption))
        (first | (go_at_call 36; (with_reducible refine (toPanel_any _ W0 H0 A0 n0 c0 zs0 ?_ hn0).mono ?_); exact row_keep6 (by assumption) HP2.out; rintro e wP ⟨bP, rfl, hbP, hrowP, bbP⟩) | (go_at_call 36; (with_reducible refine (toPanel_any _ W1 H1 A1 n1 c1 zs1 ?_ hn1).mono ?_); exact row_keep6 (by assumption) HQ2.out; rintro e wQ ⟨bQ, rfl, hbQ, hrowQ, bbQ⟩) | (go_at_call 53; refine (spec_distance _ W0 H0 W1 H1 _ _ n0 n0 n1 n1 zs0 zs1 ?_ ?_).mono ?_; exact (Row.of_rowIs hrowP hm0 HW0.out).below bbQ (Nat.le_refl _); exact Row.of_rowIs hrowQ hm1 HW1.out; rintro e w3 ⟨rfl, b3⟩))
      rename_i hS
      have hB3 := hS.2.2.2.2.2.2
      have X3 : Box w3 w.heap.size W0 H0 A0 n0 c0 := ⟨World.block_lt_of_cell? _ _ hS.1, hS.1, hS.2.1, hS.2.2.1⟩
      have Y3 : Box w3 (w.heap.size + 1) W1 H1 A1 n1 c1 := ⟨World.block_lt_of_cell? _ _ hS.2.2.2.1, hS.2.2.2.1, hS.2.2.2.2.1, hS.2.2.2.2.2.1⟩
      have HB3 := Lib.hid (HB2.out.trans (hB3.mono z2))
      clear hS hB3 ST HX2 HY2 HB2 HP2 HQ2 hrowP hbP bbP hrowQ hbQ bbQ b3
      have HX3 := Lib.hid X3
      have HY3 := Lib.hid Y3
      have z3 := HB3.out.size
      clear X3 Y3
      -- the first copy
      obtain ⟨-, k0, k1, k2⟩ := id HX3.out
      go_wp2_with fail
      clear k0 k1 k2
      refine (toPanel_any _ W0 H0 A0 n0 c0 zs0 (HR.out.below HB3.out (Nat.le_refl _)) hn0).mono ?_
      rintro e w4 ⟨bp, rfl, hbp, hrow4, b4⟩
      have HR4 := Lib.hid (Row.of_rowIs hrow4 hm0 HW0.out)
      have HY4 := Lib.hid (HY3.out.below b4 HY3.out.1)
      have HX4 := Lib.hid (HX3.out.below b4 HX3.out.1)
      have HB4 := Lib.hid (HB3.out.trans (b4.mono HB3.out.size))
      clear b4 hrow4 hbp HX3 HY3 HB3
      obtain ⟨hzy, k0, k1, k2⟩ := id HY4.out
      go_wp2_with fail
      clear hzy k0 k1 k2
      have bN : Below w4.heap.size w4 (w4.alloc (.cells #[.int .i64 W0, .int .i64 H0, .slice (some ⟨bp, 0, none⟩) n0 n0] 56)) := (Below.refl _ _).alloc (Nat.le_refl _) _
      have HU5 := Lib.hid (Box.new w4 56 W0 H0 (some ⟨bp, 0, none⟩) n0 n0)
      have HR5 := Lib.hid (HR4.out.below bN (Nat.le_refl _))
      have HX5 := Lib.hid (HX4.out.below bN HX4.out.1)
      have HY5 := Lib.hid (HY4.out.below bN HY4.out.1)
      have HB5 := Lib.hid (HB4.out.trans (bN.mono HB4.out.size))
      clear bN HR4 HX4 HY4
      refine (toPanel_any _ W1 H1 A1 n1 c1 zs1 (HS.out.below HB5.out (Nat.le_refl _)) hn1).mono ?_
      rintro e w6 ⟨bq, rfl, hbq, hrow6, b6⟩
      have HT6 := Lib.hid (Row.of_rowIs hrow6 hm1 HW1.out)
      have HR6 := Lib.hid (HR5.out.below b6 (Nat.le_refl _))
      have HU6 := Lib.hid (HU5.out.below b6 HU5.out.1)
      have HX6 := Lib.hid (HX5.out.below b6 HX5.out.1)
      have HY6 := Lib.hid (HY5.out.below b6 HY5.out.1)
      have HB6 := Lib.hid (HB5.out.trans (b6.mono HB5.out.size))
      clear b6 hrow6 hbq HR5 HU5 HX5 HY5 HB5 HB4
      obtain ⟨hzu, k0, k1, k2⟩ := id HU6.out
      go_wp2_with fail
      clear hzu k0 k1 k2
      have bN : Below w6.heap.size w6 (w6.alloc (.cells #[.int .i64 W1, .int .i64 H1, .slice (some ⟨bq, 0, none⟩) n1 n1] 56)) := (Below.refl _ _).alloc (Nat.le_refl _) _
      have HV7 := Lib.hid (Box.new w6 56 W1 H1 (some ⟨bq, 0, none⟩) n1 n1)
      have HU7 := Lib.hid (HU6.out.below bN HU6.out.1)
      have HR7 := Lib.hid (HR6.out.below bN (Nat.le_refl _))
      have HT7 := Lib.hid (HT6.out.below bN (Nat.le_refl _))
      have HX7 := Lib.hid (HX6.out.below bN HX6.out.1)
      have HY7 := Lib.hid (HY6.out.below bN HY6.out.1)
      have HB7 := Lib.hid (HB6.out.trans (bN.mono HB6.out.size))
      clear bN HU6 HR6 HT6 HX6 HY6 HB6
      refine (impl_distance _ W0 H0 W1 H1 _ _ n0 n0 n1 n1 zs0 zs1 HR7.out HT7.out).mono ?_
      rintro e w8 ⟨rfl, b8⟩
      have V8 := HV7.out.below b8 HV7.out.1
      have U8 := HU7.out.below b8 HU7.out.1
      have X8 := HX7.out.below b8 HX7.out.1
      have Y8 := HY7.out.below b8 HY7.out.1
      have HR8 := Lib.hid (HR7.out.below b8 (Nat.le_refl _))
      have HT8 := Lib.hid (HT7.out.below b8 (Nat.le_refl _))
      have HB8 := Lib.hid (HB7.out.trans (b8.mono HB7.out.size))
      have HP8 := Lib.hid (HR.out.below HB8.out (Nat.le_refl _))
      clear b8 HV7 HU7 HX7 HY7 HR7 HT7 HB7
      have ST := Lib.hid (keep6d U8 X8 (Below.refl w8.heap.size w8))
      have HV8 := Lib.hid V8
      have HY8 := Lib.hid Y8
      clear V8 Y8
      obtain ⟨-, k0, k1, k2⟩ := U8
      obtain ⟨-, k3, k4, k5⟩ := X8
      go_wp2
      clear k0 k1 k2 k3 k4 k5
      go_region_held3 (fun w' => w'.cell? ⟨w4.heap.size, 0, none⟩ = some (.int .i64 W0) ∧ w'.cell? ⟨w4.heap.size, 1, none⟩ = some (.int .i64 H0) ∧ w'.cell? ⟨w4.heap.size, 2, none⟩ = some (.slice (some ⟨bp, 0, none⟩) n0 n0) ∧
          w'.cell? ⟨w.heap.size, 0, none⟩ = some (.int .i64 W0) ∧ w'.cell? ⟨w.heap.size, 1, none⟩ = some (.int .i64 H0) ∧ w'.cell? ⟨w.heap.size, 2, none⟩ = some (.slice A0 n0 c0) ∧ Below w8.heap.size w8 w')
        (first | exact ST.out | exact keep6 (by assumption) (by assumption))
        (first | (go_at_call 36; refine (toPanel_any _ W0 H0 A0 n0 c0 zs0 ?_ hn0).mono ?_; exact row_keep6 (by assumption) HP8.out; rintro e wP ⟨bz, rfl, hbz, hrowP, bP⟩) | (go_at_call 40; refine (eqPanel_same _ W0 H0 _ _ n0 n0 n0 zs0 ?_ ?_).mono ?_; exact row_keep6 (by assumption) HR8.out; exact Row.of_rowIs hrowP hm0 HW0.out; rintro e w9 ⟨rfl, b9⟩))
      rename_i hS
      have hB9 := hS.2.2.2.2.2.2
      clear hS ST hrowP hbz bP b9
      have V9 := HV8.out.below hB9 HV8.out.1
      have Y9 := HY8.out.below hB9 HY8.out.1
      have HT9 := Lib.hid (HT8.out.below hB9 (Nat.le_refl _))
      have HB9 := Lib.hid (HB8.out.trans (hB9.mono HB8.out.size))
      have HQ9 := Lib.hid (HS.out.below HB9.out (Nat.le_refl _))
      clear hB9 HV8 HY8 HT8 HB8 HR8 HP8
      have ST := Lib.hid (keep6d V9 Y9 (Below.refl w9.heap.size w9))
      obtain ⟨-, k0, k1, k2⟩ := V9
      obtain ⟨-, k3, k4, k5⟩ := Y9
      go_wp2
      clear k0 k1 k2 k3 k4 k5
      go_region_held3 (fun w' => w'.cell? ⟨w6.heap.size, 0, none⟩ = some (.int .i64 W1) ∧ w'.cell? ⟨w6.heap.size, 1, none⟩ = some (.int .i64 H1) ∧ w'.cell? ⟨w6.heap.size, 2, none⟩ = some (.slice (some ⟨bq, 0, none⟩) n1 n1) ∧
          w'.cell? ⟨w.heap.size + 1, 0, none⟩ = some (.int .i64 W1) ∧ w'.cell? ⟨w.heap.size + 1, 1, none⟩ = some (.int .i64 H1) ∧ w'.cell? ⟨w.heap.size + 1, 2, none⟩ = some (.slice A1 n1 c1) ∧ Below w9.heap.size w9 w')
        (first | exact ST.out | exact keep6 (by assumption) (by assumption))
        (first | (go_at_call 36; refine (toPanel_any _ W1 H1 A1 n1 c1 zs1 ?_ hn1).mono ?_; exact row_keep6 (by assumption) HQ9.out; rintro e wP ⟨bz, rfl, hbz, hrowP, bP⟩) | (go_at_call 40; refine (eqPanel_same _ W1 H1 _ _ n1 n1 n1 zs1 ?_ ?_).mono ?_; exact row_keep6 (by assumption) HT9.out; exact Row.of_rowIs hrowP hm1 HW1.out; rintro e wZ ⟨rfl, bZ⟩))
      rename_i hS
      have hB := hS.2.2.2.2.2.2
      clear hS
      go_wp2
      go_ret
      exact ⟨rfl, HB9.out.trans (hB.mono HB9.out.size)⟩
    · have hs3 : 1048576 - (n0 : Int) < n1 := by omega
      go_enter Try.func11, Try.ntmps11
      go_wp2_with fail
      refine (sz_yes _ W0 H0 A0 n0 c0 1048576 (by omega) (by omega) hs).mono ?_
      rintro e w1 ⟨rfl, b1⟩
      have HY1 := Lib.hid (HX.out.2.below b1 HX.out.2.1)
      have HB1 := Lib.hid (HL.out.trans (b1.mono (by simp; omega)))
      clear b1
      obtain ⟨-, k0, k1, k2⟩ := id HY1.out
      go_wp2_with fail
      clear k0 k1 k2
      refine (sz_no _ W1 H1 A1 n1 c1 (1048576 - n0) (by omega) (by omega) hnm1 hs3).mono ?_
      rintro e w2 ⟨rfl, b2⟩
      go_wp2
      go_ret
      exact ⟨rfl, HB1.out.trans (b2.mono HB1.out.size)⟩
  · have hs : 1048576 < (n0 : Int) := by omega
    go_enter Try.func11, Try.ntmps11
    go_wp2_with fail
    refine (sz_no _ W0 H0 A0 n0 c0 1048576 (by omega) (by omega) hnm0 hs).mono ?_
    rintro e w1 ⟨rfl, b1⟩
    go_wp2
    go_ret
    exact ⟨rfl, HL.out.trans (b1.mono (by simp; omega))⟩

set_option maxRecDepth 100000 in
theorem lifted (os : Os) (started : os.Started) (H : Type) (enc : TypeId × Value → H) :
    ReturnsInHanded {} Try.checked os 11 .any (Rows.fnExactDistanceOfSpec.pre6 enc Try.prog Try.f11 Rows.fnExactDistanceOfRow.domain false) (Rows.fnExactDistanceOfSpec.post enc Try.prog Try.f11 false true false false) := by
  refine returnsInHanded_of_change (C := Try.checked) own started (by kernel_rfl) Try.func11
    (ChangeSpec.witness6 (enc := enc) (C := Try.checked) false ⟨#[], #[.agg #[.int .i64 0, .int .i64 0, .slice none 0 0], .agg #[.int .i64 0, .int .i64 0, .slice none 0 0]], []⟩ 8 (by kernel_rfl) (by kernel_rfl) (by kernel_rfl) (by kernel_rfl)) ?_
  intro W base args ds gs before hval0 hW hcnd _
  have hval : ∀ (j : Nat) t v, Try.f11.params[j]? = some t → args[j]? = some v → Value.okWide Try.prog W .any base t v := hval0
  have hW' := hW
  obtain ⟨p, q, hA0, hV, rfl, hfz, hnd⟩ := hW
  have hA : DataW.TrodAll enc Try.prog W 0 (fun _ => true) true Try.f11.params.toList args.toList ds p := hA0
  rw [Try.params11] at hA hval
  obtain ⟨v0, vs0, d0, ds0, p0, q0, hargs, rfl, rfl, h0, tl0⟩ := trodAll_cons hA
  obtain ⟨v1, vs1, d1, ds1, p1, q1, rfl, rfl, rfl, h1, tl1⟩ := trodAll_cons tl0
  obtain ⟨rfl, rfl, rfl⟩ := trodAll_nil tl1
  obtain rfl : args = #[v0, v1] := by cases args; simp_all
  obtain ⟨rfl, rfl⟩ := trodVars_none hV
  have k0 := h0
  have lt0 : ∀ x ∈ p0, x.block < W.heap.size := by obtain ⟨m, hm⟩ := k0; exact DataW.trod_lt m _ _ _ hm
  have k1 := h1
  have lt1 : ∀ x ∈ p1, x.block < W.heap.size := by obtain ⟨m, hm⟩ := k1; exact DataW.trod_lt m _ _ _ hm
  obtain ⟨u00, u01, u02, y00, y01, y02, m0, rfl, rfl, hp0, g00, g01, g02⟩ := open_agg3 Try.underlying48 (by kernel_rfl) (by kernel_rfl) (hval 0 48 v0 rfl rfl) h0
  obtain ⟨W0, e00, -, wW0⟩ := DataW.trod_int Try.underlying2 g00
  obtain ⟨H0, e01, -, wH0⟩ := DataW.trod_int Try.underlying2 g01
  simp at e00 e01
  subst e00 e01
  obtain ⟨A0, n0, c0, zs0, e02, r0⟩ := row_of Try.underlying24 Try.underlying2 (by kernel_rfl) g02 (fun x hx => lt0 x (by rw [hp0]; simp [hx]))
  simp at e02
  subst e02
  obtain ⟨u10, u11, u12, y10, y11, y12, m1, rfl, rfl, hp1, g10, g11, g12⟩ := open_agg3 Try.underlying48 (by kernel_rfl) (by kernel_rfl) (hval 1 48 v1 rfl rfl) h1
  obtain ⟨W1, e10, -, wW1⟩ := DataW.trod_int Try.underlying2 g10
  obtain ⟨H1, e11, -, wH1⟩ := DataW.trod_int Try.underlying2 g11
  simp at e10 e11
  subst e10 e11
  obtain ⟨A1, n1, c1, zs1, e12, r1⟩ := row_of Try.underlying24 Try.underlying2 (by kernel_rfl) g12 (fun x hx => lt1 x (by rw [hp1]; simp [hx]))
  simp at e12
  subst e12
  clear hA0 hval0
  refine (walk W W0 H0 A0 n0 c0 zs0 wW0 wH0 r0 W1 H1 A1 n1 c1 zs1 wW1 wH1 r1).mono fun e W' ⟨he, bel⟩ => ?_
  subst he
  exact ⟨_, rfl, _, _, _, [], _, [], hW', trodAll_mk1 (shut_bool Try.underlying4 _), (trodAll_cons_mk (Below.trod laidOut (by kernel_rfl) (of_decide_eq_true (by kernel_rfl)) k0 bel lt0) (trodAll_cons_mk (Below.trod laidOut (by kernel_rfl) (of_decide_eq_true (by kernel_rfl)) k1 bel lt1) trodAll_mk0)), rfl, bel.frame _, fun h => by cases h⟩

theorem over : Rows.fnExactDistanceOfRow.holds Try.pinned (OpenSpec.ofChange Rows.fnExactDistanceOfSpec) :=
  OpenClaim.holds_of_wide 11 Try.f11 rfl rfl rfl rfl rfl rfl rfl ⟨rfl, rfl, rfl, rfl, rfl⟩ rfl rfl rfl rfl rfl (by kernel_rfl) Try.func11 (by kernel_rfl)
    (of_decide_eq_true (by kernel_rfl)) (by unfold Func.isWrapper; first | (rw [if_pos (by decide +kernel)]; kernel_rfl) | (rw [if_neg (by decide +kernel)]; exact ⟨rfl, rfl⟩))
    (fun os started H enc _ => lifted os started H enc)

theorem proved : Rows.FnExactDistanceOfSaid := over
#print axioms proved
end Go.Proofs.Ytneknajeecgnoaa.fnExactDistanceOf
