/- Proved: whatever panel (of at most 2^20 breaks; for larger ones the law answers true at once) (and whatever other arguments) EffectOf of the program is called with, it answers as the model and changes nothing; the table of directions starts as the program's text lays it (the card ties it). -/
import Derived.Test.YtjgclemfehfgiaaDoorCards
import Derived.Test.YtjgclemfehfgiaaDoorTie
import Derived.Test.YtjgclemfehfgiaaDoorBase
import Derived.Test.YtjgclemfehfgiaaDoorPan
import Derived.Test.YtjgclemfehfgiaaDoorShape
import Derived.Test.YtjgclemfehfgiaaDoorWlkC
import Derived.Test.YtjgclemfehfgiaaDoorTab
import Derived.Test.YtjgclemfehfgiaaDoorGE
import Derived.Test.YtjgclemfehfgiaaDoorGF
import Derived.WalkKit
import Derived.ProofKit
import Derived.OpenShut
import Derived.ShutString
import Derived.OpenVars
import Derived.Handy
import Derived.Carry
import Derived.Deep.DeepHandedRow
import Derived.Lib.LaidTab
import Derived.Lib.SmallJoins
namespace Go.Proofs.YtjgclemfehfgiaaDoor.fnExactEffectOf
open Go.ChangeShapes Go.WideShapes Go.ChangeAt Go.RowKit Go.Joins
open Go.ChangeMaps (open_string shut_string)
open Go.Proofs.YtjgclemfehfgiaaDoor.Base
set_option linter.unusedVariables false
theorem own : ownKnob Tryd.prog.godebug = none := by kernel_rfl
theorem laidOut : laidOutB Tryd.prog = true := by kernel_rfl
theorem gTab : Tryd.prog.globalNamed "loop.example/g00931/impl.directions" = some 1 := by kernel_rfl
theorem gTabType : (Tryd.prog.globals[1]?).map (·.type) = some 231 := by kernel_rfl
theorem cellsI : Tryd.prog.cellsOf 2 = 1 := by kernel_rfl
theorem cellsR : Tryd.prog.cellsOf 195 = 2 := by kernel_rfl
theorem table {W : World} (h : laidMetH Tryd.prog Rows.fnExactEffectOfRow.laid W) : Cel W 1 [.int .i64 (-1), .int .i64 (-1), .int .i64 1, .int .i64 (-1), .int .i64 (-1), .int .i64 1, .int .i64 1, .int .i64 1] := by
  rw [MakeChecks.laidMetH_plain _ _ _ (by kernel_rfl)] at h
  obtain ⟨ps, ⟨g', t', cs, fuel, p, q, hg', ht', hvar, hd, _, _⟩, _⟩ := h
  obtain rfl := Option.some.inj (gTab.symm.trans hg')
  obtain rfl := Option.some.inj (gTabType.symm.trans ht')
  refine cel_of_cells (by simp) (fun i v hv => ?_)
  rw [World.var?_cell hg' hvar i]
  have hc := cells_of_rows (n := 4) (m := 2) (rows := [[-1, -1], [1, -1], [-1, 1], [1, 1]]) Tryd.underlying231 Tryd.underlying195 Tryd.underlying2 cellsR cellsI hd
  match i, hv with
  | 0, hv => obtain rfl := Option.some.inj hv; simpa using hc 0 0 (by decide) (by decide) _ _ rfl rfl
  | 1, hv => obtain rfl := Option.some.inj hv; simpa using hc 0 1 (by decide) (by decide) _ _ rfl rfl
  | 2, hv => obtain rfl := Option.some.inj hv; simpa using hc 1 0 (by decide) (by decide) _ _ rfl rfl
  | 3, hv => obtain rfl := Option.some.inj hv; simpa using hc 1 1 (by decide) (by decide) _ _ rfl rfl
  | 4, hv => obtain rfl := Option.some.inj hv; simpa using hc 2 0 (by decide) (by decide) _ _ rfl rfl
  | 5, hv => obtain rfl := Option.some.inj hv; simpa using hc 2 1 (by decide) (by decide) _ _ rfl rfl
  | 6, hv => obtain rfl := Option.some.inj hv; simpa using hc 3 0 (by decide) (by decide) _ _ rfl rfl
  | 7, hv => obtain rfl := Option.some.inj hv; simpa using hc 3 1 (by decide) (by decide) _ _ rfl rfl
  | i + 8, hv => simp at hv
theorem gTab2 : Tryd.prog.globalNamed "loop.example/g00931/impl.joinedDirections" = some 0 := by kernel_rfl
theorem gTabType2 : (Tryd.prog.globals[0]?).map (·.type) = some 197 := by kernel_rfl
theorem cellsR3 : Tryd.prog.cellsOf 196 = 4 := by kernel_rfl
theorem table2 {W : World} (h : laidMetH Tryd.prog Rows.fnExactEffectOfRow.laid W) : Cel W 0 [.int .i64 0, .int .i64 3, .int .i64 1, .int .i64 2, .int .i64 0, .int .i64 2, .int .i64 1, .int .i64 3, .int .i64 0, .int .i64 1, .int .i64 2, .int .i64 3] := by
  rw [MakeChecks.laidMetH_plain _ _ _ (by kernel_rfl)] at h
  obtain ⟨ps, ⟨_, _, _, _, _, _, _, _, _, _, ⟨g', t', cs, fuel, p, q, hg', ht', hvar, hd, _, _⟩, _⟩, _⟩ := h
  obtain rfl := Option.some.inj (gTab2.symm.trans hg')
  obtain rfl := Option.some.inj (gTabType2.symm.trans ht')
  refine cel_of_cells (by simp) (fun i v hv => ?_)
  rw [World.var?_cell hg' hvar i]
  have hc := cells_of_rows3 (n := 3) (m := 2) (l := 2) (rows := [[[0, 3], [1, 2]], [[0, 2], [1, 3]], [[0, 1], [2, 3]]]) Tryd.underlying197 Tryd.underlying196 Tryd.underlying195 Tryd.underlying2 cellsR3 cellsR cellsI hd
  match i, hv with
  | 0, hv => obtain rfl := Option.some.inj hv; simpa using hc 0 0 0 (by decide) (by decide) (by decide) _ _ _ rfl rfl rfl
  | 1, hv => obtain rfl := Option.some.inj hv; simpa using hc 0 0 1 (by decide) (by decide) (by decide) _ _ _ rfl rfl rfl
  | 2, hv => obtain rfl := Option.some.inj hv; simpa using hc 0 1 0 (by decide) (by decide) (by decide) _ _ _ rfl rfl rfl
  | 3, hv => obtain rfl := Option.some.inj hv; simpa using hc 0 1 1 (by decide) (by decide) (by decide) _ _ _ rfl rfl rfl
  | 4, hv => obtain rfl := Option.some.inj hv; simpa using hc 1 0 0 (by decide) (by decide) (by decide) _ _ _ rfl rfl rfl
  | 5, hv => obtain rfl := Option.some.inj hv; simpa using hc 1 0 1 (by decide) (by decide) (by decide) _ _ _ rfl rfl rfl
  | 6, hv => obtain rfl := Option.some.inj hv; simpa using hc 1 1 0 (by decide) (by decide) (by decide) _ _ _ rfl rfl rfl
  | 7, hv => obtain rfl := Option.some.inj hv; simpa using hc 1 1 1 (by decide) (by decide) (by decide) _ _ _ rfl rfl rfl
  | 8, hv => obtain rfl := Option.some.inj hv; simpa using hc 2 0 0 (by decide) (by decide) (by decide) _ _ _ rfl rfl rfl
  | 9, hv => obtain rfl := Option.some.inj hv; simpa using hc 2 0 1 (by decide) (by decide) (by decide) _ _ _ rfl rfl rfl
  | 10, hv => obtain rfl := Option.some.inj hv; simpa using hc 2 1 0 (by decide) (by decide) (by decide) _ _ _ rfl rfl rfl
  | 11, hv => obtain rfl := Option.some.inj hv; simpa using hc 2 1 1 (by decide) (by decide) (by decide) _ _ _ rfl rfl rfl
  | i + 12, hv => simp at hv
theorem tables {W : World} (h : laidMetH Tryd.prog Rows.fnExactEffectOfRow.laid W) : TabsJ W := TabsJ.mk_ (table h) (table2 h)
theorem walk (w : World) (hT : TabsJ w) (W0 H0 : Int) (A0 : Option Addr) (n0 c0 : Nat) (zs0 : Nat → Int) (wW0 : (Lit.int .i64 W0).wf = true) (wH0 : (Lit.int .i64 H0).wf = true) (r0 : Row .i64 w A0 n0 c0 zs0) (x1 y1 : Int) (wx1 : (Lit.int .i64 x1).wf = true) (wy1 : (Lit.int .i64 y1).wf = true) (a2 : Int) (w2 : (Lit.int .i64 a2).wf = true) :
    Calls Tryd.prog 3 #[.agg #[.int .i64 W0, .int .i64 H0, .slice A0 n0 c0], .agg #[.int .i64 x1, .int .i64 y1], .int .i64 a2] w fun e w' => e = .returned (.bool true) ∧ Below w.heap.size w w' := by
  have hnm : n0 ≤ 9223372036854775807 := by have := r0.1; have := r0.2.1; unfold maxLen at this; omega
  by_cases hs : (n0 : Int) ≤ 1048576
  · have HR := Lib.hid r0
    clear r0
    have hn20 : n0 ≤ 1048576 := by omega
    have hn63 : n0 ≤ maxLen := by unfold maxLen; omega
    have HW := Lib.hid HR.out.2.2.1
    go_enter Tryd.func3, Tryd.ntmps3
    go_wp2_with fail
    refine (sz_yes _ W0 H0 A0 n0 c0 1048576 (by omega) (by omega) hs).mono ?_
    rintro e w1 ⟨rfl, b1⟩
    have HB1 := Lib.hid (Below.trans (show Below w.heap.size w ((w.alloc (.cells #[.int .i64 W0, .int .i64 H0, .slice A0 n0 c0] 24)).alloc (.cells #[.int .i64 x1, .int .i64 y1] 26)) from (((Below.refl w.heap.size w).alloc (by simp) _).alloc (by simp) _)) (b1.mono (by first | (simp; done) | (simp; omega))))
    have HX1 : Hid (Cel w1 (w.heap.size) [.int .i64 W0, .int .i64 H0, .slice A0 n0 c0]) := Lib.hid (by have h := (((Cel.new w [.int .i64 W0, .int .i64 H0, .slice A0 n0 c0] 24).below ((Below.refl _ (w.alloc (.cells #[.int .i64 W0, .int .i64 H0, .slice A0 n0 c0] 24))).alloc (Nat.le_refl _) (.cells #[.int .i64 x1, .int .i64 y1] 26)) (by simp)).below b1 (by first | (simp; done) | (simp; omega))); simpa using h)
    have HD11 : Hid (Cel w1 (w.heap.size + 1) [.int .i64 x1, .int .i64 y1]) := Lib.hid (by have h := ((Cel.new (w.alloc (.cells #[.int .i64 W0, .int .i64 H0, .slice A0 n0 c0] 24)) [.int .i64 x1, .int .i64 y1] 26).below b1 (by first | (simp; done) | (simp; omega))); simpa using h)
    have HA1 := Lib.hid (HR.out.below HB1.out (Nat.le_refl _))
    have HT1 := Lib.hid (hT.below HB1.out hT.1)
    clear b1 HR
    have kX_z := HX1.out.1
    have kX_0 := HX1.out.2 0 _ rfl
    have kX_1 := HX1.out.2 1 _ rfl
    have kX_2 := HX1.out.2 2 _ rfl
    have kD1_z := HD11.out.1
    have kD1_0 := HD11.out.2 0 _ rfl
    have kD1_1 := HD11.out.2 1 _ rfl
    have OL := Lib.hid (Old.mk_ (Below.refl w1.heap.size w1).drew)
    go_wp2_with fail
    go_region_held3 (fun w' => (∀ b o, b < w1.heap.size → w'.cell? ⟨b, o, none⟩ = w1.cell? ⟨b, o, none⟩) ∧ Below w1.heap.size w1 w')
      (first | assumption | exact OL.out | exact Old.trans (by assumption) (by assumption))
      (first | (go_at_call 13; refine (toPanel_any _ W0 H0 A0 n0 c0 zs0 ?_ hn20).mono ?_; exact HA1.out.old (by assumption); rintro e wP ⟨bP, rfl, hbP, hrowP, bbP⟩) | (go_at_call 14; (with_reducible refine (toPoint_any _ x1 y1).mono ?_); rintro e wQ1 ⟨rfl, bQ1⟩) | (go_at_call 12; (with_reducible refine (spec_effectOf _ W0 H0 _ n0 n0 zs0 x1 y1 a2 ?_).mono ?_); exact ((Row.of_rowIs hrowP hn63 HW.out).below bQ1 (Nat.le_refl _)); rintro e w2 ⟨rfl, b2⟩))
    clear kX_z kX_0 kX_1 kX_2 kD1_z kD1_0 kD1_1
    rename_i hS
    have hB2 := hS.2
    have HB2 := Lib.hid (HB1.out.trans (hB2.mono HB1.out.size))
    have HA2 := Lib.hid (HA1.out.below hB2 (Nat.le_refl _))
    have HX2 := Lib.hid (HX1.out.below hB2 HX1.out.1)
    have HD12 := Lib.hid (HD11.out.below hB2 HD11.out.1)
    have HT2 := Lib.hid (HT1.out.below hB2 HT1.out.1)
    clear hS hB2 OL hrowP hbP bbP b2 bQ1 HB1 HA1
    clear HX1 HD11 HT1
    have kX_z := HX2.out.1
    have kX_0 := HX2.out.2 0 _ rfl
    have kX_1 := HX2.out.2 1 _ rfl
    have kX_2 := HX2.out.2 2 _ rfl
    have kD1_z := HD12.out.1
    have kD1_0 := HD12.out.2 0 _ rfl
    have kD1_1 := HD12.out.2 1 _ rfl
    go_wp2_with fail
    refine (toPanel_any _ W0 H0 A0 n0 c0 zs0 HA2.out hn20).mono ?_
    rintro e w4 ⟨bq, rfl, hbq, hrow4, b4⟩
    clear kX_z kX_0 kX_1 kX_2 kD1_z kD1_0 kD1_1
    have HX4 := Lib.hid (HX2.out.below b4 HX2.out.1)
    have HD14 := Lib.hid (HD12.out.below b4 HD12.out.1)
    have HT4 := Lib.hid (HT2.out.below b4 HT2.out.1)
    have HB4 := Lib.hid (HB2.out.trans (b4.mono HB2.out.size))
    have HA4 := Lib.hid (HA2.out.below b4 (Nat.le_refl _))
    have HR4 := Lib.hid (Row.of_rowIs hrow4 hn63 HW.out)
    clear b4 hrow4 hbq HB2 HA2
    clear HX2 HD12 HT2
    go_wp2_with fail
    have bN := (Below.refl w4.heap.size w4).alloc (Nat.le_refl _) (.cells #[.int .i64 W0, .int .i64 H0, .slice (some ⟨bq, 0, none⟩) n0 n0] 30)
    have HX5 := Lib.hid (HX4.out.below bN HX4.out.1)
    have HD15 := Lib.hid (HD14.out.below bN HD14.out.1)
    have HT5 := Lib.hid (HT4.out.below bN HT4.out.1)
    have HY5 := Lib.hid (Cel.new w4 [.int .i64 W0, .int .i64 H0, .slice (some ⟨bq, 0, none⟩) n0 n0] 30)
    have HB5 := Lib.hid (HB4.out.trans (bN.mono HB4.out.size))
    have HA5 := Lib.hid (HA4.out.below bN (Nat.le_refl _))
    have HR5 := Lib.hid (HR4.out.below bN (Nat.le_refl _))
    clear bN HB4 HA4 HR4
    clear HX4 HD14 HT4
    generalize w4.alloc (.cells #[.int .i64 W0, .int .i64 H0, .slice (some ⟨bq, 0, none⟩) n0 n0] 30) = w5 at *
    generalize w4.heap.size = bY at *
    have kX_z := HX5.out.1
    have kX_0 := HX5.out.2 0 _ rfl
    have kX_1 := HX5.out.2 1 _ rfl
    have kX_2 := HX5.out.2 2 _ rfl
    have kD1_z := HD15.out.1
    have kD1_0 := HD15.out.2 0 _ rfl
    have kD1_1 := HD15.out.2 1 _ rfl
    have kY_z := HY5.out.1
    have kY_0 := HY5.out.2 0 _ rfl
    have kY_1 := HY5.out.2 1 _ rfl
    have kY_2 := HY5.out.2 2 _ rfl
    have OL := Lib.hid (Old.mk_ (Below.refl w5.heap.size w5).drew)
    go_region_held3 (fun w' => (∀ b o, b < w5.heap.size → w'.cell? ⟨b, o, none⟩ = w5.cell? ⟨b, o, none⟩) ∧ Below w5.heap.size w5 w')
      (first | assumption | exact OL.out | exact Old.trans (by assumption) (by assumption))
      (first | (go_at_call 14; (with_reducible refine (toPoint_any _ x1 y1).mono ?_); rintro e wQ1 ⟨rfl, bQ1⟩) | (go_at_call 15; (with_reducible refine (impl_effectOfT _ W0 H0 _ n0 n0 zs0 x1 y1 a2 ?_ (HT5.out.old (by first | assumption | exact OL.out | exact Old.trans OL.out (by assumption) | exact Old.trans (Old.trans OL.out (by assumption)) (by assumption)))).mono ?_); exact HR5.out.old (by first | assumption | exact OL.out | exact Old.trans OL.out (by assumption) | exact Old.trans (Old.trans OL.out (by assumption)) (by assumption)); rintro e w6 ⟨rfl, b6⟩))
    clear kX_z kX_0 kX_1 kX_2 kD1_z kD1_0 kD1_1 kY_z kY_0 kY_1 kY_2
    rename_i hS
    have b6 := hS.2
    clear hS OL
    have HX6 := Lib.hid (HX5.out.below b6 HX5.out.1)
    have HD16 := Lib.hid (HD15.out.below b6 HD15.out.1)
    have HT6 := Lib.hid (HT5.out.below b6 HT5.out.1)
    have HY6 := Lib.hid (HY5.out.below b6 HY5.out.1)
    have HB6 := Lib.hid (HB5.out.trans (b6.mono HB5.out.size))
    have HA6 := Lib.hid (HA5.out.below b6 (Nat.le_refl _))
    have HR6 := Lib.hid (HR5.out.below b6 (Nat.le_refl _))
    clear b6 HB5 HA5 HR5
    clear HX5 HD15 HT5 HY5
    have kX_z := HX6.out.1
    have kX_0 := HX6.out.2 0 _ rfl
    have kX_1 := HX6.out.2 1 _ rfl
    have kX_2 := HX6.out.2 2 _ rfl
    have kD1_z := HD16.out.1
    have kD1_0 := HD16.out.2 0 _ rfl
    have kD1_1 := HD16.out.2 1 _ rfl
    have kY_z := HY6.out.1
    have kY_0 := HY6.out.2 0 _ rfl
    have kY_1 := HY6.out.2 1 _ rfl
    have kY_2 := HY6.out.2 2 _ rfl
    have hv0 : ((efV W0 H0 n0 zs0 x1 y1 a2) != (efV W0 H0 n0 zs0 x1 y1 a2)) = false := by simp
    have hv1 : ((setC W0 H0 n0 zs0 x1 y1 a2) != (setC W0 H0 n0 zs0 x1 y1 a2)) = false := by simp
    have OL := Lib.hid (Old.mk_ (Below.refl w6.heap.size w6).drew)
    go_wp2
    go_region_held3 (fun w' => (∀ b o, b < w6.heap.size → w'.cell? ⟨b, o, none⟩ = w6.cell? ⟨b, o, none⟩) ∧ Below w6.heap.size w6 w')
      (first | assumption | exact OL.out | exact Old.trans (by assumption) (by assumption))
      (first | (go_at_call 13; refine (toPanel_any _ W0 H0 A0 n0 c0 zs0 ?_ hn20).mono ?_; exact HA6.out.old (by assumption); rintro e w7 ⟨bz, rfl, hbz, hrow7, b7⟩) | (go_at_call 16; refine (eqPanel_same _ W0 H0 _ _ n0 n0 n0 zs0 ?_ ?_).mono ?_; exact HR6.out.old (by assumption); exact Row.of_rowIs hrow7 hn63 HW.out; rintro e w8 ⟨rfl, b8⟩))
    rename_i hS
    have hB := hS.2
    clear hS
    go_wp2
    go_ret
    exact ⟨rfl, HB6.out.trans (hB.mono HB6.out.size)⟩
  · have hs : 1048576 < (n0 : Int) := by omega
    go_enter Tryd.func3, Tryd.ntmps3
    go_wp2_with fail
    refine (sz_no _ W0 H0 A0 n0 c0 1048576 (by omega) (by omega) hnm hs).mono ?_
    rintro e w1 ⟨rfl, b1⟩
    go_wp2
    go_ret
    exact ⟨rfl, Below.trans (show Below w.heap.size w ((w.alloc (.cells #[.int .i64 W0, .int .i64 H0, .slice A0 n0 c0] 24)).alloc (.cells #[.int .i64 x1, .int .i64 y1] 26)) from (((Below.refl w.heap.size w).alloc (by simp) _).alloc (by simp) _)) (b1.mono (by first | (simp; done) | (simp; omega)))⟩

set_option maxRecDepth 100000 in
theorem contract (H : Type) (enc : TypeId × Value → H) (W : World) (base : Nat) (args : Array Value) (ds gs : List (DataW H)) (before : List MemPlace)
    (hval0 : ∀ (j : Nat) t v, Tryd.f3.params[j]? = some t → args[j]? = some v → Value.okWide Tryd.prog W .any base t v)
    (hW : DataW.Whole enc Tryd.prog Tryd.f3.params.toList Rows.fnExactEffectOfSpec.vars false W args.toList ds gs before) (hL : laidMetH Tryd.prog Rows.fnExactEffectOfRow.laid W) :
    Calls Tryd.prog 3 args W fun e W' => ∃ v, e = .returned v ∧ Rows.fnExactEffectOfSpec.post enc Tryd.prog Tryd.f3 false true false false W args v W' := by
  have hval : ∀ (j : Nat) t v, Tryd.f3.params[j]? = some t → args[j]? = some v → Value.okWide Tryd.prog W .any base t v := hval0
  have hW' := hW
  obtain ⟨p, q, hA0, hV, rfl, hfz, hnd⟩ := hW
  have hA : DataW.TrodAll enc Tryd.prog W 0 (fun _ => true) true Tryd.f3.params.toList args.toList ds p := hA0
  rw [Tryd.params3] at hA hval
  obtain ⟨v0, vs0, d0, ds0, p0, q0, hargs, rfl, rfl, h0, tl0⟩ := trodAll_cons hA
  obtain ⟨v1, vs1, d1, ds1, p1, q1, rfl, rfl, rfl, h1, tl1⟩ := trodAll_cons tl0
  obtain ⟨v2, vs2, d2, ds2, p2, q2, rfl, rfl, rfl, h2, tl2⟩ := trodAll_cons tl1
  obtain ⟨rfl, rfl, rfl⟩ := trodAll_nil tl2
  obtain rfl : args = #[v0, v1, v2] := by cases args; simp_all
  have k0 := h0
  have lt0 : ∀ x ∈ p0, x.block < W.heap.size := by obtain ⟨m, hm⟩ := k0; exact DataW.trod_lt m _ _ _ hm
  have k1 := h1
  have lt1 : ∀ x ∈ p1, x.block < W.heap.size := by obtain ⟨m, hm⟩ := k1; exact DataW.trod_lt m _ _ _ hm
  have k2 := h2
  have lt2 : ∀ x ∈ p2, x.block < W.heap.size := by obtain ⟨m, hm⟩ := k2; exact DataW.trod_lt m _ _ _ hm
  obtain ⟨u00, u01, u02, y00, y01, y02, m0, rfl, rfl, hp0, g00, g01, g02⟩ := open_agg3 Tryd.underlying24 (by kernel_rfl) (by kernel_rfl) (hval 0 24 v0 rfl rfl) h0
  obtain ⟨W0, e00, -, wW0⟩ := DataW.trod_int Tryd.underlying2 g00
  obtain ⟨H0, e01, -, wH0⟩ := DataW.trod_int Tryd.underlying2 g01
  simp at e00 e01
  subst e00 e01
  obtain ⟨A0, n0, c0, zs0, e02, r0⟩ := row_of Tryd.underlying22 Tryd.underlying2 (by kernel_rfl) g02 (fun x hx => lt0 x (by rw [hp0]; simp [hx]))
  simp at e02
  subst e02
  obtain ⟨u10, u11, y10, y11, m1, rfl, rfl, -, g10, g11⟩ := open_agg2 Tryd.underlying26 (by kernel_rfl) (by kernel_rfl) (hval 1 26 v1 rfl rfl) h1
  obtain ⟨x1, e10, -, wx1⟩ := DataW.trod_int Tryd.underlying2 g10
  obtain ⟨y1, e11, -, wy1⟩ := DataW.trod_int Tryd.underlying2 g11
  simp at e10 e11
  subst e10 e11
  obtain ⟨a2, rfl, rfl, rfl, w2⟩ := open_int Tryd.underlying2 (hval 2 2 v2 rfl rfl) h2
  clear hA0 hval0
  refine (walk W (tables hL) W0 H0 A0 n0 c0 zs0 wW0 wH0 r0 x1 y1 wx1 wy1 a2 w2).mono fun e W' ⟨he, bel⟩ => ?_
  subst he
  match gs, hV with
  | [g1, g2], hV =>
    exact ⟨_, rfl, _, _, _, [], _, q, hW', trodAll_mk1 (shut_bool Tryd.underlying4 _), (trodAll_cons_mk (Below.trod laidOut (by kernel_rfl) (of_decide_eq_true (by kernel_rfl)) k0 bel lt0) (trodAll_cons_mk (Below.trod laidOut (by kernel_rfl) (of_decide_eq_true (by kernel_rfl)) k1 bel lt1) (trodAll_cons_mk (Below.trod laidOut (by kernel_rfl) (of_decide_eq_true (by kernel_rfl)) k2 bel lt2) trodAll_mk0))), Below.trodVars laidOut bel (by kernel_rfl) hV, bel.frame _, fun h => by cases h⟩

/-- A WORLD FOR THE WITNESS: the settled one, the table holding what its initialiser lays. -/
noncomputable def laidWorld (os : Os) : World :=
  { World.holding Tryd.prog os ⟨#[], #[], []⟩ with heap := (((World.holding Tryd.prog os ⟨#[], #[], []⟩).heap.modify 1 (fun x => match x with | .cells _ t frozen => .cells #[.int .i64 (-1), .int .i64 (-1), .int .i64 1, .int .i64 (-1), .int .i64 (-1), .int .i64 1, .int .i64 1, .int .i64 1] t frozen | o => o)).modify 0 (fun x => match x with | .cells _ t frozen => .cells #[.int .i64 0, .int .i64 3, .int .i64 1, .int .i64 2, .int .i64 0, .int .i64 2, .int .i64 1, .int .i64 3, .int .i64 0, .int .i64 1, .int .i64 2, .int .i64 3] t frozen | o => o)) }
theorem laid_met (os : Os) : laidMet Tryd.prog Rows.fnExactEffectOfRow.laid ((laidWorld os).forCall (fun _ _ => 0) ⟨#[], #[.agg #[.int .i64 0, .int .i64 0, .slice none 0 0], .agg #[.int .i64 0, .int .i64 0], .int .i64 0], []⟩).memory :=
  laidMet_of_run' 8 (by kernel_rfl) (by kernel_rfl)
theorem reads (os : Os) {H : Type} (enc : TypeId × Value → H) : ∃ gs places, DataW.whole enc Tryd.prog ((laidWorld os).forCall (fun _ _ => 0) ⟨#[], #[.agg #[.int .i64 0, .int .i64 0, .slice none 0 0], .agg #[.int .i64 0, .int .i64 0], .int .i64 0], []⟩).memory Tryd.f3.params.toList Rows.fnExactEffectOfSpec.vars false (#[.agg #[.int .i64 0, .int .i64 0, .slice none 0 0], .agg #[.int .i64 0, .int .i64 0], .int .i64 0] : Array Value).toList 8 = some ([.agg [.lit (.int .i64 0), .lit (.int .i64 0), .nil], .agg [.lit (.int .i64 0), .lit (.int .i64 0)], .lit (.int .i64 0)], gs, places) :=
  ⟨[Rows.laid_loop_example_g00931_impl_joinedDirections, Rows.laid_loop_example_g00931_impl_directions], [.cell 0 0, .cell 0 1, .cell 0 2, .cell 0 3, .cell 0 4, .cell 0 5, .cell 0 6, .cell 0 7, .cell 0 8, .cell 0 9, .cell 0 10, .cell 0 11, .cell 1 0, .cell 1 1, .cell 1 2, .cell 1 3, .cell 1 4, .cell 1 5, .cell 1 6, .cell 1 7], by kernel_rfl⟩

set_option maxRecDepth 100000 in
theorem lifted (os : Os) (started : os.Started) (H : Type) (enc : TypeId × Value → H) (F : Stop.Interp) :
    ReturnsInHanded {} Tryd.checked os 3 .any ((OpenSpec.ofChange Rows.fnExactEffectOfSpec).preRow enc Tryd.prog Tryd.f3 Rows.fnExactEffectOfRow.domain false Rows.fnExactEffectOfRow.laid) (((OpenSpec.ofChange Rows.fnExactEffectOfSpec).at F).post enc Tryd.prog Tryd.f3 false true false false) := by
  obtain ⟨gs, places, hx⟩ := reads os enc
  refine returnsInHanded_of_row (C := Tryd.checked) (s := OpenSpec.ofChange Rows.fnExactEffectOfSpec) own started (by kernel_rfl) Tryd.func3
    (witness_row_at (enc := enc) (C := Tryd.checked) false (laidWorld os) #[.agg #[.int .i64 0, .int .i64 0, .slice none 0 0], .agg #[.int .i64 0, .int .i64 0], .int .i64 0] rfl (by kernel_rfl) (by kernel_rfl) (by kernel_rfl)
      (OpenSpec.preRow_of_cond 8 hx (by kernel_rfl) (fun k hk => by cases hk) (by kernel_rfl) (laid_met os))) ?_
  intro W base args ds gs before hval hW _ _ _ hL _ _
  exact contract H enc W base args ds gs before hval hW hL

theorem said : Rows.FnExactEffectOfSaid :=
  OpenClaim.holds_of_cond 3 Tryd.f3 rfl rfl rfl rfl rfl rfl rfl ⟨rfl, rfl, rfl, rfl, rfl⟩ rfl rfl rfl rfl rfl (by kernel_rfl) Tryd.func3 (by kernel_rfl)
    (of_decide_eq_true (by kernel_rfl)) (by unfold Func.isWrapper; first | (rw [if_pos (by decide +kernel)]; kernel_rfl) | (rw [if_neg (by decide +kernel)]; exact ⟨rfl, rfl⟩))
    (fun os started H enc _ F => by rw [OpenClaim.pre_eq_preRow]; exact lifted os started H enc F)


theorem plain (f : FuncId) (fn : Func) (hf : Tryd.pinned.checked.prog.funcNamed "loop.example/g00931/laws.FnExactEffectOf" = some f) (hfn : Tryd.pinned.checked.prog.funcs[f]? = some fn) :
    false = Tryd.pinned.checked.prog.looks [] ∧ ∀ (j : Nat) t, fn.params[j]? = some t → Tryd.pinned.checked.prog.wantsStandIn t = false := by
  obtain rfl : f = 3 := Option.some.inj ((show Tryd.prog.funcNamed "loop.example/g00931/laws.FnExactEffectOf" = some 3 by kernel_rfl).symm.trans hf) |>.symm
  obtain rfl : fn = Tryd.f3 := (Option.some.inj (Tryd.func3.symm.trans hfn)).symm
  refine ⟨by kernel_rfl, fun j t ht => ?_⟩
  rw [Tryd.params3] at ht
  match j, ht with
  | 0, ht =>
    have e : t = 24 := by simpa using ht.symm
    subst e
    exact (show Tryd.prog.wantsStandIn 24 = false by kernel_rfl)
  | 1, ht =>
    have e : t = 26 := by simpa using ht.symm
    subst e
    exact (show Tryd.prog.wantsStandIn 26 = false by kernel_rfl)
  | 2, ht =>
    have e : t = 2 := by simpa using ht.symm
    subst e
    exact (show Tryd.prog.wantsStandIn 2 = false by kernel_rfl)
  | j + 3, ht => simp at ht

theorem card : Rows.FnExactEffectOfCardSaid :=
  Claim7.holds_tied_plain_at .later [] _ _ _ _ said (fun _ h => by cases h) (by kernel_rfl) (fun _ h => by cases h) fnExactEffectOf_row_tie rfl ⟨rfl, rfl⟩ (by kernel_rfl) rfl plain (by kernel_rfl)
#print axioms card
end Go.Proofs.YtjgclemfehfgiaaDoor.fnExactEffectOf
