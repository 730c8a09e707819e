/- Proved: whatever bytes FnSharedPoints is called with (of at most 3000 each; for longer ones the law answers true at once), it returns true and changes nothing; the table of turns starts as the program's text lays it (the card ties it). -/
import Derived.Test.YtbpdjmjkjiddjaaDoorCards
import Derived.Test.YtbpdjmjkjiddjaaDoorTie
import Derived.Test.YtbpdjmjkjiddjaaDoorBase
import Derived.Test.YtbpdjmjkjiddjaaDoorPan
import Derived.Test.YtbpdjmjkjiddjaaDoorShape
import Derived.Test.YtbpdjmjkjiddjaaDoorWlkC
import Derived.Test.YtbpdjmjkjiddjaaDoorTab
import Derived.Test.YtbpdjmjkjiddjaaDoorTb2
import Derived.Test.YtbpdjmjkjiddjaaDoorGA
import Derived.WalkKit
import Derived.ProofKit
import Derived.OpenShut
import Derived.ShutString
import Derived.OpenVars
import Derived.Handy
import Derived.Carry
import Derived.Deep.DeepHandedRow
import Derived.Lib.LaidTab
import Derived.Lib.SmallJoins
namespace Go.Proofs.YtbpdjmjkjiddjaaDoor.fnSharedPoints
open Go.ChangeShapes Go.WideShapes Go.ChangeAt Go.RowKit Go.Joins
open Go.ChangeMaps (open_string shut_string)
open Go.Proofs.YtbpdjmjkjiddjaaDoor.Base
set_option linter.unusedVariables false
theorem own : ownKnob Tryd.prog.godebug = none := by kernel_rfl
theorem laidOut : laidOutB Tryd.prog = true := by kernel_rfl
theorem gTab : Tryd.prog.globalNamed "loop.example/g00931/impl.turns" = some 0 := by kernel_rfl
theorem gTabType : (Tryd.prog.globals[0]?).map (·.type) = some 214 := by kernel_rfl
theorem cellsI : Tryd.prog.cellsOf 2 = 1 := by kernel_rfl
theorem cellsR : Tryd.prog.cellsOf 213 = 2 := by kernel_rfl
theorem table {W : World} (h : laidMetH Tryd.prog Rows.fnSharedPointsRow.laid W) : Cel W 0 [.int .i64 1, .int .i64 1, .int .i64 (-1), .int .i64 1, .int .i64 1, .int .i64 (-1)] := by
  rw [MakeChecks.laidMetH_plain _ _ _ (by kernel_rfl)] at h
  obtain ⟨ps, ⟨g', t', cs, fuel, p, q, hg', ht', hvar, hd, _, _⟩, _⟩ := h
  obtain rfl := Option.some.inj (gTab.symm.trans hg')
  obtain rfl := Option.some.inj (gTabType.symm.trans ht')
  refine cel_of_cells (by simp) (fun i v hv => ?_)
  rw [World.var?_cell hg' hvar i]
  have hc := cells_of_rows (n := 3) (m := 2) (rows := [[1, 1], [-1, 1], [1, -1]]) Tryd.underlying214 Tryd.underlying213 Tryd.underlying2 cellsR cellsI hd
  match i, hv with
  | 0, hv => obtain rfl := Option.some.inj hv; simpa using hc 0 0 (by decide) (by decide) _ _ rfl rfl
  | 1, hv => obtain rfl := Option.some.inj hv; simpa using hc 0 1 (by decide) (by decide) _ _ rfl rfl
  | 2, hv => obtain rfl := Option.some.inj hv; simpa using hc 1 0 (by decide) (by decide) _ _ rfl rfl
  | 3, hv => obtain rfl := Option.some.inj hv; simpa using hc 1 1 (by decide) (by decide) _ _ rfl rfl
  | 4, hv => obtain rfl := Option.some.inj hv; simpa using hc 2 0 (by decide) (by decide) _ _ rfl rfl
  | 5, hv => obtain rfl := Option.some.inj hv; simpa using hc 2 1 (by decide) (by decide) _ _ rfl rfl
  | i + 6, hv => simp at hv
theorem gTab2 : Tryd.prog.globalNamed "loop.example/g00931/impl.directions" = some 4 := by kernel_rfl
theorem gTabType2 : (Tryd.prog.globals[4]?).map (·.type) = some 235 := by kernel_rfl
theorem table2 {W : World} (h : laidMetH Tryd.prog Rows.fnSharedPointsRow.laid W) : Cel W 4 [.int .i64 (-1), .int .i64 (-1), .int .i64 1, .int .i64 (-1), .int .i64 (-1), .int .i64 1, .int .i64 1, .int .i64 1] := by
  rw [MakeChecks.laidMetH_plain _ _ _ (by kernel_rfl)] at h
  obtain ⟨ps, ⟨_, _, _, _, _, _, _, _, _, _, ⟨g', t', cs, fuel, p, q, hg', ht', hvar, hd, _, _⟩, _⟩, _⟩ := h
  obtain rfl := Option.some.inj (gTab2.symm.trans hg')
  obtain rfl := Option.some.inj (gTabType2.symm.trans ht')
  refine cel_of_cells (by simp) (fun i v hv => ?_)
  rw [World.var?_cell hg' hvar i]
  have hc := cells_of_rows (n := 4) (m := 2) (rows := [[-1, -1], [1, -1], [-1, 1], [1, 1]]) Tryd.underlying235 Tryd.underlying213 Tryd.underlying2 cellsR cellsI hd
  match i, hv with
  | 0, hv => obtain rfl := Option.some.inj hv; simpa using hc 0 0 (by decide) (by decide) _ _ rfl rfl
  | 1, hv => obtain rfl := Option.some.inj hv; simpa using hc 0 1 (by decide) (by decide) _ _ rfl rfl
  | 2, hv => obtain rfl := Option.some.inj hv; simpa using hc 1 0 (by decide) (by decide) _ _ rfl rfl
  | 3, hv => obtain rfl := Option.some.inj hv; simpa using hc 1 1 (by decide) (by decide) _ _ rfl rfl
  | 4, hv => obtain rfl := Option.some.inj hv; simpa using hc 2 0 (by decide) (by decide) _ _ rfl rfl
  | 5, hv => obtain rfl := Option.some.inj hv; simpa using hc 2 1 (by decide) (by decide) _ _ rfl rfl
  | 6, hv => obtain rfl := Option.some.inj hv; simpa using hc 3 0 (by decide) (by decide) _ _ rfl rfl
  | 7, hv => obtain rfl := Option.some.inj hv; simpa using hc 3 1 (by decide) (by decide) _ _ rfl rfl
  | i + 8, hv => simp at hv
theorem tables {W : World} (h : laidMetH Tryd.prog Rows.fnSharedPointsRow.laid W) : Tabs W := Tabs.mk_ (table h) (table2 h)
set_option maxHeartbeats 16000000 in
set_option maxRecDepth 100000 in
theorem walk (w : World) (hT : Tabs w) (A0 : Option Addr) (n0 c0 : Nat) (zs0 : Nat → Int) (r0 : Row .u8 w A0 n0 c0 zs0) :
    Calls Tryd.prog 6 #[.slice A0 n0 c0] w fun e w' => e = .returned (.bool true) ∧ Below w.heap.size w w' := by
  have hm0 : n0 ≤ maxLen := Nat.le_trans r0.1 r0.2.1
  have rK_0 := Lib.hid r0
  have HT0 := Lib.hid hT
  have HFB := Lib.hid (f6big_any w A0 n0 c0 hm0)
  have HB0 := Lib.hid (Below.refl w.heap.size w)
  clear r0 hT
  cases hl : decide (4096 < (n0 : Int))
  · have hl2 : n0 ≤ 4096 := by have := of_decide_eq_false hl; omega
    go_enter Tryd.func6, Tryd.ntmps6
    go_wp2_with fail
    refine (HFB.out _ hl).mono ?_
    rintro e w' ⟨rfl, rfl⟩
    clear hl HFB
    go_wp2_with fail
    refine (draw_shared _ A0 n0 c0 zs0 rK_0.out (by omega)).mono ?_
    rintro e w1 ⟨W, H, A, n, c, g, a, b, rfl, -, -, hn113, O1, ha, hb, bC⟩
    have rK_1 := Lib.hid (rK_0.out.below bC (Nat.le_refl _))
    have HT1 := Lib.hid (HT0.out.below bC HT0.out.1)
    have HB1 := Lib.hid (HB0.out.trans (bC.mono HB0.out.size))
    have z1 := (bC).size
    clear HB0 HT0 rK_0
    clear bC
    have rP_1 := Lib.hid (O1.row)
    clear O1
    have hwa : (Lit.int .i64 a).wf = true := WalkArith.wf_i64 (by omega)
    have hwb : (Lit.int .i64 b).wf = true := WalkArith.wf_i64 (by omega)
    have bN := ((Below.refl w1.heap.size w1).alloc (Nat.le_refl _) (.cells #[.int .i64 W, .int .i64 H, .slice A n c] 35))
    have HNP : Hid (Cel (w1.alloc (.cells #[.int .i64 W, .int .i64 H, .slice A n c] 35)) (w1.heap.size) [.int .i64 W, .int .i64 H, .slice A n c]) := Lib.hid (by have h := (Cel.new w1 [.int .i64 W, .int .i64 H, .slice A n c] 35); simpa using h)
    have rK_2 := Lib.hid (rK_1.out.below bN (Nat.le_refl _))
    have rP_2 := Lib.hid (rP_1.out.below bN (Nat.le_refl _))
    have HT2 := Lib.hid (HT1.out.below bN HT1.out.1)
    have HB2 := Lib.hid (HB1.out.trans (bN.mono HB1.out.size))
    have z2 := (bN).size
    clear bN HB1 HT1 rK_1 rP_1
    have HCP_2 := HNP
    clear HNP
    have kP_z := HCP_2.out.1
    have kP_0 := HCP_2.out.2 0 _ rfl
    have kP_1 := HCP_2.out.2 1 _ rfl
    have kP_2 := HCP_2.out.2 2 _ rfl
    go_wp2_with fail
    clear kP_z kP_0 kP_1 kP_2
    generalize (w1.alloc (.cells #[.int .i64 W, .int .i64 H, .slice A n c] 35)) = w2 at *
    generalize w1.heap.size = bP at *
    refine (impl_sharedPoints _ W H A n c g a b hwa hwb rP_2.out HT2.out).mono ?_
    rintro e w3 ⟨AL, cL, rfl, RL, bC⟩
    have HCP_3 := Lib.hid (HCP_2.out.below bC HCP_2.out.1)
    have rK_3 := Lib.hid (rK_2.out.below bC (Nat.le_refl _))
    have rP_3 := Lib.hid (rP_2.out.below bC (Nat.le_refl _))
    have HT3 := Lib.hid (HT2.out.below bC HT2.out.1)
    have HB3 := Lib.hid (HB2.out.trans (bC.mono HB2.out.size))
    have z3 := (bC).size
    clear HB2 HT2 HCP_2 rK_2 rP_2
    clear bC
    have rL_3 := Lib.hid (rowS_one.1 RL.row)
    clear RL
    have kP_z := HCP_3.out.1
    have kP_0 := HCP_3.out.2 0 _ rfl
    have kP_1 := HCP_3.out.2 1 _ rfl
    have kP_2 := HCP_3.out.2 2 _ rfl
    go_wp2_with fail
    clear kP_z kP_0 kP_1 kP_2
    refine (spec_sharedPoints _ W H A n c g a b rP_3.out).mono ?_
    rintro e w4 ⟨AM, cM, rfl, RM, bC⟩
    have HCP_4 := Lib.hid (HCP_3.out.below bC HCP_3.out.1)
    have rK_4 := Lib.hid (rK_3.out.below bC (Nat.le_refl _))
    have rP_4 := Lib.hid (rP_3.out.below bC (Nat.le_refl _))
    have rL_4 := Lib.hid (rL_3.out.below bC (Nat.le_refl _))
    have HT4 := Lib.hid (HT3.out.below bC HT3.out.1)
    have HB4 := Lib.hid (HB3.out.trans (bC.mono HB3.out.size))
    have z4 := (bC).size
    clear HB3 HT3 HCP_3 rK_3 rP_3 rL_3
    clear bC
    have rM_4 := Lib.hid (rowS_one.1 RM.row)
    clear RM
    go_wp2_with fail
    refine (draw_curve _ A0 n0 c0 zs0 rK_4.out (by omega)).mono ?_
    rintro e w5 ⟨W2, H2, A2, n2, c2, g2, a2, rfl, -, -, hn2, O1, ha2, bC⟩
    have HCP_5 := Lib.hid (HCP_4.out.below bC HCP_4.out.1)
    have rK_5 := Lib.hid (rK_4.out.below bC (Nat.le_refl _))
    have rP_5 := Lib.hid (rP_4.out.below bC (Nat.le_refl _))
    have rL_5 := Lib.hid (rL_4.out.below bC (Nat.le_refl _))
    have rM_5 := Lib.hid (rM_4.out.below bC (Nat.le_refl _))
    have HT5 := Lib.hid (HT4.out.below bC HT4.out.1)
    have HB5 := Lib.hid (HB4.out.trans (bC.mono HB4.out.size))
    have z5 := (bC).size
    clear HB4 HT4 HCP_4 rK_4 rP_4 rL_4 rM_4
    clear bC
    have rQ_5 := Lib.hid (O1.row)
    clear O1
    have hwa2 : (Lit.int .i64 a2).wf = true := WalkArith.wf_i64 (by omega)
    have bN := ((Below.refl w5.heap.size w5).alloc (Nat.le_refl _) (.cells #[.int .i64 W2, .int .i64 H2, .slice A2 n2 c2] 35))
    have HNQ : Hid (Cel (w5.alloc (.cells #[.int .i64 W2, .int .i64 H2, .slice A2 n2 c2] 35)) (w5.heap.size) [.int .i64 W2, .int .i64 H2, .slice A2 n2 c2]) := Lib.hid (by have h := (Cel.new w5 [.int .i64 W2, .int .i64 H2, .slice A2 n2 c2] 35); simpa using h)
    have HCP_6 := Lib.hid (HCP_5.out.below bN HCP_5.out.1)
    have rK_6 := Lib.hid (rK_5.out.below bN (Nat.le_refl _))
    have rP_6 := Lib.hid (rP_5.out.below bN (Nat.le_refl _))
    have rL_6 := Lib.hid (rL_5.out.below bN (Nat.le_refl _))
    have rM_6 := Lib.hid (rM_5.out.below bN (Nat.le_refl _))
    have rQ_6 := Lib.hid (rQ_5.out.below bN (Nat.le_refl _))
    have HT6 := Lib.hid (HT5.out.below bN HT5.out.1)
    have HB6 := Lib.hid (HB5.out.trans (bN.mono HB5.out.size))
    have z6 := (bN).size
    clear bN HB5 HT5 HCP_5 rK_5 rP_5 rL_5 rM_5 rQ_5
    have HCQ_6 := HNQ
    clear HNQ
    have kQ_z := HCQ_6.out.1
    have kQ_0 := HCQ_6.out.2 0 _ rfl
    have kQ_1 := HCQ_6.out.2 1 _ rfl
    have kQ_2 := HCQ_6.out.2 2 _ rfl
    go_wp2_with fail
    clear kQ_z kQ_0 kQ_1 kQ_2
    generalize (w5.alloc (.cells #[.int .i64 W2, .int .i64 H2, .slice A2 n2 c2] 35)) = w6 at *
    generalize w5.heap.size = bQ at *
    refine (impl_curvePoints _ W2 H2 A2 n2 c2 g2 a2 hwa2 rQ_6.out HT6.out).mono ?_
    rintro e w7 ⟨AO, cO, rfl, RL, bC⟩
    have HCP_7 := Lib.hid (HCP_6.out.below bC HCP_6.out.1)
    have HCQ_7 := Lib.hid (HCQ_6.out.below bC HCQ_6.out.1)
    have rK_7 := Lib.hid (rK_6.out.below bC (Nat.le_refl _))
    have rP_7 := Lib.hid (rP_6.out.below bC (Nat.le_refl _))
    have rL_7 := Lib.hid (rL_6.out.below bC (Nat.le_refl _))
    have rM_7 := Lib.hid (rM_6.out.below bC (Nat.le_refl _))
    have rQ_7 := Lib.hid (rQ_6.out.below bC (Nat.le_refl _))
    have HT7 := Lib.hid (HT6.out.below bC HT6.out.1)
    have HB7 := Lib.hid (HB6.out.trans (bC.mono HB6.out.size))
    have z7 := (bC).size
    clear HB6 HT6 HCP_6 HCQ_6 rK_6 rP_6 rL_6 rM_6 rQ_6
    clear bC
    have rO_7 := Lib.hid (rowS_one.1 RL.row)
    clear RL
    have kQ_z := HCQ_7.out.1
    have kQ_0 := HCQ_7.out.2 0 _ rfl
    have kQ_1 := HCQ_7.out.2 1 _ rfl
    have kQ_2 := HCQ_7.out.2 2 _ rfl
    go_wp2_with fail
    clear kQ_z kQ_0 kQ_1 kQ_2
    refine (spec_curvePoints _ W2 H2 A2 n2 c2 g2 a2 rQ_7.out).mono ?_
    rintro e w8 ⟨AR, cR, rfl, RM, bC⟩
    have HCP_8 := Lib.hid (HCP_7.out.below bC HCP_7.out.1)
    have HCQ_8 := Lib.hid (HCQ_7.out.below bC HCQ_7.out.1)
    have rK_8 := Lib.hid (rK_7.out.below bC (Nat.le_refl _))
    have rP_8 := Lib.hid (rP_7.out.below bC (Nat.le_refl _))
    have rL_8 := Lib.hid (rL_7.out.below bC (Nat.le_refl _))
    have rM_8 := Lib.hid (rM_7.out.below bC (Nat.le_refl _))
    have rQ_8 := Lib.hid (rQ_7.out.below bC (Nat.le_refl _))
    have rO_8 := Lib.hid (rO_7.out.below bC (Nat.le_refl _))
    have HT8 := Lib.hid (HT7.out.below bC HT7.out.1)
    have HB8 := Lib.hid (HB7.out.trans (bC.mono HB7.out.size))
    have z8 := (bC).size
    clear HB7 HT7 HCP_7 HCQ_7 rK_7 rP_7 rL_7 rM_7 rQ_7 rO_7
    clear bC
    have rR_8 := Lib.hid (rowS_one.1 RM.row)
    clear RM
    go_wp2_with fail
    refine (draw_distance _ A0 n0 c0 zs0 rK_8.out (by omega)).mono ?_
    rintro e w9 ⟨W3, H3, W4, H4, A3, A4, n3, c3, n4, c4, g3, g4, rfl, O1, O2, hn3, hn4, bC⟩
    have HCP_9 := Lib.hid (HCP_8.out.below bC HCP_8.out.1)
    have HCQ_9 := Lib.hid (HCQ_8.out.below bC HCQ_8.out.1)
    have rK_9 := Lib.hid (rK_8.out.below bC (Nat.le_refl _))
    have rP_9 := Lib.hid (rP_8.out.below bC (Nat.le_refl _))
    have rL_9 := Lib.hid (rL_8.out.below bC (Nat.le_refl _))
    have rM_9 := Lib.hid (rM_8.out.below bC (Nat.le_refl _))
    have rQ_9 := Lib.hid (rQ_8.out.below bC (Nat.le_refl _))
    have rO_9 := Lib.hid (rO_8.out.below bC (Nat.le_refl _))
    have rR_9 := Lib.hid (rR_8.out.below bC (Nat.le_refl _))
    have HT9 := Lib.hid (HT8.out.below bC HT8.out.1)
    have HB9 := Lib.hid (HB8.out.trans (bC.mono HB8.out.size))
    have z9 := (bC).size
    clear HB8 HT8 HCP_8 HCQ_8 rK_8 rP_8 rL_8 rM_8 rQ_8 rO_8 rR_8
    clear bC
    have rX_9 := Lib.hid (O1.row)
    have rY_9 := Lib.hid (O2.row)
    clear O1 O2
    have bN := (((Below.refl w9.heap.size w9).alloc (Nat.le_refl _) (.cells #[.int .i64 W3, .int .i64 H3, .slice A3 n3 c3] 35)).alloc (by simp) (.cells #[.int .i64 W4, .int .i64 H4, .slice A4 n4 c4] 35))
    have HNX : Hid (Cel ((w9.alloc (.cells #[.int .i64 W3, .int .i64 H3, .slice A3 n3 c3] 35)).alloc (.cells #[.int .i64 W4, .int .i64 H4, .slice A4 n4 c4] 35)) (w9.heap.size) [.int .i64 W3, .int .i64 H3, .slice A3 n3 c3]) := Lib.hid (by have h := ((Cel.new w9 [.int .i64 W3, .int .i64 H3, .slice A3 n3 c3] 35).below ((Below.refl _ (w9.alloc (.cells #[.int .i64 W3, .int .i64 H3, .slice A3 n3 c3] 35))).alloc (Nat.le_refl _) (.cells #[.int .i64 W4, .int .i64 H4, .slice A4 n4 c4] 35)) (by simp)); simpa using h)
    have HNY : Hid (Cel ((w9.alloc (.cells #[.int .i64 W3, .int .i64 H3, .slice A3 n3 c3] 35)).alloc (.cells #[.int .i64 W4, .int .i64 H4, .slice A4 n4 c4] 35)) (w9.heap.size + 1) [.int .i64 W4, .int .i64 H4, .slice A4 n4 c4]) := Lib.hid (by have h := (Cel.new (w9.alloc (.cells #[.int .i64 W3, .int .i64 H3, .slice A3 n3 c3] 35)) [.int .i64 W4, .int .i64 H4, .slice A4 n4 c4] 35); simpa using h)
    have HCP_10 := Lib.hid (HCP_9.out.below bN HCP_9.out.1)
    have HCQ_10 := Lib.hid (HCQ_9.out.below bN HCQ_9.out.1)
    have rK_10 := Lib.hid (rK_9.out.below bN (Nat.le_refl _))
    have rP_10 := Lib.hid (rP_9.out.below bN (Nat.le_refl _))
    have rL_10 := Lib.hid (rL_9.out.below bN (Nat.le_refl _))
    have rM_10 := Lib.hid (rM_9.out.below bN (Nat.le_refl _))
    have rQ_10 := Lib.hid (rQ_9.out.below bN (Nat.le_refl _))
    have rO_10 := Lib.hid (rO_9.out.below bN (Nat.le_refl _))
    have rR_10 := Lib.hid (rR_9.out.below bN (Nat.le_refl _))
    have rX_10 := Lib.hid (rX_9.out.below bN (Nat.le_refl _))
    have rY_10 := Lib.hid (rY_9.out.below bN (Nat.le_refl _))
    have HT10 := Lib.hid (HT9.out.below bN HT9.out.1)
    have HB10 := Lib.hid (HB9.out.trans (bN.mono HB9.out.size))
    have z10 := (bN).size
    clear bN HB9 HT9 HCP_9 HCQ_9 rK_9 rP_9 rL_9 rM_9 rQ_9 rO_9 rR_9 rX_9 rY_9
    have HCX_10 := HNX
    clear HNX
    have HCY_10 := HNY
    clear HNY
    have kX_z := HCX_10.out.1
    have kX_0 := HCX_10.out.2 0 _ rfl
    have kX_1 := HCX_10.out.2 1 _ rfl
    have kX_2 := HCX_10.out.2 2 _ rfl
    have kY_z := HCY_10.out.1
    have kY_0 := HCY_10.out.2 0 _ rfl
    have kY_1 := HCY_10.out.2 1 _ rfl
    have kY_2 := HCY_10.out.2 2 _ rfl
    go_wp2_with fail
    clear kX_z kX_0 kX_1 kX_2
    clear kY_z kY_0 kY_1 kY_2
    generalize ((w9.alloc (.cells #[.int .i64 W3, .int .i64 H3, .slice A3 n3 c3] 35)).alloc (.cells #[.int .i64 W4, .int .i64 H4, .slice A4 n4 c4] 35)) = w10 at *
    generalize w9.heap.size = bX at *
    refine (impl_distance _ W3 H3 W4 H4 A3 A4 n3 c3 n4 c4 g3 g4 rX_10.out rY_10.out).mono ?_
    rintro e w11 ⟨rfl, bC⟩
    have HCP_11 := Lib.hid (HCP_10.out.below bC HCP_10.out.1)
    have HCQ_11 := Lib.hid (HCQ_10.out.below bC HCQ_10.out.1)
    have HCX_11 := Lib.hid (HCX_10.out.below bC HCX_10.out.1)
    have HCY_11 := Lib.hid (HCY_10.out.below bC HCY_10.out.1)
    have rK_11 := Lib.hid (rK_10.out.below bC (Nat.le_refl _))
    have rP_11 := Lib.hid (rP_10.out.below bC (Nat.le_refl _))
    have rL_11 := Lib.hid (rL_10.out.below bC (Nat.le_refl _))
    have rM_11 := Lib.hid (rM_10.out.below bC (Nat.le_refl _))
    have rQ_11 := Lib.hid (rQ_10.out.below bC (Nat.le_refl _))
    have rO_11 := Lib.hid (rO_10.out.below bC (Nat.le_refl _))
    have rR_11 := Lib.hid (rR_10.out.below bC (Nat.le_refl _))
    have rX_11 := Lib.hid (rX_10.out.below bC (Nat.le_refl _))
    have rY_11 := Lib.hid (rY_10.out.below bC (Nat.le_refl _))
    have HT11 := Lib.hid (HT10.out.below bC HT10.out.1)
    have HB11 := Lib.hid (HB10.out.trans (bC.mono HB10.out.size))
    have z11 := (bC).size
    clear HB10 HT10 HCP_10 HCQ_10 HCX_10 HCY_10 rK_10 rP_10 rL_10 rM_10 rQ_10 rO_10 rR_10 rX_10 rY_10
    clear bC
    have kX_z := HCX_11.out.1
    have kX_0 := HCX_11.out.2 0 _ rfl
    have kX_1 := HCX_11.out.2 1 _ rfl
    have kX_2 := HCX_11.out.2 2 _ rfl
    have kY_z := HCY_11.out.1
    have kY_0 := HCY_11.out.2 0 _ rfl
    have kY_1 := HCY_11.out.2 1 _ rfl
    have kY_2 := HCY_11.out.2 2 _ rfl
    go_wp2_with fail
    clear kX_z kX_0 kX_1 kX_2
    clear kY_z kY_0 kY_1 kY_2
    refine (spec_distance _ W3 H3 W4 H4 A3 A4 n3 c3 n4 c4 g3 g4 rX_11.out rY_11.out).mono ?_
    rintro e w12 ⟨rfl, bC⟩
    have HCP_12 := Lib.hid (HCP_11.out.below bC HCP_11.out.1)
    have HCQ_12 := Lib.hid (HCQ_11.out.below bC HCQ_11.out.1)
    have HCX_12 := Lib.hid (HCX_11.out.below bC HCX_11.out.1)
    have HCY_12 := Lib.hid (HCY_11.out.below bC HCY_11.out.1)
    have rK_12 := Lib.hid (rK_11.out.below bC (Nat.le_refl _))
    have rP_12 := Lib.hid (rP_11.out.below bC (Nat.le_refl _))
    have rL_12 := Lib.hid (rL_11.out.below bC (Nat.le_refl _))
    have rM_12 := Lib.hid (rM_11.out.below bC (Nat.le_refl _))
    have rQ_12 := Lib.hid (rQ_11.out.below bC (Nat.le_refl _))
    have rO_12 := Lib.hid (rO_11.out.below bC (Nat.le_refl _))
    have rR_12 := Lib.hid (rR_11.out.below bC (Nat.le_refl _))
    have rX_12 := Lib.hid (rX_11.out.below bC (Nat.le_refl _))
    have rY_12 := Lib.hid (rY_11.out.below bC (Nat.le_refl _))
    have HT12 := Lib.hid (HT11.out.below bC HT11.out.1)
    have HB12 := Lib.hid (HB11.out.trans (bC.mono HB11.out.size))
    have z12 := (bC).size
    clear HB11 HT11 HCP_11 HCQ_11 HCX_11 HCY_11 rK_11 rP_11 rL_11 rM_11 rQ_11 rO_11 rR_11 rX_11 rY_11
    clear bC
    obtain ⟨cc, hcc⟩ : ∃ cc, ccC W H n g a b = cc := ⟨_, rfl⟩
    obtain ⟨cu, hcu⟩ : ∃ cu, cuC W2 H2 n2 g2 a2 = cu := ⟨_, rfl⟩
    obtain ⟨dc, hdc⟩ : ∃ dc, dsC W3 H3 n3 g3 W4 H4 n4 g4 = dc := ⟨_, rfl⟩
    obtain ⟨dv, hdv⟩ : ∃ dv, dsV W3 H3 n3 g3 W4 H4 n4 g4 = dv := ⟨_, rfl⟩
    obtain ⟨sn, hsn⟩ : ∃ sn, spN W H n g a b = sn := ⟨_, rfl⟩
    obtain ⟨sf, hsf⟩ : ∃ sf, spF W H n g a b = sf := ⟨_, rfl⟩
    obtain ⟨un, hun⟩ : ∃ un, cpN W2 H2 n2 g2 a2 = un := ⟨_, rfl⟩
    obtain ⟨uf, huf⟩ : ∃ uf, spF W2 H2 n2 g2 a2 a2 = uf := ⟨_, rfl⟩
    rw [hcc, hcu, hdc, hdv, hsn, hun]
    rw [hsn, hsf] at rL_12 rM_12
    rw [hun, huf] at rO_12 rR_12
    have hfs := fs_same hdc hdv
    have hft := fs_tail hcc hsn hsf hn113 hwa hwb
    clear hcc hcu hdc hdv hsn hsf hun huf
    have i1 : (cc != cc) = false := by simp
    have i2 : (cu != cu) = false := by simp
    have i3 : (dc != dc) = false := by simp
    have i4 : (dv != dv) = false := by simp
    by_cases d0 : dc = 0
    · have hd0 : (dc == 0) = true := by simpa using d0
      by_cases e0 : cc = 0
      · have he0 : (cc != 0) = false := by simp [e0]
        obtain ⟨sb, hs1, hsm⟩ := hfs d0
        have HSM := Lib.hid hsm
        clear hsm
        clear hfs
        obtain ⟨L1, L2, hl1, hl2, HND, HWF, HL12, HCA, HCB⟩ := hft e0
        clear hft
        go_wp2_with fail
        refine (f6ints_same _ AL AM _ cL cM _ rL_12.out rM_12.out).mono ?_
        rintro e w13 ⟨rfl, bC⟩
        have HCP_13 := Lib.hid (HCP_12.out.below bC HCP_12.out.1)
        have HCQ_13 := Lib.hid (HCQ_12.out.below bC HCQ_12.out.1)
        have HCX_13 := Lib.hid (HCX_12.out.below bC HCX_12.out.1)
        have HCY_13 := Lib.hid (HCY_12.out.below bC HCY_12.out.1)
        have rK_13 := Lib.hid (rK_12.out.below bC (Nat.le_refl _))
        have rP_13 := Lib.hid (rP_12.out.below bC (Nat.le_refl _))
        have rL_13 := Lib.hid (rL_12.out.below bC (Nat.le_refl _))
        have rM_13 := Lib.hid (rM_12.out.below bC (Nat.le_refl _))
        have rQ_13 := Lib.hid (rQ_12.out.below bC (Nat.le_refl _))
        have rO_13 := Lib.hid (rO_12.out.below bC (Nat.le_refl _))
        have rR_13 := Lib.hid (rR_12.out.below bC (Nat.le_refl _))
        have rX_13 := Lib.hid (rX_12.out.below bC (Nat.le_refl _))
        have rY_13 := Lib.hid (rY_12.out.below bC (Nat.le_refl _))
        have HT13 := Lib.hid (HT12.out.below bC HT12.out.1)
        have HB13 := Lib.hid (HB12.out.trans (bC.mono HB12.out.size))
        have z13 := (bC).size
        clear HB12 HT12 HCP_12 HCQ_12 HCX_12 HCY_12 rK_12 rP_12 rL_12 rM_12 rQ_12 rO_12 rR_12 rX_12 rY_12
        clear bC
        go_wp2_with fail
        refine (f6ints_same _ AO AR _ cO cR _ rO_13.out rR_13.out).mono ?_
        rintro e w14 ⟨rfl, bC⟩
        have HCP_14 := Lib.hid (HCP_13.out.below bC HCP_13.out.1)
        have HCQ_14 := Lib.hid (HCQ_13.out.below bC HCQ_13.out.1)
        have HCX_14 := Lib.hid (HCX_13.out.below bC HCX_13.out.1)
        have HCY_14 := Lib.hid (HCY_13.out.below bC HCY_13.out.1)
        have rK_14 := Lib.hid (rK_13.out.below bC (Nat.le_refl _))
        have rP_14 := Lib.hid (rP_13.out.below bC (Nat.le_refl _))
        have rL_14 := Lib.hid (rL_13.out.below bC (Nat.le_refl _))
        have rM_14 := Lib.hid (rM_13.out.below bC (Nat.le_refl _))
        have rQ_14 := Lib.hid (rQ_13.out.below bC (Nat.le_refl _))
        have rO_14 := Lib.hid (rO_13.out.below bC (Nat.le_refl _))
        have rR_14 := Lib.hid (rR_13.out.below bC (Nat.le_refl _))
        have rX_14 := Lib.hid (rX_13.out.below bC (Nat.le_refl _))
        have rY_14 := Lib.hid (rY_13.out.below bC (Nat.le_refl _))
        have HT14 := Lib.hid (HT13.out.below bC HT13.out.1)
        have HB14 := Lib.hid (HB13.out.trans (bC.mono HB13.out.size))
        have z14 := (bC).size
        clear HB13 HT13 HCP_13 HCQ_13 HCX_13 HCY_13 rK_13 rP_13 rL_13 rM_13 rQ_13 rO_13 rR_13 rX_13 rY_13
        clear bC
        clear rM_14
        clear rO_14
        clear rR_14
        have kX_z := HCX_14.out.1
        have kX_0 := HCX_14.out.2 0 _ rfl
        have kX_1 := HCX_14.out.2 1 _ rfl
        have kX_2 := HCX_14.out.2 2 _ rfl
        have kY_z := HCY_14.out.1
        have kY_0 := HCY_14.out.2 0 _ rfl
        have kY_1 := HCY_14.out.2 1 _ rfl
        have kY_2 := HCY_14.out.2 2 _ rfl
        go_wp2_with fail
        clear kX_z kX_0 kX_1 kX_2
        clear kY_z kY_0 kY_1 kY_2
        refine (HSM.out _ A3 A4 c3 c4 rX_14.out rY_14.out).mono ?_
        rintro e w15 ⟨rfl, bC⟩
        have HCP_15 := Lib.hid (HCP_14.out.below bC HCP_14.out.1)
        have HCQ_15 := Lib.hid (HCQ_14.out.below bC HCQ_14.out.1)
        have HCX_15 := Lib.hid (HCX_14.out.below bC HCX_14.out.1)
        have HCY_15 := Lib.hid (HCY_14.out.below bC HCY_14.out.1)
        have rK_15 := Lib.hid (rK_14.out.below bC (Nat.le_refl _))
        have rP_15 := Lib.hid (rP_14.out.below bC (Nat.le_refl _))
        have rL_15 := Lib.hid (rL_14.out.below bC (Nat.le_refl _))
        have rQ_15 := Lib.hid (rQ_14.out.below bC (Nat.le_refl _))
        have rX_15 := Lib.hid (rX_14.out.below bC (Nat.le_refl _))
        have rY_15 := Lib.hid (rY_14.out.below bC (Nat.le_refl _))
        have HT15 := Lib.hid (HT14.out.below bC HT14.out.1)
        have HB15 := Lib.hid (HB14.out.trans (bC.mono HB14.out.size))
        have z15 := (bC).size
        clear HB14 HT14 HCP_14 HCQ_14 HCX_14 HCY_14 rK_14 rP_14 rL_14 rQ_14 rX_14 rY_14
        clear bC
        clear HSM
        have kP_z := HCP_15.out.1
        have kP_0 := HCP_15.out.2 0 _ rfl
        have kP_1 := HCP_15.out.2 1 _ rfl
        have kP_2 := HCP_15.out.2 2 _ rfl
        go_wp2_with fail
        clear kP_z kP_0 kP_1 kP_2
        refine (HCA.out _ A c rP_15.out HT15.out).mono ?_
        rintro e w16 ⟨A5, c5, rfl, RL, bC⟩
        have HCP_16 := Lib.hid (HCP_15.out.below bC HCP_15.out.1)
        have HCQ_16 := Lib.hid (HCQ_15.out.below bC HCQ_15.out.1)
        have HCX_16 := Lib.hid (HCX_15.out.below bC HCX_15.out.1)
        have HCY_16 := Lib.hid (HCY_15.out.below bC HCY_15.out.1)
        have rK_16 := Lib.hid (rK_15.out.below bC (Nat.le_refl _))
        have rP_16 := Lib.hid (rP_15.out.below bC (Nat.le_refl _))
        have rL_16 := Lib.hid (rL_15.out.below bC (Nat.le_refl _))
        have rQ_16 := Lib.hid (rQ_15.out.below bC (Nat.le_refl _))
        have rX_16 := Lib.hid (rX_15.out.below bC (Nat.le_refl _))
        have rY_16 := Lib.hid (rY_15.out.below bC (Nat.le_refl _))
        have HT16 := Lib.hid (HT15.out.below bC HT15.out.1)
        have HB16 := Lib.hid (HB15.out.trans (bC.mono HB15.out.size))
        have z16 := (bC).size
        clear HB15 HT15 HCP_15 HCQ_15 HCX_15 HCY_15 rK_15 rP_15 rL_15 rQ_15 rX_15 rY_15
        clear bC
        have rF_16 := Lib.hid (rowS_one.1 RL.row)
        clear RL
        have kP_z := HCP_16.out.1
        have kP_0 := HCP_16.out.2 0 _ rfl
        have kP_1 := HCP_16.out.2 1 _ rfl
        have kP_2 := HCP_16.out.2 2 _ rfl
        go_wp2_with fail
        clear kP_z kP_0 kP_1 kP_2
        refine (HCB.out _ A c rP_16.out HT16.out).mono ?_
        rintro e w17 ⟨A6, c6, rfl, RL, bC⟩
        have HCP_17 := Lib.hid (HCP_16.out.below bC HCP_16.out.1)
        have HCQ_17 := Lib.hid (HCQ_16.out.below bC HCQ_16.out.1)
        have HCX_17 := Lib.hid (HCX_16.out.below bC HCX_16.out.1)
        have HCY_17 := Lib.hid (HCY_16.out.below bC HCY_16.out.1)
        have rK_17 := Lib.hid (rK_16.out.below bC (Nat.le_refl _))
        have rP_17 := Lib.hid (rP_16.out.below bC (Nat.le_refl _))
        have rL_17 := Lib.hid (rL_16.out.below bC (Nat.le_refl _))
        have rQ_17 := Lib.hid (rQ_16.out.below bC (Nat.le_refl _))
        have rX_17 := Lib.hid (rX_16.out.below bC (Nat.le_refl _))
        have rY_17 := Lib.hid (rY_16.out.below bC (Nat.le_refl _))
        have rF_17 := Lib.hid (rF_16.out.below bC (Nat.le_refl _))
        have HT17 := Lib.hid (HT16.out.below bC HT16.out.1)
        have HB17 := Lib.hid (HB16.out.trans (bC.mono HB16.out.size))
        have z17 := (bC).size
        clear HB16 HT16 HCP_16 HCQ_16 HCX_16 HCY_16 rK_16 rP_16 rL_16 rQ_16 rX_16 rY_16 rF_16
        clear bC
        have rS_17 := Lib.hid (rowS_one.1 RL.row)
        clear RL HCA HCB
        have rF := rF_17
        have rS := rS_17
        have rLL := rL_17
        have HBB := HB17
        clear HB17 HT17 HCP_17 HCQ_17 HCX_17 HCY_17 rK_17 rP_17 rL_17 rQ_17 rX_17 rY_17 rF_17 rS_17
        have HO1 := Lib.hid (owns_empty w17 2)
        obtain ⟨i2, hi2, hz0, hz1, hz2⟩ := info_parts infoI64
        go_wp2
        go_loopw [26, 27] (fun u kv wr => ∃ i : Nat, i ≤ L1.length ∧ kv = .int .i64 (i : Int) ∧ Hid (wr.ownsRow w17.heap.size 2 1 u (cmO L1 L2 i).length (ivs (cmO L1 L2 i))) ∧ Hid (Below w17.heap.size w17 wr)) (fun _ kv _ => 200 - (intOf kv).toNat)
        case atStart => exact ⟨0, Nat.zero_le _, rfl, HO1, Lib.hid ((Below.refl _ _).alloc (Nat.le_refl _) _)⟩
        case round =>
          clear HO1
          obtain ⟨i, hi, rfl, HU, HB⟩ := hrel
          obtain ⟨Ao, co, rfl⟩ := owns_slice HU.out
          generalize hwo : wr = wo at *
          clear hwo wr
          by_cases hlt : i < L1.length
          · have HU0 : Hid (wo.ownsRow w17.heap.size 2 1 (.slice Ao (cmO L1 L2 i).length co) (cmI L1 L2 i 0).length (ivs (cmI L1 L2 i 0))) := Lib.hid (by rw [cmI_zero]; exact HU.out)
            go_wp2
            go_loopw [26, 28] (fun u kv wr => ∃ k : Nat, k ≤ L2.length ∧ kv = .int .i64 (k : Int) ∧ Hid (wr.ownsRow w17.heap.size 2 1 u (cmI L1 L2 i k).length (ivs (cmI L1 L2 i k))) ∧ Hid (Below w17.heap.size w17 wr)) (fun _ kv _ => 200 - (intOf kv).toNat)
            case atStart => exact ⟨0, Nat.zero_le _, rfl, HU0, HB⟩
            case round =>
              clear HU0 HU HB
              obtain ⟨k, hk, rfl, HU, HB⟩ := hrel
              obtain ⟨Ap, cp, rfl⟩ := owns_slice HU.out
              have hBz := HB.out.size
              by_cases hkt : k < L2.length
              · obtain ⟨q1, o1, e1, hq1, hc1⟩ := (rF.out.below HB.out (Nat.le_refl _)).2.2.2 (by omega)
                obtain ⟨q2, o2, e2, hq2, hc2⟩ := (rS.out.below HB.out (Nat.le_refl _)).2.2.2 (by omega)
                subst e1 e2
                have x1 := hc1 i hlt
                have x2 := hc2 k hkt
                have n1 := rF.out.1
                have n2 := rF.out.2.1
                have n3 := rS.out.1
                have n4 := rS.out.2.1
                unfold maxLen at n2 n4
                obtain ⟨z1, hz1e⟩ : ∃ z, L1.getD i 0 = z := ⟨_, rfl⟩
                obtain ⟨z2, hz2e⟩ : ∃ z, L2.getD k 0 = z := ⟨_, rfl⟩
                have HWZ := Lib.hid (HWF.out i)
                simp only [hz1e] at x1 HWZ
                simp only [hz2e] at x2
                clear hc1 hc2
                by_cases hzz : z1 = z2
                · have HYS := Lib.hid (cmI_hit HND.out hkt (hz1e.trans (hzz.trans hz2e.symm)))
                  rw [hz1e] at HYS
                  subst hzz
                  have hbz : (z1 == z1) = true := by simp
                  clear hz1e hz2e
                  have hln := cmI_len L1 L2 i k
                  obtain ⟨ln, hlne⟩ : ∃ ln, (cmI L1 L2 i k).length = ln := ⟨_, rfl⟩
                  rw [hlne] at HU hln ⊢
                  have HLN := Lib.hid hlne
                  clear hlne
                  go_wp2
                  go_quiet (fail)
                  generalize hwg : World.drewN _ _ = wx
                  have bX : Below wr.heap.size wr wx := by rw [← hwg]; exact below_drewN (Below.refl _ _) _
                  clear hwg
                  have x1 := (bX.cell (p := ⟨q1, o1 + i, none⟩) hq1).trans x1
                  have hq1 := Nat.lt_of_lt_of_le hq1 bX.size
                  have hXz := bX.size
                  have HUX := Lib.hid (owns_belowS HU.out bX)
                  have HBX := Lib.hid (HB.out.trans (bX.mono hBz))
                  have hXa := Lib.hid ((Below.refl wx.heap.size wx).alloc (Nat.le_refl _) (.cells #[.int .i64 z1] 2))
                  clear bX x2 hq2
                  go_wp2_with (first
                    | (at_builtin; refine wpList_append_lies _ (by rfl) _ _ _ (by rfl) w17.heap.size 2 i2 _ 1 8 Tryd.underlying29 hi2 hz0 hz1 hz2 rfl (by omega) _ ln (ivs (cmI L1 L2 i k)) (by rfl) (owns_belowS HUX.out hXa.out) ⟨wx.heap.size, 0, none⟩ 1 1 [.int .i64 z1] (by rfl) (by rfl) (World.news_of_block (cs := #[.int .i64 z1]) (t := 2) (fr := (0, 0)) (heap_alloc_new wx _)) (fun u hu => by simp at hu; subst hu; rfl) (by omega) (by unfold maxLen; omega) (by omega) (by simp; omega) (wx.heap.size + 1) (by simp) ?_; intro g6 cap6 w6 hown6 hgrow6 hat6 hlt6; have HOW := Lib.hid hown6; have HGR := Lib.hid hgrow6; clear hown6 hgrow6 hat6))
                  go_roundw
                  case rel =>
                    refine ⟨k + 1, by omega, by go_num, Lib.hid ?_, Lib.hid ((HBX.out.trans (hXa.out.mono (by omega))).grown HGR.out (by simp; omega) (fun b e => (HU.out.lt b e).1))⟩
                    have e : ivs (cmI L1 L2 i (k + 1)) = ivs (cmI L1 L2 i k) ++ [.int .i64 z1] := by rw [HYS.out]; unfold ivs; simp
                    have e2 : (cmI L1 L2 i (k + 1)).length = ln + 1 := by rw [HYS.out, List.length_append, HLN.out]; rfl
                    rw [e, e2]
                    exact HOW.out
                  case measure => simp [intOf]; omega
                · have HYS := Lib.hid (cmI_miss (L1 := L1) (i := i) hkt (by rw [hz1e, hz2e]; exact hzz))
                  have hbz : (z1 == z2) = false := by simpa using hzz
                  clear hz1e hz2e hzz
                  go_wp2
                  go_quiet (fail)
                  go_wp2
                  go_roundw
                  case rel => exact ⟨k + 1, by omega, by go_num, Lib.hid (by rw [HYS.out]; exact owns_belowS HU.out (below_drewN (Below.refl _ _) _)), Lib.hid (HB.out.trans ((below_drewN (Below.refl _ _) _).mono hBz))⟩
                  case measure => simp [intOf]; omega
              · obtain rfl : k = L2.length := by omega
                have HUe := Lib.hid (cmI_end (L2 := L2) hlt)
                rw [HUe.out] at HU ⊢
                go_wp2
                go_roundw
                case rel => exact ⟨i + 1, by omega, by go_num, HU, HB⟩
                case measure => simp [intOf]; omega
          · obtain rfl : i = L1.length := by omega
            have rN := Lib.hid (fs_row HL12.out HU.out)
            have rLw := Lib.hid (rLL.out.below HB.out (Nat.le_refl _))
            have HLn := HL12.out.1
            rw [HLn] at HU ⊢
            clear HLn
            go_wp2_with fail
            refine (f6ints_same _ Ao AL _ co cL _ rN.out rLw.out).mono ?_
            rintro e w9 ⟨rfl, bC⟩
            go_wp2
            go_ret
            exact ⟨rfl, HBB.out.trans ((HB.out.trans (bC.mono HB.out.size)).mono HBB.out.size)⟩
      · have he0 : (cc != 0) = true := by simpa using e0
        obtain ⟨sb, hs1, hsm⟩ := hfs d0
        have HSM := Lib.hid hsm
        clear hsm
        clear hfs
        clear hft
        go_wp2_with fail
        refine (f6ints_same _ AL AM _ cL cM _ rL_12.out rM_12.out).mono ?_
        rintro e w18 ⟨rfl, bC⟩
        have HCP_18 := Lib.hid (HCP_12.out.below bC HCP_12.out.1)
        have HCQ_18 := Lib.hid (HCQ_12.out.below bC HCQ_12.out.1)
        have HCX_18 := Lib.hid (HCX_12.out.below bC HCX_12.out.1)
        have HCY_18 := Lib.hid (HCY_12.out.below bC HCY_12.out.1)
        have rK_18 := Lib.hid (rK_12.out.below bC (Nat.le_refl _))
        have rP_18 := Lib.hid (rP_12.out.below bC (Nat.le_refl _))
        have rL_18 := Lib.hid (rL_12.out.below bC (Nat.le_refl _))
        have rM_18 := Lib.hid (rM_12.out.below bC (Nat.le_refl _))
        have rQ_18 := Lib.hid (rQ_12.out.below bC (Nat.le_refl _))
        have rO_18 := Lib.hid (rO_12.out.below bC (Nat.le_refl _))
        have rR_18 := Lib.hid (rR_12.out.below bC (Nat.le_refl _))
        have rX_18 := Lib.hid (rX_12.out.below bC (Nat.le_refl _))
        have rY_18 := Lib.hid (rY_12.out.below bC (Nat.le_refl _))
        have HT18 := Lib.hid (HT12.out.below bC HT12.out.1)
        have HB18 := Lib.hid (HB12.out.trans (bC.mono HB12.out.size))
        have z18 := (bC).size
        clear HB12 HT12 HCP_12 HCQ_12 HCX_12 HCY_12 rK_12 rP_12 rL_12 rM_12 rQ_12 rO_12 rR_12 rX_12 rY_12
        clear bC
        go_wp2_with fail
        refine (f6ints_same _ AO AR _ cO cR _ rO_18.out rR_18.out).mono ?_
        rintro e w19 ⟨rfl, bC⟩
        have HCP_19 := Lib.hid (HCP_18.out.below bC HCP_18.out.1)
        have HCQ_19 := Lib.hid (HCQ_18.out.below bC HCQ_18.out.1)
        have HCX_19 := Lib.hid (HCX_18.out.below bC HCX_18.out.1)
        have HCY_19 := Lib.hid (HCY_18.out.below bC HCY_18.out.1)
        have rK_19 := Lib.hid (rK_18.out.below bC (Nat.le_refl _))
        have rP_19 := Lib.hid (rP_18.out.below bC (Nat.le_refl _))
        have rL_19 := Lib.hid (rL_18.out.below bC (Nat.le_refl _))
        have rM_19 := Lib.hid (rM_18.out.below bC (Nat.le_refl _))
        have rQ_19 := Lib.hid (rQ_18.out.below bC (Nat.le_refl _))
        have rO_19 := Lib.hid (rO_18.out.below bC (Nat.le_refl _))
        have rR_19 := Lib.hid (rR_18.out.below bC (Nat.le_refl _))
        have rX_19 := Lib.hid (rX_18.out.below bC (Nat.le_refl _))
        have rY_19 := Lib.hid (rY_18.out.below bC (Nat.le_refl _))
        have HT19 := Lib.hid (HT18.out.below bC HT18.out.1)
        have HB19 := Lib.hid (HB18.out.trans (bC.mono HB18.out.size))
        have z19 := (bC).size
        clear HB18 HT18 HCP_18 HCQ_18 HCX_18 HCY_18 rK_18 rP_18 rL_18 rM_18 rQ_18 rO_18 rR_18 rX_18 rY_18
        clear bC
        clear rM_19
        clear rO_19
        clear rR_19
        have kX_z := HCX_19.out.1
        have kX_0 := HCX_19.out.2 0 _ rfl
        have kX_1 := HCX_19.out.2 1 _ rfl
        have kX_2 := HCX_19.out.2 2 _ rfl
        have kY_z := HCY_19.out.1
        have kY_0 := HCY_19.out.2 0 _ rfl
        have kY_1 := HCY_19.out.2 1 _ rfl
        have kY_2 := HCY_19.out.2 2 _ rfl
        go_wp2_with fail
        clear kX_z kX_0 kX_1 kX_2
        clear kY_z kY_0 kY_1 kY_2
        refine (HSM.out _ A3 A4 c3 c4 rX_19.out rY_19.out).mono ?_
        rintro e w20 ⟨rfl, bC⟩
        have HCP_20 := Lib.hid (HCP_19.out.below bC HCP_19.out.1)
        have HCQ_20 := Lib.hid (HCQ_19.out.below bC HCQ_19.out.1)
        have HCX_20 := Lib.hid (HCX_19.out.below bC HCX_19.out.1)
        have HCY_20 := Lib.hid (HCY_19.out.below bC HCY_19.out.1)
        have rK_20 := Lib.hid (rK_19.out.below bC (Nat.le_refl _))
        have rP_20 := Lib.hid (rP_19.out.below bC (Nat.le_refl _))
        have rL_20 := Lib.hid (rL_19.out.below bC (Nat.le_refl _))
        have rQ_20 := Lib.hid (rQ_19.out.below bC (Nat.le_refl _))
        have rX_20 := Lib.hid (rX_19.out.below bC (Nat.le_refl _))
        have rY_20 := Lib.hid (rY_19.out.below bC (Nat.le_refl _))
        have HT20 := Lib.hid (HT19.out.below bC HT19.out.1)
        have HB20 := Lib.hid (HB19.out.trans (bC.mono HB19.out.size))
        have z20 := (bC).size
        clear HB19 HT19 HCP_19 HCQ_19 HCX_19 HCY_19 rK_19 rP_19 rL_19 rQ_19 rX_19 rY_19
        clear bC
        clear HSM
        go_wp2
        go_ret
        exact ⟨rfl, HB20.out⟩
    · have hd0 : (dc == 0) = false := by simpa using d0
      by_cases e0 : cc = 0
      · have he0 : (cc != 0) = false := by simp [e0]
        clear hfs
        obtain ⟨L1, L2, hl1, hl2, HND, HWF, HL12, HCA, HCB⟩ := hft e0
        clear hft
        go_wp2_with fail
        refine (f6ints_same _ AL AM _ cL cM _ rL_12.out rM_12.out).mono ?_
        rintro e w21 ⟨rfl, bC⟩
        have HCP_21 := Lib.hid (HCP_12.out.below bC HCP_12.out.1)
        have HCQ_21 := Lib.hid (HCQ_12.out.below bC HCQ_12.out.1)
        have HCX_21 := Lib.hid (HCX_12.out.below bC HCX_12.out.1)
        have HCY_21 := Lib.hid (HCY_12.out.below bC HCY_12.out.1)
        have rK_21 := Lib.hid (rK_12.out.below bC (Nat.le_refl _))
        have rP_21 := Lib.hid (rP_12.out.below bC (Nat.le_refl _))
        have rL_21 := Lib.hid (rL_12.out.below bC (Nat.le_refl _))
        have rM_21 := Lib.hid (rM_12.out.below bC (Nat.le_refl _))
        have rQ_21 := Lib.hid (rQ_12.out.below bC (Nat.le_refl _))
        have rO_21 := Lib.hid (rO_12.out.below bC (Nat.le_refl _))
        have rR_21 := Lib.hid (rR_12.out.below bC (Nat.le_refl _))
        have rX_21 := Lib.hid (rX_12.out.below bC (Nat.le_refl _))
        have rY_21 := Lib.hid (rY_12.out.below bC (Nat.le_refl _))
        have HT21 := Lib.hid (HT12.out.below bC HT12.out.1)
        have HB21 := Lib.hid (HB12.out.trans (bC.mono HB12.out.size))
        have z21 := (bC).size
        clear HB12 HT12 HCP_12 HCQ_12 HCX_12 HCY_12 rK_12 rP_12 rL_12 rM_12 rQ_12 rO_12 rR_12 rX_12 rY_12
        clear bC
        go_wp2_with fail
        refine (f6ints_same _ AO AR _ cO cR _ rO_21.out rR_21.out).mono ?_
        rintro e w22 ⟨rfl, bC⟩
        have HCP_22 := Lib.hid (HCP_21.out.below bC HCP_21.out.1)
        have HCQ_22 := Lib.hid (HCQ_21.out.below bC HCQ_21.out.1)
        have HCX_22 := Lib.hid (HCX_21.out.below bC HCX_21.out.1)
        have HCY_22 := Lib.hid (HCY_21.out.below bC HCY_21.out.1)
        have rK_22 := Lib.hid (rK_21.out.below bC (Nat.le_refl _))
        have rP_22 := Lib.hid (rP_21.out.below bC (Nat.le_refl _))
        have rL_22 := Lib.hid (rL_21.out.below bC (Nat.le_refl _))
        have rM_22 := Lib.hid (rM_21.out.below bC (Nat.le_refl _))
        have rQ_22 := Lib.hid (rQ_21.out.below bC (Nat.le_refl _))
        have rO_22 := Lib.hid (rO_21.out.below bC (Nat.le_refl _))
        have rR_22 := Lib.hid (rR_21.out.below bC (Nat.le_refl _))
        have rX_22 := Lib.hid (rX_21.out.below bC (Nat.le_refl _))
        have rY_22 := Lib.hid (rY_21.out.below bC (Nat.le_refl _))
        have HT22 := Lib.hid (HT21.out.below bC HT21.out.1)
        have HB22 := Lib.hid (HB21.out.trans (bC.mono HB21.out.size))
        have z22 := (bC).size
        clear HB21 HT21 HCP_21 HCQ_21 HCX_21 HCY_21 rK_21 rP_21 rL_21 rM_21 rQ_21 rO_21 rR_21 rX_21 rY_21
        clear bC
        clear rM_22
        clear rO_22
        clear rR_22
        have kP_z := HCP_22.out.1
        have kP_0 := HCP_22.out.2 0 _ rfl
        have kP_1 := HCP_22.out.2 1 _ rfl
        have kP_2 := HCP_22.out.2 2 _ rfl
        go_wp2_with fail
        clear kP_z kP_0 kP_1 kP_2
        refine (HCA.out _ A c rP_22.out HT22.out).mono ?_
        rintro e w23 ⟨A5, c5, rfl, RL, bC⟩
        have HCP_23 := Lib.hid (HCP_22.out.below bC HCP_22.out.1)
        have HCQ_23 := Lib.hid (HCQ_22.out.below bC HCQ_22.out.1)
        have HCX_23 := Lib.hid (HCX_22.out.below bC HCX_22.out.1)
        have HCY_23 := Lib.hid (HCY_22.out.below bC HCY_22.out.1)
        have rK_23 := Lib.hid (rK_22.out.below bC (Nat.le_refl _))
        have rP_23 := Lib.hid (rP_22.out.below bC (Nat.le_refl _))
        have rL_23 := Lib.hid (rL_22.out.below bC (Nat.le_refl _))
        have rQ_23 := Lib.hid (rQ_22.out.below bC (Nat.le_refl _))
        have rX_23 := Lib.hid (rX_22.out.below bC (Nat.le_refl _))
        have rY_23 := Lib.hid (rY_22.out.below bC (Nat.le_refl _))
        have HT23 := Lib.hid (HT22.out.below bC HT22.out.1)
        have HB23 := Lib.hid (HB22.out.trans (bC.mono HB22.out.size))
        have z23 := (bC).size
        clear HB22 HT22 HCP_22 HCQ_22 HCX_22 HCY_22 rK_22 rP_22 rL_22 rQ_22 rX_22 rY_22
        clear bC
        have rF_23 := Lib.hid (rowS_one.1 RL.row)
        clear RL
        have kP_z := HCP_23.out.1
        have kP_0 := HCP_23.out.2 0 _ rfl
        have kP_1 := HCP_23.out.2 1 _ rfl
        have kP_2 := HCP_23.out.2 2 _ rfl
        go_wp2_with fail
        clear kP_z kP_0 kP_1 kP_2
        refine (HCB.out _ A c rP_23.out HT23.out).mono ?_
        rintro e w24 ⟨A6, c6, rfl, RL, bC⟩
        have HCP_24 := Lib.hid (HCP_23.out.below bC HCP_23.out.1)
        have HCQ_24 := Lib.hid (HCQ_23.out.below bC HCQ_23.out.1)
        have HCX_24 := Lib.hid (HCX_23.out.below bC HCX_23.out.1)
        have HCY_24 := Lib.hid (HCY_23.out.below bC HCY_23.out.1)
        have rK_24 := Lib.hid (rK_23.out.below bC (Nat.le_refl _))
        have rP_24 := Lib.hid (rP_23.out.below bC (Nat.le_refl _))
        have rL_24 := Lib.hid (rL_23.out.below bC (Nat.le_refl _))
        have rQ_24 := Lib.hid (rQ_23.out.below bC (Nat.le_refl _))
        have rX_24 := Lib.hid (rX_23.out.below bC (Nat.le_refl _))
        have rY_24 := Lib.hid (rY_23.out.below bC (Nat.le_refl _))
        have rF_24 := Lib.hid (rF_23.out.below bC (Nat.le_refl _))
        have HT24 := Lib.hid (HT23.out.below bC HT23.out.1)
        have HB24 := Lib.hid (HB23.out.trans (bC.mono HB23.out.size))
        have z24 := (bC).size
        clear HB23 HT23 HCP_23 HCQ_23 HCX_23 HCY_23 rK_23 rP_23 rL_23 rQ_23 rX_23 rY_23 rF_23
        clear bC
        have rS_24 := Lib.hid (rowS_one.1 RL.row)
        clear RL HCA HCB
        have rF := rF_24
        have rS := rS_24
        have rLL := rL_24
        have HBB := HB24
        clear HB24 HT24 HCP_24 HCQ_24 HCX_24 HCY_24 rK_24 rP_24 rL_24 rQ_24 rX_24 rY_24 rF_24 rS_24
        have HO1 := Lib.hid (owns_empty w24 2)
        obtain ⟨i2, hi2, hz0, hz1, hz2⟩ := info_parts infoI64
        go_wp2
        go_loopw [26, 27] (fun u kv wr => ∃ i : Nat, i ≤ L1.length ∧ kv = .int .i64 (i : Int) ∧ Hid (wr.ownsRow w24.heap.size 2 1 u (cmO L1 L2 i).length (ivs (cmO L1 L2 i))) ∧ Hid (Below w24.heap.size w24 wr)) (fun _ kv _ => 200 - (intOf kv).toNat)
        case atStart => exact ⟨0, Nat.zero_le _, rfl, HO1, Lib.hid ((Below.refl _ _).alloc (Nat.le_refl _) _)⟩
        case round =>
          clear HO1
          obtain ⟨i, hi, rfl, HU, HB⟩ := hrel
          obtain ⟨Ao, co, rfl⟩ := owns_slice HU.out
          generalize hwo : wr = wo at *
          clear hwo wr
          by_cases hlt : i < L1.length
          · have HU0 : Hid (wo.ownsRow w24.heap.size 2 1 (.slice Ao (cmO L1 L2 i).length co) (cmI L1 L2 i 0).length (ivs (cmI L1 L2 i 0))) := Lib.hid (by rw [cmI_zero]; exact HU.out)
            go_wp2
            go_loopw [26, 28] (fun u kv wr => ∃ k : Nat, k ≤ L2.length ∧ kv = .int .i64 (k : Int) ∧ Hid (wr.ownsRow w24.heap.size 2 1 u (cmI L1 L2 i k).length (ivs (cmI L1 L2 i k))) ∧ Hid (Below w24.heap.size w24 wr)) (fun _ kv _ => 200 - (intOf kv).toNat)
            case atStart => exact ⟨0, Nat.zero_le _, rfl, HU0, HB⟩
            case round =>
              clear HU0 HU HB
              obtain ⟨k, hk, rfl, HU, HB⟩ := hrel
              obtain ⟨Ap, cp, rfl⟩ := owns_slice HU.out
              have hBz := HB.out.size
              by_cases hkt : k < L2.length
              · obtain ⟨q1, o1, e1, hq1, hc1⟩ := (rF.out.below HB.out (Nat.le_refl _)).2.2.2 (by omega)
                obtain ⟨q2, o2, e2, hq2, hc2⟩ := (rS.out.below HB.out (Nat.le_refl _)).2.2.2 (by omega)
                subst e1 e2
                have x1 := hc1 i hlt
                have x2 := hc2 k hkt
                have n1 := rF.out.1
                have n2 := rF.out.2.1
                have n3 := rS.out.1
                have n4 := rS.out.2.1
                unfold maxLen at n2 n4
                obtain ⟨z1, hz1e⟩ : ∃ z, L1.getD i 0 = z := ⟨_, rfl⟩
                obtain ⟨z2, hz2e⟩ : ∃ z, L2.getD k 0 = z := ⟨_, rfl⟩
                have HWZ := Lib.hid (HWF.out i)
                simp only [hz1e] at x1 HWZ
                simp only [hz2e] at x2
                clear hc1 hc2
                by_cases hzz : z1 = z2
                · have HYS := Lib.hid (cmI_hit HND.out hkt (hz1e.trans (hzz.trans hz2e.symm)))
                  rw [hz1e] at HYS
                  subst hzz
                  have hbz : (z1 == z1) = true := by simp
                  clear hz1e hz2e
                  have hln := cmI_len L1 L2 i k
                  obtain ⟨ln, hlne⟩ : ∃ ln, (cmI L1 L2 i k).length = ln := ⟨_, rfl⟩
                  rw [hlne] at HU hln ⊢
                  have HLN := Lib.hid hlne
                  clear hlne
                  go_wp2
                  go_quiet (fail)
                  generalize hwg : World.drewN _ _ = wx
                  have bX : Below wr.heap.size wr wx := by rw [← hwg]; exact below_drewN (Below.refl _ _) _
                  clear hwg
                  have x1 := (bX.cell (p := ⟨q1, o1 + i, none⟩) hq1).trans x1
                  have hq1 := Nat.lt_of_lt_of_le hq1 bX.size
                  have hXz := bX.size
                  have HUX := Lib.hid (owns_belowS HU.out bX)
                  have HBX := Lib.hid (HB.out.trans (bX.mono hBz))
                  have hXa := Lib.hid ((Below.refl wx.heap.size wx).alloc (Nat.le_refl _) (.cells #[.int .i64 z1] 2))
                  clear bX x2 hq2
                  go_wp2_with (first
                    | (at_builtin; refine wpList_append_lies _ (by rfl) _ _ _ (by rfl) w24.heap.size 2 i2 _ 1 8 Tryd.underlying29 hi2 hz0 hz1 hz2 rfl (by omega) _ ln (ivs (cmI L1 L2 i k)) (by rfl) (owns_belowS HUX.out hXa.out) ⟨wx.heap.size, 0, none⟩ 1 1 [.int .i64 z1] (by rfl) (by rfl) (World.news_of_block (cs := #[.int .i64 z1]) (t := 2) (fr := (0, 0)) (heap_alloc_new wx _)) (fun u hu => by simp at hu; subst hu; rfl) (by omega) (by unfold maxLen; omega) (by omega) (by simp; omega) (wx.heap.size + 1) (by simp) ?_; intro g6 cap6 w6 hown6 hgrow6 hat6 hlt6; have HOW := Lib.hid hown6; have HGR := Lib.hid hgrow6; clear hown6 hgrow6 hat6))
                  go_roundw
                  case rel =>
                    refine ⟨k + 1, by omega, by go_num, Lib.hid ?_, Lib.hid ((HBX.out.trans (hXa.out.mono (by omega))).grown HGR.out (by simp; omega) (fun b e => (HU.out.lt b e).1))⟩
                    have e : ivs (cmI L1 L2 i (k + 1)) = ivs (cmI L1 L2 i k) ++ [.int .i64 z1] := by rw [HYS.out]; unfold ivs; simp
                    have e2 : (cmI L1 L2 i (k + 1)).length = ln + 1 := by rw [HYS.out, List.length_append, HLN.out]; rfl
                    rw [e, e2]
                    exact HOW.out
                  case measure => simp [intOf]; omega
                · have HYS := Lib.hid (cmI_miss (L1 := L1) (i := i) hkt (by rw [hz1e, hz2e]; exact hzz))
                  have hbz : (z1 == z2) = false := by simpa using hzz
                  clear hz1e hz2e hzz
                  go_wp2
                  go_quiet (fail)
                  go_wp2
                  go_roundw
                  case rel => exact ⟨k + 1, by omega, by go_num, Lib.hid (by rw [HYS.out]; exact owns_belowS HU.out (below_drewN (Below.refl _ _) _)), Lib.hid (HB.out.trans ((below_drewN (Below.refl _ _) _).mono hBz))⟩
                  case measure => simp [intOf]; omega
              · obtain rfl : k = L2.length := by omega
                have HUe := Lib.hid (cmI_end (L2 := L2) hlt)
                rw [HUe.out] at HU ⊢
                go_wp2
                go_roundw
                case rel => exact ⟨i + 1, by omega, by go_num, HU, HB⟩
                case measure => simp [intOf]; omega
          · obtain rfl : i = L1.length := by omega
            have rN := Lib.hid (fs_row HL12.out HU.out)
            have rLw := Lib.hid (rLL.out.below HB.out (Nat.le_refl _))
            have HLn := HL12.out.1
            rw [HLn] at HU ⊢
            clear HLn
            go_wp2_with fail
            refine (f6ints_same _ Ao AL _ co cL _ rN.out rLw.out).mono ?_
            rintro e w9 ⟨rfl, bC⟩
            go_wp2
            go_ret
            exact ⟨rfl, HBB.out.trans ((HB.out.trans (bC.mono HB.out.size)).mono HBB.out.size)⟩
      · have he0 : (cc != 0) = true := by simpa using e0
        clear hfs
        clear hft
        go_wp2_with fail
        refine (f6ints_same _ AL AM _ cL cM _ rL_12.out rM_12.out).mono ?_
        rintro e w25 ⟨rfl, bC⟩
        have HCP_25 := Lib.hid (HCP_12.out.below bC HCP_12.out.1)
        have HCQ_25 := Lib.hid (HCQ_12.out.below bC HCQ_12.out.1)
        have HCX_25 := Lib.hid (HCX_12.out.below bC HCX_12.out.1)
        have HCY_25 := Lib.hid (HCY_12.out.below bC HCY_12.out.1)
        have rK_25 := Lib.hid (rK_12.out.below bC (Nat.le_refl _))
        have rP_25 := Lib.hid (rP_12.out.below bC (Nat.le_refl _))
        have rL_25 := Lib.hid (rL_12.out.below bC (Nat.le_refl _))
        have rM_25 := Lib.hid (rM_12.out.below bC (Nat.le_refl _))
        have rQ_25 := Lib.hid (rQ_12.out.below bC (Nat.le_refl _))
        have rO_25 := Lib.hid (rO_12.out.below bC (Nat.le_refl _))
        have rR_25 := Lib.hid (rR_12.out.below bC (Nat.le_refl _))
        have rX_25 := Lib.hid (rX_12.out.below bC (Nat.le_refl _))
        have rY_25 := Lib.hid (rY_12.out.below bC (Nat.le_refl _))
        have HT25 := Lib.hid (HT12.out.below bC HT12.out.1)
        have HB25 := Lib.hid (HB12.out.trans (bC.mono HB12.out.size))
        have z25 := (bC).size
        clear HB12 HT12 HCP_12 HCQ_12 HCX_12 HCY_12 rK_12 rP_12 rL_12 rM_12 rQ_12 rO_12 rR_12 rX_12 rY_12
        clear bC
        go_wp2_with fail
        refine (f6ints_same _ AO AR _ cO cR _ rO_25.out rR_25.out).mono ?_
        rintro e w26 ⟨rfl, bC⟩
        have HCP_26 := Lib.hid (HCP_25.out.below bC HCP_25.out.1)
        have HCQ_26 := Lib.hid (HCQ_25.out.below bC HCQ_25.out.1)
        have HCX_26 := Lib.hid (HCX_25.out.below bC HCX_25.out.1)
        have HCY_26 := Lib.hid (HCY_25.out.below bC HCY_25.out.1)
        have rK_26 := Lib.hid (rK_25.out.below bC (Nat.le_refl _))
        have rP_26 := Lib.hid (rP_25.out.below bC (Nat.le_refl _))
        have rL_26 := Lib.hid (rL_25.out.below bC (Nat.le_refl _))
        have rM_26 := Lib.hid (rM_25.out.below bC (Nat.le_refl _))
        have rQ_26 := Lib.hid (rQ_25.out.below bC (Nat.le_refl _))
        have rO_26 := Lib.hid (rO_25.out.below bC (Nat.le_refl _))
        have rR_26 := Lib.hid (rR_25.out.below bC (Nat.le_refl _))
        have rX_26 := Lib.hid (rX_25.out.below bC (Nat.le_refl _))
        have rY_26 := Lib.hid (rY_25.out.below bC (Nat.le_refl _))
        have HT26 := Lib.hid (HT25.out.below bC HT25.out.1)
        have HB26 := Lib.hid (HB25.out.trans (bC.mono HB25.out.size))
        have z26 := (bC).size
        clear HB25 HT25 HCP_25 HCQ_25 HCX_25 HCY_25 rK_25 rP_25 rL_25 rM_25 rQ_25 rO_25 rR_25 rX_25 rY_25
        clear bC
        clear rM_26
        clear rO_26
        clear rR_26
        go_wp2
        go_ret
        exact ⟨rfl, HB26.out⟩
  · go_enter Tryd.func6, Tryd.ntmps6
    go_wp2_with fail
    refine (HFB.out _ hl).mono ?_
    rintro e w' ⟨rfl, rfl⟩
    go_wp2
    go_ret
    exact ⟨rfl, HB0.out⟩

set_option maxRecDepth 100000 in
theorem contract (H : Type) (enc : TypeId × Value → H) (W : World) (base : Nat) (args : Array Value) (ds gs : List (DataW H)) (before : List MemPlace)
    (hval0 : ∀ (j : Nat) t v, Tryd.f6.params[j]? = some t → args[j]? = some v → Value.okWide Tryd.prog W .any base t v)
    (hW : DataW.Whole enc Tryd.prog Tryd.f6.params.toList Rows.fnSharedPointsSpec.vars false W args.toList ds gs before) (hL : laidMetH Tryd.prog Rows.fnSharedPointsRow.laid W) :
    Calls Tryd.prog 6 args W fun e W' => ∃ v, e = .returned v ∧ Rows.fnSharedPointsSpec.post enc Tryd.prog Tryd.f6 false true false false W args v W' := by
  have hval : ∀ (j : Nat) t v, Tryd.f6.params[j]? = some t → args[j]? = some v → Value.okWide Tryd.prog W .any base t v := hval0
  have hW' := hW
  obtain ⟨p, q, hA0, hV, rfl, hfz, hnd⟩ := hW
  have hA : DataW.TrodAll enc Tryd.prog W 0 (fun _ => true) true Tryd.f6.params.toList args.toList ds p := hA0
  rw [Tryd.params6] at hA hval
  obtain ⟨v0, vs0, d0, ds0, p0, q0, hargs, rfl, rfl, h0, tl0⟩ := trodAll_cons hA
  obtain ⟨rfl, rfl, rfl⟩ := trodAll_nil tl0
  obtain rfl : args = #[v0] := by cases args; simp_all
  have k0 := h0
  have lt0 : ∀ x ∈ p0, x.block < W.heap.size := by obtain ⟨m, hm⟩ := k0; exact DataW.trod_lt m _ _ _ hm
  obtain ⟨A0, n0, c0, rfl⟩ := okWide_slice Tryd.underlying43 (hval 0 43 v0 rfl rfl)
  obtain ⟨zs0, r0⟩ : ∃ zs, Row .u8 W A0 n0 c0 zs := by
    obtain ⟨fuel, hf⟩ := h0
    obtain ⟨A', n', c', zs, e2, r⟩ := row_of Tryd.underlying43 Tryd.underlying5 (by kernel_rfl) hf (fun x hx => lt0 x hx)
    simp [Value.cells] at e2
    obtain ⟨rfl, rfl, rfl⟩ := e2
    exact ⟨zs, r⟩
  clear hA0 hval0
  refine (walk W (tables hL) A0 n0 c0 zs0 r0).mono fun e W' ⟨he, bel⟩ => ?_
  subst he
  match gs, hV with
  | [g1, g2], hV =>
    exact ⟨_, rfl, _, _, _, [], _, q, hW', trodAll_mk1 (shut_bool Tryd.underlying4 _), (trodAll_cons_mk (Below.trod laidOut (by kernel_rfl) (of_decide_eq_true (by kernel_rfl)) k0 bel lt0) trodAll_mk0), Below.trodVars laidOut bel (by kernel_rfl) hV, bel.frame _, fun h => by cases h⟩

/-- A WORLD FOR THE WITNESS: the settled one, the table holding what its initialiser lays. -/
noncomputable def laidWorld (os : Os) : World :=
  { World.holding Tryd.prog os ⟨#[], #[], []⟩ with heap := (((World.holding Tryd.prog os ⟨#[], #[], []⟩).heap.modify 0 (fun x => match x with | .cells _ t frozen => .cells #[.int .i64 1, .int .i64 1, .int .i64 (-1), .int .i64 1, .int .i64 1, .int .i64 (-1)] t frozen | o => o)).modify 4 (fun x => match x with | .cells _ t frozen => .cells #[.int .i64 (-1), .int .i64 (-1), .int .i64 1, .int .i64 (-1), .int .i64 (-1), .int .i64 1, .int .i64 1, .int .i64 1] t frozen | o => o)) }
theorem laid_met (os : Os) : laidMet Tryd.prog Rows.fnSharedPointsRow.laid ((laidWorld os).forCall (fun _ _ => 0) ⟨#[], #[.slice none 0 0], []⟩).memory :=
  laidMet_of_run' 8 (by kernel_rfl) (by kernel_rfl)
theorem reads (os : Os) {H : Type} (enc : TypeId × Value → H) : ∃ gs places, DataW.whole enc Tryd.prog ((laidWorld os).forCall (fun _ _ => 0) ⟨#[], #[.slice none 0 0], []⟩).memory Tryd.f6.params.toList Rows.fnSharedPointsSpec.vars false (#[.slice none 0 0] : Array Value).toList 8 = some ([.nil], gs, places) :=
  ⟨[Rows.laid_loop_example_g00931_impl_turns, Rows.laid_loop_example_g00931_impl_directions], [.cell 0 0, .cell 0 1, .cell 0 2, .cell 0 3, .cell 0 4, .cell 0 5, .cell 4 0, .cell 4 1, .cell 4 2, .cell 4 3, .cell 4 4, .cell 4 5, .cell 4 6, .cell 4 7], by kernel_rfl⟩

set_option maxRecDepth 100000 in
theorem lifted (os : Os) (started : os.Started) (H : Type) (enc : TypeId × Value → H) (F : Stop.Interp) :
    ReturnsInHanded {} Tryd.checked os 6 .any ((OpenSpec.ofChange Rows.fnSharedPointsSpec).preRow enc Tryd.prog Tryd.f6 Rows.fnSharedPointsRow.domain false Rows.fnSharedPointsRow.laid) (((OpenSpec.ofChange Rows.fnSharedPointsSpec).at F).post enc Tryd.prog Tryd.f6 false true false false) := by
  obtain ⟨gs, places, hx⟩ := reads os enc
  refine returnsInHanded_of_row (C := Tryd.checked) (s := OpenSpec.ofChange Rows.fnSharedPointsSpec) own started (by kernel_rfl) Tryd.func6
    (witness_row_at (enc := enc) (C := Tryd.checked) false (laidWorld os) #[.slice none 0 0] rfl (by kernel_rfl) (by kernel_rfl) (by kernel_rfl)
      (OpenSpec.preRow_of_cond 8 hx (by kernel_rfl) (fun k hk => by cases hk) (by kernel_rfl) (laid_met os))) ?_
  intro W base args ds gs before hval hW _ _ _ hL _ _
  exact contract H enc W base args ds gs before hval hW hL

theorem said : Rows.FnSharedPointsSaid :=
  OpenClaim.holds_of_cond 6 Tryd.f6 rfl rfl rfl rfl rfl rfl rfl ⟨rfl, rfl, rfl, rfl, rfl⟩ rfl rfl rfl rfl rfl (by kernel_rfl) Tryd.func6 (by kernel_rfl)
    (of_decide_eq_true (by kernel_rfl)) (by unfold Func.isWrapper; first | (rw [if_pos (by decide +kernel)]; kernel_rfl) | (rw [if_neg (by decide +kernel)]; exact ⟨rfl, rfl⟩))
    (fun os started H enc _ F => by rw [OpenClaim.pre_eq_preRow]; exact lifted os started H enc F)


theorem plain (f : FuncId) (fn : Func) (hf : Tryd.pinned.checked.prog.funcNamed "loop.example/g00931/laws.FnSharedPoints" = some f) (hfn : Tryd.pinned.checked.prog.funcs[f]? = some fn) :
    true = Tryd.pinned.checked.prog.looks [] ∧ ∀ (j : Nat) t, fn.params[j]? = some t → Tryd.pinned.checked.prog.wantsStandIn t = false := by
  obtain rfl : f = 6 := Option.some.inj ((show Tryd.prog.funcNamed "loop.example/g00931/laws.FnSharedPoints" = some 6 by kernel_rfl).symm.trans hf) |>.symm
  obtain rfl : fn = Tryd.f6 := (Option.some.inj (Tryd.func6.symm.trans hfn)).symm
  refine ⟨by kernel_rfl, fun j t ht => ?_⟩
  rw [Tryd.params6] at ht
  match j, ht with
  | 0, ht =>
    have e : t = 43 := by simpa using ht.symm
    subst e
    exact (show Tryd.prog.wantsStandIn 43 = false by kernel_rfl)
  | j + 1, ht => simp at ht

theorem card : Rows.FnSharedPointsCardSaid :=
  Claim7.holds_tied_plain_at .later [] _ _ _ _ said (fun _ h => by cases h) (by kernel_rfl) (fun _ h => by cases h) fnSharedPoints_row_tie rfl ⟨rfl, rfl⟩ (by kernel_rfl) rfl plain (by kernel_rfl)
#print axioms card
end Go.Proofs.YtbpdjmjkjiddjaaDoor.fnSharedPoints
