/- Proved: whatever panel (of at most 2^20 breaks; for larger ones the law answers true at once) (and whatever other arguments) StepWalker of the program is called with, it answers as the model and changes nothing; the table of turns starts as the program's text lays it (the card ties it). -/
import Derived.Test.YtajikegfladelaaDoorCards
import Derived.Test.YtajikegfladelaaDoorTie
import Derived.Test.YtajikegfladelaaDoorBase
import Derived.Test.YtajikegfladelaaDoorPan
import Derived.Test.YtajikegfladelaaDoorShape
import Derived.Test.YtajikegfladelaaDoorWlkC
import Derived.Test.YtajikegfladelaaDoorNum
import Derived.Test.YtajikegfladelaaDoorWlk
import Derived.Test.YtajikegfladelaaDoorStp
import Derived.Test.YtajikegfladelaaDoorTrn
import Derived.Test.YtajikegfladelaaDoorTab
import Derived.WalkKit
import Derived.ProofKit
import Derived.OpenShut
import Derived.ShutString
import Derived.OpenVars
import Derived.Handy
import Derived.Carry
import Derived.Deep.DeepHandedRow
import Derived.Lib.LaidTab
import Derived.Lib.SmallJoins
namespace Go.Proofs.YtajikegfladelaaDoor.fnExactStepWalker
open Go.ChangeShapes Go.WideShapes Go.ChangeAt Go.RowKit Go.Joins
open Go.ChangeMaps (open_string shut_string)
open Go.Proofs.YtajikegfladelaaDoor.Base
set_option linter.unusedVariables false
theorem own : ownKnob Tryd.prog.godebug = none := by kernel_rfl
theorem laidOut : laidOutB Tryd.prog = true := by kernel_rfl
theorem gTab : Tryd.prog.globalNamed "loop.example/g00931/impl.turns" = some 0 := by kernel_rfl
theorem gTabType : (Tryd.prog.globals[0]?).map (·.type) = some 153 := by kernel_rfl
theorem cellsI : Tryd.prog.cellsOf 2 = 1 := by kernel_rfl
theorem cellsR : Tryd.prog.cellsOf 152 = 2 := by kernel_rfl
theorem table {W : World} (h : laidMetH Tryd.prog Rows.fnExactStepWalkerRow.laid W) : Cel W 0 [.int .i64 1, .int .i64 1, .int .i64 (-1), .int .i64 1, .int .i64 1, .int .i64 (-1)] := by
  rw [MakeChecks.laidMetH_plain _ _ _ (by kernel_rfl)] at h
  obtain ⟨ps, ⟨g', t', cs, fuel, p, q, hg', ht', hvar, hd, _, _⟩, _⟩ := h
  obtain rfl := Option.some.inj (gTab.symm.trans hg')
  obtain rfl := Option.some.inj (gTabType.symm.trans ht')
  refine cel_of_cells (by simp) (fun i v hv => ?_)
  rw [World.var?_cell hg' hvar i]
  have hc := cells_of_rows (n := 3) (m := 2) (rows := [[1, 1], [-1, 1], [1, -1]]) Tryd.underlying153 Tryd.underlying152 Tryd.underlying2 cellsR cellsI hd
  match i, hv with
  | 0, hv => obtain rfl := Option.some.inj hv; simpa using hc 0 0 (by decide) (by decide) _ _ rfl rfl
  | 1, hv => obtain rfl := Option.some.inj hv; simpa using hc 0 1 (by decide) (by decide) _ _ rfl rfl
  | 2, hv => obtain rfl := Option.some.inj hv; simpa using hc 1 0 (by decide) (by decide) _ _ rfl rfl
  | 3, hv => obtain rfl := Option.some.inj hv; simpa using hc 1 1 (by decide) (by decide) _ _ rfl rfl
  | 4, hv => obtain rfl := Option.some.inj hv; simpa using hc 2 0 (by decide) (by decide) _ _ rfl rfl
  | 5, hv => obtain rfl := Option.some.inj hv; simpa using hc 2 1 (by decide) (by decide) _ _ rfl rfl
  | i + 6, hv => simp at hv
theorem walk (w : World) (hT : Cel w 0 [.int .i64 1, .int .i64 1, .int .i64 (-1), .int .i64 1, .int .i64 1, .int .i64 (-1)]) (W0 H0 : Int) (A0 : Option Addr) (n0 c0 : Nat) (zs0 : Nat → Int) (wW0 : (Lit.int .i64 W0).wf = true) (wH0 : (Lit.int .i64 H0).wf = true) (r0 : Row .i64 w A0 n0 c0 zs0) (x1 y1 dx1 dy1 : Int) (wx1 : (Lit.int .i64 x1).wf = true) (wy1 : (Lit.int .i64 y1).wf = true) (wdx1 : (Lit.int .i64 dx1).wf = true) (wdy1 : (Lit.int .i64 dy1).wf = true) :
    Calls Tryd.prog 3 #[.agg #[.int .i64 W0, .int .i64 H0, .slice A0 n0 c0], .agg #[.int .i64 x1, .int .i64 y1, .int .i64 dx1, .int .i64 dy1]] w fun e w' => e = .returned (.bool true) ∧ Below w.heap.size w w' := by
  have hnm : n0 ≤ 9223372036854775807 := by have := r0.1; have := r0.2.1; unfold maxLen at this; omega
  by_cases hs : (n0 : Int) ≤ 1048576
  · have HR := Lib.hid r0
    clear r0
    have hn20 : n0 ≤ 1048576 := by omega
    have hn63 : n0 ≤ maxLen := by unfold maxLen; omega
    have HW := Lib.hid HR.out.2.2.1
    go_enter Tryd.func3, Tryd.ntmps3
    go_wp2_with fail
    refine (sz_yes _ W0 H0 A0 n0 c0 1048576 (by omega) (by omega) hs).mono ?_
    rintro e w1 ⟨rfl, b1⟩
    have HB1 := Lib.hid (Below.trans (show Below w.heap.size w ((w.alloc (.cells #[.int .i64 W0, .int .i64 H0, .slice A0 n0 c0] 24)).alloc (.cells #[.int .i64 x1, .int .i64 y1, .int .i64 dx1, .int .i64 dy1] 28)) from (((Below.refl w.heap.size w).alloc (by simp) _).alloc (by simp) _)) (b1.mono (by first | (simp; done) | (simp; omega))))
    have HX1 : Hid (Cel w1 (w.heap.size) [.int .i64 W0, .int .i64 H0, .slice A0 n0 c0]) := Lib.hid (by have h := (((Cel.new w [.int .i64 W0, .int .i64 H0, .slice A0 n0 c0] 24).below ((Below.refl _ (w.alloc (.cells #[.int .i64 W0, .int .i64 H0, .slice A0 n0 c0] 24))).alloc (Nat.le_refl _) (.cells #[.int .i64 x1, .int .i64 y1, .int .i64 dx1, .int .i64 dy1] 28)) (by simp)).below b1 (by first | (simp; done) | (simp; omega))); simpa using h)
    have HD11 : Hid (Cel w1 (w.heap.size + 1) [.int .i64 x1, .int .i64 y1, .int .i64 dx1, .int .i64 dy1]) := Lib.hid (by have h := ((Cel.new (w.alloc (.cells #[.int .i64 W0, .int .i64 H0, .slice A0 n0 c0] 24)) [.int .i64 x1, .int .i64 y1, .int .i64 dx1, .int .i64 dy1] 28).below b1 (by first | (simp; done) | (simp; omega))); simpa using h)
    have HA1 := Lib.hid (HR.out.below HB1.out (Nat.le_refl _))
    have HT1 := Lib.hid (hT.below HB1.out hT.1)
    clear b1 HR
    have kX_z := HX1.out.1
    have kX_0 := HX1.out.2 0 _ rfl
    have kX_1 := HX1.out.2 1 _ rfl
    have kX_2 := HX1.out.2 2 _ rfl
    have kD1_z := HD11.out.1
    have kD1_0 := HD11.out.2 0 _ rfl
    have kD1_1 := HD11.out.2 1 _ rfl
    have kD1_2 := HD11.out.2 2 _ rfl
    have kD1_3 := HD11.out.2 3 _ rfl
    go_wp2_with fail
    refine wp_region_stab [some 17, some 18, some 19, some 20, some 21, some 16, some 22, some 23, some 6, none, some 7] [17, 18, 19, 20, 21, 16, 22, 23, 6, 7] [] [(9, 8)]
      [(fun a lo hi v w' => v = .agg #[.int .i64 W0, .int .i64 H0, .slice A0 n0 c0]),
        (fun a lo hi v w' => ∃ A c, v = .agg #[.int .i64 W0, .int .i64 H0, .slice A n0 c] ∧ OwnIn w' lo hi A n0 c zs0),
        (fun a lo hi v w' => v = .agg #[.int .i64 x1, .int .i64 y1, .int .i64 dx1, .int .i64 dy1]),
        (fun a lo hi v w' => v = .agg #[.int .i64 x1, .int .i64 y1, .int .i64 dx1, .int .i64 dy1]),
        (fun a lo hi v w' => v = .tuple #[.agg #[.int .i64 (bkV W0 H0 n0 zs0 x1 y1 dx1 dy1 (x1 + dx1)), .int .i64 (bkV W0 H0 n0 zs0 x1 y1 dx1 dy1 (y1 + dy1)), .int .i64 (bkV W0 H0 n0 zs0 x1 y1 dx1 dy1 (stDX W0 H0 zs0 x1 y1 dx1 dy1)), .int .i64 (bkV W0 H0 n0 zs0 x1 y1 dx1 dy1 (stDY W0 H0 zs0 x1 y1 dx1 dy1))], .int .i64 (wkC W0 H0 n0 zs0 x1 y1 dx1 dy1)]),
        (fun a lo hi v w' => v = .tuple #[.agg #[.int .i64 (bkV W0 H0 n0 zs0 x1 y1 dx1 dy1 (x1 + dx1)), .int .i64 (bkV W0 H0 n0 zs0 x1 y1 dx1 dy1 (y1 + dy1)), .int .i64 (bkV W0 H0 n0 zs0 x1 y1 dx1 dy1 (stDX W0 H0 zs0 x1 y1 dx1 dy1)), .int .i64 (bkV W0 H0 n0 zs0 x1 y1 dx1 dy1 (stDY W0 H0 zs0 x1 y1 dx1 dy1))], .int .i64 (wkC W0 H0 n0 zs0 x1 y1 dx1 dy1)]),
        (fun a lo hi v w' => v = .agg #[.int .i64 (bkV W0 H0 n0 zs0 x1 y1 dx1 dy1 (x1 + dx1)), .int .i64 (bkV W0 H0 n0 zs0 x1 y1 dx1 dy1 (y1 + dy1)), .int .i64 (bkV W0 H0 n0 zs0 x1 y1 dx1 dy1 (stDX W0 H0 zs0 x1 y1 dx1 dy1)), .int .i64 (bkV W0 H0 n0 zs0 x1 y1 dx1 dy1 (stDY W0 H0 zs0 x1 y1 dx1 dy1))]),
        (fun a lo hi v w' => v = .int .i64 (wkC W0 H0 n0 zs0 x1 y1 dx1 dy1)),
        (fun a lo hi v w' => v = .pointer (some ⟨lo, 0, none⟩) ∧ hi = lo + 1 ∧ At w' lo #[.int .i64 0, .int .i64 0, .int .i64 0, .int .i64 0] 32),
        (fun a lo hi v w' => a.getD 0 undef = .pointer (some ⟨lo, 0, none⟩) ∧ lo < hi ∧ At w' lo #[.int .i64 (bkV W0 H0 n0 zs0 x1 y1 dx1 dy1 (x1 + dx1)), .int .i64 (bkV W0 H0 n0 zs0 x1 y1 dx1 dy1 (y1 + dy1)), .int .i64 (bkV W0 H0 n0 zs0 x1 y1 dx1 dy1 (stDX W0 H0 zs0 x1 y1 dx1 dy1)), .int .i64 (bkV W0 H0 n0 zs0 x1 y1 dx1 dy1 (stDY W0 H0 zs0 x1 y1 dx1 dy1))] 32),
        (fun a lo hi v w' => v = .int .i64 (wkC W0 H0 n0 zs0 x1 y1 dx1 dy1))]
      [[], [0], [], [2], [1, 3], [4], [5], [5], [], [8, 6], [7]] [[], [], [], [], [], [], [], [], [], [6], []] (by kernel_rfl) (by kernel_rfl) (fun k hk => absurd hk List.not_mem_nil) ?gS ?gO ?gR
    case gS => exact ⟨fun _ _ _ _ _ _ h _ => h, fun _ _ _ _ _ _ ⟨A, c, h1, h2⟩ e => ⟨A, c, h1, h2.same e⟩, fun _ _ _ _ _ _ h _ => h, fun _ _ _ _ _ _ h _ => h, fun _ _ _ _ _ _ h _ => h, fun _ _ _ _ _ _ h _ => h, fun _ _ _ _ _ _ h _ => h, fun _ _ _ _ _ _ h _ => h, fun _ _ _ _ _ _ ⟨h1, h2, h3⟩ e => ⟨h1, h2, h3.same e (.inr ⟨Nat.le_refl _, by omega⟩)⟩, fun _ _ _ _ _ _ ⟨h1, h2, h3⟩ e => ⟨h1, h2, h3.same e (.inr ⟨Nat.le_refl _, h2⟩)⟩, fun _ _ _ _ _ _ h _ => h, trivial⟩
    case gO =>
      refine ⟨?o0, ?o1, ?o2, ?o3, ?o4, ?o5, ?o6, ?o7, ?o8, ?o9, ?o10, trivial⟩
      case o0 =>
        intro vs iv wk hx hf
        have ezz : w.heap.size < wk.heap.size := Nat.lt_of_lt_of_le kX_z hx.size
        have e0 : wk.cell? ⟨w.heap.size, 0, none⟩ = some (.int .i64 W0) := hx.cell kX_0 (by simp)
        have e1 : wk.cell? ⟨w.heap.size, 1, none⟩ = some (.int .i64 H0) := hx.cell kX_1 (by simp)
        have e2 : wk.cell? ⟨w.heap.size, 2, none⟩ = some (.slice A0 n0 c0) := hx.cell kX_2 (by simp)
        intro K' hK
        simp only [setA, setT, List.setIfInBounds_toArray, List.set_cons_zero, List.set_cons_succ]
        go_simp
        refine hK.out _ (.agg #[.int .i64 W0, .int .i64 H0, .slice A0 n0 c0]) _ ?_ ?_
        · simp only [setA, setT, List.setIfInBounds_toArray, List.set_cons_zero, List.set_cons_succ, Act.put]
        · exact ⟨Ext.refl _ _, rfl⟩
      case o1 =>
        intro vs iv wk hx hf
        obtain ⟨⟨hq0, -⟩, -⟩ := hf
        have hq0 : vs 17 = .agg #[.int .i64 W0, .int .i64 H0, .slice A0 n0 c0] := hq0
        intro K' hK
        simp only [setA, setT, List.setIfInBounds_toArray, List.set_cons_zero, List.set_cons_succ]
        go_simp
        refine (toPanel_own _ W0 H0 A0 n0 c0 zs0 ?_ hn20).mono ?_
        · exact HA1.out.ext0 ((Ext.drew _).trans hx)
        rintro e w2 ⟨A, c, rfl, hO, b2⟩
        dsimp only
        refine hK.out _ (.agg #[.int .i64 W0, .int .i64 H0, .slice A n0 c]) _ ?_ ?_
        · simp only [setA, setT, List.setIfInBounds_toArray, List.set_cons_zero, List.set_cons_succ, Act.put, hq0]
        · exact ⟨Ext.of_below b2, A, c, rfl, OwnIn.of_own hO (Nat.le_refl _)⟩
      case o2 =>
        intro vs iv wk hx hf
        have ezz : w.heap.size + 1 < wk.heap.size := Nat.lt_of_lt_of_le kD1_z hx.size
        have e0 : wk.cell? ⟨w.heap.size + 1, 0, none⟩ = some (.int .i64 x1) := hx.cell kD1_0 (by simp)
        have e1 : wk.cell? ⟨w.heap.size + 1, 1, none⟩ = some (.int .i64 y1) := hx.cell kD1_1 (by simp)
        have e2 : wk.cell? ⟨w.heap.size + 1, 2, none⟩ = some (.int .i64 dx1) := hx.cell kD1_2 (by simp)
        have e3 : wk.cell? ⟨w.heap.size + 1, 3, none⟩ = some (.int .i64 dy1) := hx.cell kD1_3 (by simp)
        intro K' hK
        simp only [setA, setT, List.setIfInBounds_toArray, List.set_cons_zero, List.set_cons_succ]
        go_simp
        refine hK.out _ (.agg #[.int .i64 x1, .int .i64 y1, .int .i64 dx1, .int .i64 dy1]) _ ?_ ?_
        · simp only [setA, setT, List.setIfInBounds_toArray, List.set_cons_zero, List.set_cons_succ, Act.put]
        · exact ⟨Ext.refl _ _, rfl⟩
      case o3 =>
        intro vs iv wk hx hf
        obtain ⟨⟨hq2, -⟩, -⟩ := hf
        have hq2 : vs 19 = .agg #[.int .i64 x1, .int .i64 y1, .int .i64 dx1, .int .i64 dy1] := hq2
        intro K' hK
        simp only [setA, setT, List.setIfInBounds_toArray, List.set_cons_zero, List.set_cons_succ]
        go_simp
        refine (toWalker_any _ x1 y1 dx1 dy1).mono ?_
        rintro e w2 ⟨rfl, b2⟩
        dsimp only
        refine hK.out _ (.agg #[.int .i64 x1, .int .i64 y1, .int .i64 dx1, .int .i64 dy1]) _ ?_ ?_
        · simp only [setA, setT, List.setIfInBounds_toArray, List.set_cons_zero, List.set_cons_succ, Act.put, hq2]
        · exact ⟨Ext.of_below b2, rfl⟩
      case o4 =>
        intro vs iv wk hx hf
        obtain ⟨⟨⟨Aq1, cq1, hq1, hOq1⟩, -⟩, ⟨hq3, -⟩, -⟩ := hf
        have hq1 : vs 18 = .agg #[.int .i64 W0, .int .i64 H0, .slice Aq1 n0 cq1] := hq1
        have hq3 : vs 20 = .agg #[.int .i64 x1, .int .i64 y1, .int .i64 dx1, .int .i64 dy1] := hq3
        intro K' hK
        simp only [setA, setT, List.setIfInBounds_toArray, List.set_cons_zero, List.set_cons_succ]
        go_simp
        refine (spec_stepWalker _ W0 H0 _ n0 _ zs0 x1 y1 dx1 dy1 ?_).mono ?_
        · exact hOq1.row
        rintro e w2 ⟨rfl, b2⟩
        dsimp only
        refine hK.out _ (.tuple #[.agg #[.int .i64 (bkV W0 H0 n0 zs0 x1 y1 dx1 dy1 (x1 + dx1)), .int .i64 (bkV W0 H0 n0 zs0 x1 y1 dx1 dy1 (y1 + dy1)), .int .i64 (bkV W0 H0 n0 zs0 x1 y1 dx1 dy1 (stDX W0 H0 zs0 x1 y1 dx1 dy1)), .int .i64 (bkV W0 H0 n0 zs0 x1 y1 dx1 dy1 (stDY W0 H0 zs0 x1 y1 dx1 dy1))], .int .i64 (wkC W0 H0 n0 zs0 x1 y1 dx1 dy1)]) _ ?_ ?_
        · simp only [setA, setT, List.setIfInBounds_toArray, List.set_cons_zero, List.set_cons_succ, Act.put, hq1, hq3]
        · exact ⟨Ext.of_below b2, rfl⟩
      case o5 =>
        intro vs iv wk hx hf
        obtain ⟨⟨hq4, -⟩, -⟩ := hf
        have hq4 : vs 21 = .tuple #[.agg #[.int .i64 (bkV W0 H0 n0 zs0 x1 y1 dx1 dy1 (x1 + dx1)), .int .i64 (bkV W0 H0 n0 zs0 x1 y1 dx1 dy1 (y1 + dy1)), .int .i64 (bkV W0 H0 n0 zs0 x1 y1 dx1 dy1 (stDX W0 H0 zs0 x1 y1 dx1 dy1)), .int .i64 (bkV W0 H0 n0 zs0 x1 y1 dx1 dy1 (stDY W0 H0 zs0 x1 y1 dx1 dy1))], .int .i64 (wkC W0 H0 n0 zs0 x1 y1 dx1 dy1)] := hq4
        intro K' hK
        simp only [setA, setT, List.setIfInBounds_toArray, List.set_cons_zero, List.set_cons_succ]
        go_simp
        refine hK.out _ (.tuple #[.agg #[.int .i64 (bkV W0 H0 n0 zs0 x1 y1 dx1 dy1 (x1 + dx1)), .int .i64 (bkV W0 H0 n0 zs0 x1 y1 dx1 dy1 (y1 + dy1)), .int .i64 (bkV W0 H0 n0 zs0 x1 y1 dx1 dy1 (stDX W0 H0 zs0 x1 y1 dx1 dy1)), .int .i64 (bkV W0 H0 n0 zs0 x1 y1 dx1 dy1 (stDY W0 H0 zs0 x1 y1 dx1 dy1))], .int .i64 (wkC W0 H0 n0 zs0 x1 y1 dx1 dy1)]) _ ?_ ?_
        · simp only [setA, setT, List.setIfInBounds_toArray, List.set_cons_zero, List.set_cons_succ, Act.put, hq4]
        · exact ⟨Ext.refl _ _, rfl⟩
      case o6 =>
        intro vs iv wk hx hf
        obtain ⟨⟨hq5, -⟩, -⟩ := hf
        have hq5 : vs 16 = .tuple #[.agg #[.int .i64 (bkV W0 H0 n0 zs0 x1 y1 dx1 dy1 (x1 + dx1)), .int .i64 (bkV W0 H0 n0 zs0 x1 y1 dx1 dy1 (y1 + dy1)), .int .i64 (bkV W0 H0 n0 zs0 x1 y1 dx1 dy1 (stDX W0 H0 zs0 x1 y1 dx1 dy1)), .int .i64 (bkV W0 H0 n0 zs0 x1 y1 dx1 dy1 (stDY W0 H0 zs0 x1 y1 dx1 dy1))], .int .i64 (wkC W0 H0 n0 zs0 x1 y1 dx1 dy1)] := hq5
        intro K' hK
        simp only [setA, setT, List.setIfInBounds_toArray, List.set_cons_zero, List.set_cons_succ]
        go_simp
        refine hK.out _ (.agg #[.int .i64 (bkV W0 H0 n0 zs0 x1 y1 dx1 dy1 (x1 + dx1)), .int .i64 (bkV W0 H0 n0 zs0 x1 y1 dx1 dy1 (y1 + dy1)), .int .i64 (bkV W0 H0 n0 zs0 x1 y1 dx1 dy1 (stDX W0 H0 zs0 x1 y1 dx1 dy1)), .int .i64 (bkV W0 H0 n0 zs0 x1 y1 dx1 dy1 (stDY W0 H0 zs0 x1 y1 dx1 dy1))]) _ ?_ ?_
        · simp only [setA, setT, List.setIfInBounds_toArray, List.set_cons_zero, List.set_cons_succ, Act.put, hq5]
        · exact ⟨Ext.refl _ _, rfl⟩
      case o7 =>
        intro vs iv wk hx hf
        obtain ⟨⟨hq5, -⟩, -⟩ := hf
        have hq5 : vs 16 = .tuple #[.agg #[.int .i64 (bkV W0 H0 n0 zs0 x1 y1 dx1 dy1 (x1 + dx1)), .int .i64 (bkV W0 H0 n0 zs0 x1 y1 dx1 dy1 (y1 + dy1)), .int .i64 (bkV W0 H0 n0 zs0 x1 y1 dx1 dy1 (stDX W0 H0 zs0 x1 y1 dx1 dy1)), .int .i64 (bkV W0 H0 n0 zs0 x1 y1 dx1 dy1 (stDY W0 H0 zs0 x1 y1 dx1 dy1))], .int .i64 (wkC W0 H0 n0 zs0 x1 y1 dx1 dy1)] := hq5
        intro K' hK
        simp only [setA, setT, List.setIfInBounds_toArray, List.set_cons_zero, List.set_cons_succ]
        go_simp
        refine hK.out _ (.int .i64 (wkC W0 H0 n0 zs0 x1 y1 dx1 dy1)) _ ?_ ?_
        · simp only [setA, setT, List.setIfInBounds_toArray, List.set_cons_zero, List.set_cons_succ, Act.put, hq5]
        · exact ⟨Ext.refl _ _, rfl⟩
      case o8 =>
        intro vs iv wk hx hf
        intro K' hK
        simp only [setA, setT, List.setIfInBounds_toArray, List.set_cons_zero, List.set_cons_succ]
        go_simp
        refine hK.out _ (.pointer (some ⟨wk.heap.size, 0, none⟩)) _ ?_ ?_
        · simp only [setA, setT, List.setIfInBounds_toArray, List.set_cons_zero, List.set_cons_succ, Act.put]
        · exact ⟨Ext.alloc _ _, rfl, by simp, At.new _ _ _⟩
      case o9 =>
        intro vs iv wk hx hf
        obtain ⟨⟨⟨h9, hhi, hA9⟩, -⟩, ⟨hq6, -⟩, -⟩ := hf
        have h9 : vs 6 = .pointer (some ⟨(iv 8).1, 0, none⟩) := h9
        have hq6 : vs 22 = .agg #[.int .i64 (bkV W0 H0 n0 zs0 x1 y1 dx1 dy1 (x1 + dx1)), .int .i64 (bkV W0 H0 n0 zs0 x1 y1 dx1 dy1 (y1 + dy1)), .int .i64 (bkV W0 H0 n0 zs0 x1 y1 dx1 dy1 (stDX W0 H0 zs0 x1 y1 dx1 dy1)), .int .i64 (bkV W0 H0 n0 zs0 x1 y1 dx1 dy1 (stDY W0 H0 zs0 x1 y1 dx1 dy1))] := hq6
        have hA9 : At wk (iv 8).1 #[.int .i64 0, .int .i64 0, .int .i64 0, .int .i64 0] 32 := hA9
        have hhi : (iv 8).2 = (iv 8).1 + 1 := hhi
        have q0 := hA9.cell 0
        have f0 := hA9.frozen 0
        have q1 := hA9.cell 1
        have f1 := hA9.frozen 1
        have q2 := hA9.cell 2
        have f2 := hA9.frozen 2
        have q3 := hA9.cell 3
        have f3 := hA9.frozen 3
        simp only [List.getElem?_toArray, List.getElem?_cons_zero, List.getElem?_cons_succ] at q0 q1 q2 q3
        have hlt9 : (iv 8).1 < (iv 8).2 := by omega
        have HA9 := Lib.hid hA9
        clear hA9 hhi
        have HLT := Lib.hid hlt9
        clear hlt9
        intro K' hK
        simp only [setA, setT, List.setIfInBounds_toArray, List.set_cons_zero, List.set_cons_succ]
        go_simp
        refine hK.out _ (undef) _ ?_ ?_
        · simp only [setA, setT, List.setIfInBounds_toArray, List.set_cons_zero, List.set_cons_succ, Act.put, h9, hq6]
        · exact ⟨HLT.out, ((((Ext.set _ _ _ (by simp)).trans (Ext.set _ _ _ (by simp))).trans (Ext.set _ _ _ (by simp))).trans (Ext.set _ _ _ (by simp))), h9, HLT.out, ((((HA9.out.set 0 _).set 1 _).set 2 _).set 3 _)⟩
      case o10 =>
        intro vs iv wk hx hf
        obtain ⟨⟨hq7, -⟩, -⟩ := hf
        have hq7 : vs 23 = .int .i64 (wkC W0 H0 n0 zs0 x1 y1 dx1 dy1) := hq7
        intro K' hK
        simp only [setA, setT, List.setIfInBounds_toArray, List.set_cons_zero, List.set_cons_succ]
        go_simp
        refine hK.out _ (.int .i64 (wkC W0 H0 n0 zs0 x1 y1 dx1 dy1)) _ ?_ ?_
        · simp only [setA, setT, List.setIfInBounds_toArray, List.set_cons_zero, List.set_cons_succ, Act.put, hq7]
        · exact ⟨Ext.refl _ _, rfl⟩
    case gR =>
      intro vs iv w2x hx hap hf
      obtain ⟨-, -, -, -, -, -, -, -, -, ⟨⟨hs9, hl9, hB9⟩, hi9⟩, ⟨hv10, -⟩, -⟩ := hf
      have hv10 : vs 7 = .int .i64 (wkC W0 H0 n0 zs0 x1 y1 dx1 dy1) := hv10
      have hs9 : vs 6 = .pointer (some ⟨(iv 8).1, 0, none⟩) := hs9
      have hB9 : At w2x (iv 8).1 #[.int .i64 (bkV W0 H0 n0 zs0 x1 y1 dx1 dy1 (x1 + dx1)), .int .i64 (bkV W0 H0 n0 zs0 x1 y1 dx1 dy1 (y1 + dy1)), .int .i64 (bkV W0 H0 n0 zs0 x1 y1 dx1 dy1 (stDX W0 H0 zs0 x1 y1 dx1 dy1)), .int .i64 (bkV W0 H0 n0 zs0 x1 y1 dx1 dy1 (stDY W0 H0 zs0 x1 y1 dx1 dy1))] 32 := hB9
      have HZ9 : Hid (w1.heap.size ≤ (iv 8).1) := Lib.hid hi9.1
      have HQ9 := Lib.hid (Cel.of_at (cs := [.int .i64 (bkV W0 H0 n0 zs0 x1 y1 dx1 dy1 (x1 + dx1)), .int .i64 (bkV W0 H0 n0 zs0 x1 y1 dx1 dy1 (y1 + dy1)), .int .i64 (bkV W0 H0 n0 zs0 x1 y1 dx1 dy1 (stDX W0 H0 zs0 x1 y1 dx1 dy1)), .int .i64 (bkV W0 H0 n0 zs0 x1 y1 dx1 dy1 (stDY W0 H0 zs0 x1 y1 dx1 dy1))]) hB9)
      clear hB9 hl9 hi9
      simp only [setA, setT, List.setIfInBounds_toArray, List.set_cons_zero, List.set_cons_succ, hv10, hs9]
      have bXX := ((Ext.drew _).trans hx).nil
      clear hx hap hv10 hs9
      generalize (iv 8).1 = bR0 at *
      clear kX_z kX_0 kX_1 kX_2 kD1_z kD1_0 kD1_1 kD1_2 kD1_3
      obtain ⟨w2, rfl⟩ : ∃ w2 : World, w2 = w2x := ⟨_, rfl⟩
      have HX2 := Lib.hid (HX1.out.below bXX HX1.out.1)
      have HD12 := Lib.hid (HD11.out.below bXX HD11.out.1)
      have HT2 := Lib.hid (HT1.out.below bXX HT1.out.1)
      have HB2 := Lib.hid (HB1.out.trans (bXX.mono HB1.out.size))
      have HA2 := Lib.hid (HA1.out.below bXX (Nat.le_refl _))
      have HR02 := HQ9
      clear HQ9 HZ9
      clear bXX HB1 HA1
      clear HX1 HD11 HT1
      have kX_z := HX2.out.1
      have kX_0 := HX2.out.2 0 _ rfl
      have kX_1 := HX2.out.2 1 _ rfl
      have kX_2 := HX2.out.2 2 _ rfl
      have kD1_z := HD12.out.1
      have kD1_0 := HD12.out.2 0 _ rfl
      have kD1_1 := HD12.out.2 1 _ rfl
      have kD1_2 := HD12.out.2 2 _ rfl
      have kD1_3 := HD12.out.2 3 _ rfl
      have kR0_z := HR02.out.1
      have kR0_0 := HR02.out.2 0 _ rfl
      have kR0_1 := HR02.out.2 1 _ rfl
      have kR0_2 := HR02.out.2 2 _ rfl
      have kR0_3 := HR02.out.2 3 _ rfl
      go_wp2_with fail
      refine (toPanel_any _ W0 H0 A0 n0 c0 zs0 HA2.out hn20).mono ?_
      rintro e w4 ⟨bq, rfl, hbq, hrow4, b4⟩
      clear kX_z kX_0 kX_1 kX_2 kD1_z kD1_0 kD1_1 kD1_2 kD1_3 kR0_z kR0_0 kR0_1 kR0_2 kR0_3
      have HX4 := Lib.hid (HX2.out.below b4 HX2.out.1)
      have HD14 := Lib.hid (HD12.out.below b4 HD12.out.1)
      have HT4 := Lib.hid (HT2.out.below b4 HT2.out.1)
      have HR04 := Lib.hid (HR02.out.below b4 HR02.out.1)
      have HB4 := Lib.hid (HB2.out.trans (b4.mono HB2.out.size))
      have HA4 := Lib.hid (HA2.out.below b4 (Nat.le_refl _))
      have HR4 := Lib.hid (Row.of_rowIs hrow4 hn63 HW.out)
      clear b4 hrow4 hbq HB2 HA2
      clear HX2 HD12 HT2 HR02
      go_wp2_with fail
      have bN := (Below.refl w4.heap.size w4).alloc (Nat.le_refl _) (.cells #[.int .i64 W0, .int .i64 H0, .slice (some ⟨bq, 0, none⟩) n0 n0] 35)
      have HX5 := Lib.hid (HX4.out.below bN HX4.out.1)
      have HD15 := Lib.hid (HD14.out.below bN HD14.out.1)
      have HT5 := Lib.hid (HT4.out.below bN HT4.out.1)
      have HR05 := Lib.hid (HR04.out.below bN HR04.out.1)
      have HY5 := Lib.hid (Cel.new w4 [.int .i64 W0, .int .i64 H0, .slice (some ⟨bq, 0, none⟩) n0 n0] 35)
      have HB5 := Lib.hid (HB4.out.trans (bN.mono HB4.out.size))
      have HA5 := Lib.hid (HA4.out.below bN (Nat.le_refl _))
      have HR5 := Lib.hid (HR4.out.below bN (Nat.le_refl _))
      clear bN HB4 HA4 HR4
      clear HX4 HD14 HT4 HR04
      generalize w4.alloc (.cells #[.int .i64 W0, .int .i64 H0, .slice (some ⟨bq, 0, none⟩) n0 n0] 35) = w5 at *
      generalize w4.heap.size = bY at *
      have kX_z := HX5.out.1
      have kX_0 := HX5.out.2 0 _ rfl
      have kX_1 := HX5.out.2 1 _ rfl
      have kX_2 := HX5.out.2 2 _ rfl
      have kD1_z := HD15.out.1
      have kD1_0 := HD15.out.2 0 _ rfl
      have kD1_1 := HD15.out.2 1 _ rfl
      have kD1_2 := HD15.out.2 2 _ rfl
      have kD1_3 := HD15.out.2 3 _ rfl
      have kR0_z := HR05.out.1
      have kR0_0 := HR05.out.2 0 _ rfl
      have kR0_1 := HR05.out.2 1 _ rfl
      have kR0_2 := HR05.out.2 2 _ rfl
      have kR0_3 := HR05.out.2 3 _ rfl
      have kY_z := HY5.out.1
      have kY_0 := HY5.out.2 0 _ rfl
      have kY_1 := HY5.out.2 1 _ rfl
      have kY_2 := HY5.out.2 2 _ rfl
      refine wp_region_stab [some 27, some 28, some 29, some 30, some 26, some 31, some 32, some 9, none, some 10] [27, 28, 29, 30, 26, 31, 32, 9, 10] [] [(8, 7)]
        [(fun a lo hi v w' => v = .agg #[.int .i64 W0, .int .i64 H0, .slice (some ⟨bq, 0, none⟩) n0 n0]),
          (fun a lo hi v w' => v = .agg #[.int .i64 x1, .int .i64 y1, .int .i64 dx1, .int .i64 dy1]),
          (fun a lo hi v w' => v = .agg #[.int .i64 x1, .int .i64 y1, .int .i64 dx1, .int .i64 dy1]),
          (fun a lo hi v w' => v = .tuple #[.agg #[.int .i64 (bkV W0 H0 n0 zs0 x1 y1 dx1 dy1 (x1 + dx1)), .int .i64 (bkV W0 H0 n0 zs0 x1 y1 dx1 dy1 (y1 + dy1)), .int .i64 (bkV W0 H0 n0 zs0 x1 y1 dx1 dy1 (stDX W0 H0 zs0 x1 y1 dx1 dy1)), .int .i64 (bkV W0 H0 n0 zs0 x1 y1 dx1 dy1 (stDY W0 H0 zs0 x1 y1 dx1 dy1))], .int .i64 (wkC W0 H0 n0 zs0 x1 y1 dx1 dy1)]),
          (fun a lo hi v w' => v = .tuple #[.agg #[.int .i64 (bkV W0 H0 n0 zs0 x1 y1 dx1 dy1 (x1 + dx1)), .int .i64 (bkV W0 H0 n0 zs0 x1 y1 dx1 dy1 (y1 + dy1)), .int .i64 (bkV W0 H0 n0 zs0 x1 y1 dx1 dy1 (stDX W0 H0 zs0 x1 y1 dx1 dy1)), .int .i64 (bkV W0 H0 n0 zs0 x1 y1 dx1 dy1 (stDY W0 H0 zs0 x1 y1 dx1 dy1))], .int .i64 (wkC W0 H0 n0 zs0 x1 y1 dx1 dy1)]),
          (fun a lo hi v w' => v = .agg #[.int .i64 (bkV W0 H0 n0 zs0 x1 y1 dx1 dy1 (x1 + dx1)), .int .i64 (bkV W0 H0 n0 zs0 x1 y1 dx1 dy1 (y1 + dy1)), .int .i64 (bkV W0 H0 n0 zs0 x1 y1 dx1 dy1 (stDX W0 H0 zs0 x1 y1 dx1 dy1)), .int .i64 (bkV W0 H0 n0 zs0 x1 y1 dx1 dy1 (stDY W0 H0 zs0 x1 y1 dx1 dy1))]),
          (fun a lo hi v w' => v = .int .i64 (wkC W0 H0 n0 zs0 x1 y1 dx1 dy1)),
          (fun a lo hi v w' => v = .pointer (some ⟨lo, 0, none⟩) ∧ hi = lo + 1 ∧ At w' lo #[.int .i64 0, .int .i64 0, .int .i64 0, .int .i64 0] 32),
          (fun a lo hi v w' => a.getD 0 undef = .pointer (some ⟨lo, 0, none⟩) ∧ lo < hi ∧ At w' lo #[.int .i64 (bkV W0 H0 n0 zs0 x1 y1 dx1 dy1 (x1 + dx1)), .int .i64 (bkV W0 H0 n0 zs0 x1 y1 dx1 dy1 (y1 + dy1)), .int .i64 (bkV W0 H0 n0 zs0 x1 y1 dx1 dy1 (stDX W0 H0 zs0 x1 y1 dx1 dy1)), .int .i64 (bkV W0 H0 n0 zs0 x1 y1 dx1 dy1 (stDY W0 H0 zs0 x1 y1 dx1 dy1))] 32),
          (fun a lo hi v w' => v = .int .i64 (wkC W0 H0 n0 zs0 x1 y1 dx1 dy1))]
        [[], [], [1], [0, 2], [3], [4], [4], [], [7, 5], [6]] [[], [], [], [], [], [], [], [], [9], []] (by kernel_rfl) (by kernel_rfl) (fun k hk => absurd hk List.not_mem_nil) ?gS ?gO ?gR
      case gS => exact ⟨fun _ _ _ _ _ _ h _ => h, fun _ _ _ _ _ _ h _ => h, fun _ _ _ _ _ _ h _ => h, fun _ _ _ _ _ _ h _ => h, fun _ _ _ _ _ _ h _ => h, fun _ _ _ _ _ _ h _ => h, fun _ _ _ _ _ _ h _ => h, fun _ _ _ _ _ _ ⟨h1, h2, h3⟩ e => ⟨h1, h2, h3.same e (.inr ⟨Nat.le_refl _, by omega⟩)⟩, fun _ _ _ _ _ _ ⟨h1, h2, h3⟩ e => ⟨h1, h2, h3.same e (.inr ⟨Nat.le_refl _, h2⟩)⟩, fun _ _ _ _ _ _ h _ => h, trivial⟩
      case gO =>
        refine ⟨?o0, ?o1, ?o2, ?o3, ?o4, ?o5, ?o6, ?o7, ?o8, ?o9, trivial⟩
        case o0 =>
          intro vs iv wk hx hf
          have ezz : bY < wk.heap.size := Nat.lt_of_lt_of_le kY_z hx.size
          have e0 : wk.cell? ⟨bY, 0, none⟩ = some (.int .i64 W0) := hx.cell kY_0 (by simp)
          have e1 : wk.cell? ⟨bY, 1, none⟩ = some (.int .i64 H0) := hx.cell kY_1 (by simp)
          have e2 : wk.cell? ⟨bY, 2, none⟩ = some (.slice (some ⟨bq, 0, none⟩) n0 n0) := hx.cell kY_2 (by simp)
          intro K' hK
          simp only [setA, setT, List.setIfInBounds_toArray, List.set_cons_zero, List.set_cons_succ]
          go_simp
          refine hK.out _ (.agg #[.int .i64 W0, .int .i64 H0, .slice (some ⟨bq, 0, none⟩) n0 n0]) _ ?_ ?_
          · simp only [setA, setT, List.setIfInBounds_toArray, List.set_cons_zero, List.set_cons_succ, Act.put]
          · exact ⟨Ext.refl _ _, rfl⟩
        case o1 =>
          intro vs iv wk hx hf
          have ezz : w.heap.size + 1 < wk.heap.size := Nat.lt_of_lt_of_le kD1_z hx.size
          have e0 : wk.cell? ⟨w.heap.size + 1, 0, none⟩ = some (.int .i64 x1) := hx.cell kD1_0 (by simp)
          have e1 : wk.cell? ⟨w.heap.size + 1, 1, none⟩ = some (.int .i64 y1) := hx.cell kD1_1 (by simp)
          have e2 : wk.cell? ⟨w.heap.size + 1, 2, none⟩ = some (.int .i64 dx1) := hx.cell kD1_2 (by simp)
          have e3 : wk.cell? ⟨w.heap.size + 1, 3, none⟩ = some (.int .i64 dy1) := hx.cell kD1_3 (by simp)
          intro K' hK
          simp only [setA, setT, List.setIfInBounds_toArray, List.set_cons_zero, List.set_cons_succ]
          go_simp
          refine hK.out _ (.agg #[.int .i64 x1, .int .i64 y1, .int .i64 dx1, .int .i64 dy1]) _ ?_ ?_
          · simp only [setA, setT, List.setIfInBounds_toArray, List.set_cons_zero, List.set_cons_succ, Act.put]
          · exact ⟨Ext.refl _ _, rfl⟩
        case o2 =>
          intro vs iv wk hx hf
          obtain ⟨⟨hq1, -⟩, -⟩ := hf
          have hq1 : vs 28 = .agg #[.int .i64 x1, .int .i64 y1, .int .i64 dx1, .int .i64 dy1] := hq1
          intro K' hK
          simp only [setA, setT, List.setIfInBounds_toArray, List.set_cons_zero, List.set_cons_succ]
          go_simp
          refine (toWalker_any _ x1 y1 dx1 dy1).mono ?_
          rintro e w2 ⟨rfl, b2⟩
          dsimp only
          refine hK.out _ (.agg #[.int .i64 x1, .int .i64 y1, .int .i64 dx1, .int .i64 dy1]) _ ?_ ?_
          · simp only [setA, setT, List.setIfInBounds_toArray, List.set_cons_zero, List.set_cons_succ, Act.put, hq1]
          · exact ⟨Ext.of_below b2, rfl⟩
        case o3 =>
          intro vs iv wk hx hf
          obtain ⟨⟨hq0, -⟩, ⟨hq2, -⟩, -⟩ := hf
          have hq0 : vs 27 = .agg #[.int .i64 W0, .int .i64 H0, .slice (some ⟨bq, 0, none⟩) n0 n0] := hq0
          have hq2 : vs 29 = .agg #[.int .i64 x1, .int .i64 y1, .int .i64 dx1, .int .i64 dy1] := hq2
          intro K' hK
          simp only [setA, setT, List.setIfInBounds_toArray, List.set_cons_zero, List.set_cons_succ]
          go_simp
          refine (impl_stepWalker _ W0 H0 _ n0 _ zs0 x1 y1 dx1 dy1 ?_ (HT5.out.ext0 ((Ext.drew _).trans hx))).mono ?_
          · exact HR5.out.ext0 ((Ext.drew _).trans hx)
          rintro e w2 ⟨rfl, b2⟩
          dsimp only
          refine hK.out _ (.tuple #[.agg #[.int .i64 (bkV W0 H0 n0 zs0 x1 y1 dx1 dy1 (x1 + dx1)), .int .i64 (bkV W0 H0 n0 zs0 x1 y1 dx1 dy1 (y1 + dy1)), .int .i64 (bkV W0 H0 n0 zs0 x1 y1 dx1 dy1 (stDX W0 H0 zs0 x1 y1 dx1 dy1)), .int .i64 (bkV W0 H0 n0 zs0 x1 y1 dx1 dy1 (stDY W0 H0 zs0 x1 y1 dx1 dy1))], .int .i64 (wkC W0 H0 n0 zs0 x1 y1 dx1 dy1)]) _ ?_ ?_
          · simp only [setA, setT, List.setIfInBounds_toArray, List.set_cons_zero, List.set_cons_succ, Act.put, hq0, hq2]
          · exact ⟨Ext.of_below b2, rfl⟩
        case o4 =>
          intro vs iv wk hx hf
          obtain ⟨⟨hq3, -⟩, -⟩ := hf
          have hq3 : vs 30 = .tuple #[.agg #[.int .i64 (bkV W0 H0 n0 zs0 x1 y1 dx1 dy1 (x1 + dx1)), .int .i64 (bkV W0 H0 n0 zs0 x1 y1 dx1 dy1 (y1 + dy1)), .int .i64 (bkV W0 H0 n0 zs0 x1 y1 dx1 dy1 (stDX W0 H0 zs0 x1 y1 dx1 dy1)), .int .i64 (bkV W0 H0 n0 zs0 x1 y1 dx1 dy1 (stDY W0 H0 zs0 x1 y1 dx1 dy1))], .int .i64 (wkC W0 H0 n0 zs0 x1 y1 dx1 dy1)] := hq3
          intro K' hK
          simp only [setA, setT, List.setIfInBounds_toArray, List.set_cons_zero, List.set_cons_succ]
          go_simp
          refine hK.out _ (.tuple #[.agg #[.int .i64 (bkV W0 H0 n0 zs0 x1 y1 dx1 dy1 (x1 + dx1)), .int .i64 (bkV W0 H0 n0 zs0 x1 y1 dx1 dy1 (y1 + dy1)), .int .i64 (bkV W0 H0 n0 zs0 x1 y1 dx1 dy1 (stDX W0 H0 zs0 x1 y1 dx1 dy1)), .int .i64 (bkV W0 H0 n0 zs0 x1 y1 dx1 dy1 (stDY W0 H0 zs0 x1 y1 dx1 dy1))], .int .i64 (wkC W0 H0 n0 zs0 x1 y1 dx1 dy1)]) _ ?_ ?_
          · simp only [setA, setT, List.setIfInBounds_toArray, List.set_cons_zero, List.set_cons_succ, Act.put, hq3]
          · exact ⟨Ext.refl _ _, rfl⟩
        case o5 =>
          intro vs iv wk hx hf
          obtain ⟨⟨hq4, -⟩, -⟩ := hf
          have hq4 : vs 26 = .tuple #[.agg #[.int .i64 (bkV W0 H0 n0 zs0 x1 y1 dx1 dy1 (x1 + dx1)), .int .i64 (bkV W0 H0 n0 zs0 x1 y1 dx1 dy1 (y1 + dy1)), .int .i64 (bkV W0 H0 n0 zs0 x1 y1 dx1 dy1 (stDX W0 H0 zs0 x1 y1 dx1 dy1)), .int .i64 (bkV W0 H0 n0 zs0 x1 y1 dx1 dy1 (stDY W0 H0 zs0 x1 y1 dx1 dy1))], .int .i64 (wkC W0 H0 n0 zs0 x1 y1 dx1 dy1)] := hq4
          intro K' hK
          simp only [setA, setT, List.setIfInBounds_toArray, List.set_cons_zero, List.set_cons_succ]
          go_simp
          refine hK.out _ (.agg #[.int .i64 (bkV W0 H0 n0 zs0 x1 y1 dx1 dy1 (x1 + dx1)), .int .i64 (bkV W0 H0 n0 zs0 x1 y1 dx1 dy1 (y1 + dy1)), .int .i64 (bkV W0 H0 n0 zs0 x1 y1 dx1 dy1 (stDX W0 H0 zs0 x1 y1 dx1 dy1)), .int .i64 (bkV W0 H0 n0 zs0 x1 y1 dx1 dy1 (stDY W0 H0 zs0 x1 y1 dx1 dy1))]) _ ?_ ?_
          · simp only [setA, setT, List.setIfInBounds_toArray, List.set_cons_zero, List.set_cons_succ, Act.put, hq4]
          · exact ⟨Ext.refl _ _, rfl⟩
        case o6 =>
          intro vs iv wk hx hf
          obtain ⟨⟨hq4, -⟩, -⟩ := hf
          have hq4 : vs 26 = .tuple #[.agg #[.int .i64 (bkV W0 H0 n0 zs0 x1 y1 dx1 dy1 (x1 + dx1)), .int .i64 (bkV W0 H0 n0 zs0 x1 y1 dx1 dy1 (y1 + dy1)), .int .i64 (bkV W0 H0 n0 zs0 x1 y1 dx1 dy1 (stDX W0 H0 zs0 x1 y1 dx1 dy1)), .int .i64 (bkV W0 H0 n0 zs0 x1 y1 dx1 dy1 (stDY W0 H0 zs0 x1 y1 dx1 dy1))], .int .i64 (wkC W0 H0 n0 zs0 x1 y1 dx1 dy1)] := hq4
          intro K' hK
          simp only [setA, setT, List.setIfInBounds_toArray, List.set_cons_zero, List.set_cons_succ]
          go_simp
          refine hK.out _ (.int .i64 (wkC W0 H0 n0 zs0 x1 y1 dx1 dy1)) _ ?_ ?_
          · simp only [setA, setT, List.setIfInBounds_toArray, List.set_cons_zero, List.set_cons_succ, Act.put, hq4]
          · exact ⟨Ext.refl _ _, rfl⟩
        case o7 =>
          intro vs iv wk hx hf
          intro K' hK
          simp only [setA, setT, List.setIfInBounds_toArray, List.set_cons_zero, List.set_cons_succ]
          go_simp
          refine hK.out _ (.pointer (some ⟨wk.heap.size, 0, none⟩)) _ ?_ ?_
          · simp only [setA, setT, List.setIfInBounds_toArray, List.set_cons_zero, List.set_cons_succ, Act.put]
          · exact ⟨Ext.alloc _ _, rfl, by simp, At.new _ _ _⟩
        case o8 =>
          intro vs iv wk hx hf
          obtain ⟨⟨⟨h9, hhi, hA9⟩, -⟩, ⟨hq5, -⟩, -⟩ := hf
          have h9 : vs 9 = .pointer (some ⟨(iv 7).1, 0, none⟩) := h9
          have hq5 : vs 31 = .agg #[.int .i64 (bkV W0 H0 n0 zs0 x1 y1 dx1 dy1 (x1 + dx1)), .int .i64 (bkV W0 H0 n0 zs0 x1 y1 dx1 dy1 (y1 + dy1)), .int .i64 (bkV W0 H0 n0 zs0 x1 y1 dx1 dy1 (stDX W0 H0 zs0 x1 y1 dx1 dy1)), .int .i64 (bkV W0 H0 n0 zs0 x1 y1 dx1 dy1 (stDY W0 H0 zs0 x1 y1 dx1 dy1))] := hq5
          have hA9 : At wk (iv 7).1 #[.int .i64 0, .int .i64 0, .int .i64 0, .int .i64 0] 32 := hA9
          have hhi : (iv 7).2 = (iv 7).1 + 1 := hhi
          have q0 := hA9.cell 0
          have f0 := hA9.frozen 0
          have q1 := hA9.cell 1
          have f1 := hA9.frozen 1
          have q2 := hA9.cell 2
          have f2 := hA9.frozen 2
          have q3 := hA9.cell 3
          have f3 := hA9.frozen 3
          simp only [List.getElem?_toArray, List.getElem?_cons_zero, List.getElem?_cons_succ] at q0 q1 q2 q3
          have hlt9 : (iv 7).1 < (iv 7).2 := by omega
          have HA9 := Lib.hid hA9
          clear hA9 hhi
          have HLT := Lib.hid hlt9
          clear hlt9
          intro K' hK
          simp only [setA, setT, List.setIfInBounds_toArray, List.set_cons_zero, List.set_cons_succ]
          go_simp
          refine hK.out _ (undef) _ ?_ ?_
          · simp only [setA, setT, List.setIfInBounds_toArray, List.set_cons_zero, List.set_cons_succ, Act.put, h9, hq5]
          · exact ⟨HLT.out, ((((Ext.set _ _ _ (by simp)).trans (Ext.set _ _ _ (by simp))).trans (Ext.set _ _ _ (by simp))).trans (Ext.set _ _ _ (by simp))), h9, HLT.out, ((((HA9.out.set 0 _).set 1 _).set 2 _).set 3 _)⟩
        case o9 =>
          intro vs iv wk hx hf
          obtain ⟨⟨hq6, -⟩, -⟩ := hf
          have hq6 : vs 32 = .int .i64 (wkC W0 H0 n0 zs0 x1 y1 dx1 dy1) := hq6
          intro K' hK
          simp only [setA, setT, List.setIfInBounds_toArray, List.set_cons_zero, List.set_cons_succ]
          go_simp
          refine hK.out _ (.int .i64 (wkC W0 H0 n0 zs0 x1 y1 dx1 dy1)) _ ?_ ?_
          · simp only [setA, setT, List.setIfInBounds_toArray, List.set_cons_zero, List.set_cons_succ, Act.put, hq6]
          · exact ⟨Ext.refl _ _, rfl⟩
      case gR =>
        intro vs iv w2x hx hap hf
        obtain ⟨-, -, -, -, -, -, -, -, ⟨⟨hs8, hl8, hB8⟩, hi8⟩, ⟨hv9, -⟩, -⟩ := hf
        have hv9 : vs 10 = .int .i64 (wkC W0 H0 n0 zs0 x1 y1 dx1 dy1) := hv9
        have hs8 : vs 9 = .pointer (some ⟨(iv 7).1, 0, none⟩) := hs8
        have hB8 : At w2x (iv 7).1 #[.int .i64 (bkV W0 H0 n0 zs0 x1 y1 dx1 dy1 (x1 + dx1)), .int .i64 (bkV W0 H0 n0 zs0 x1 y1 dx1 dy1 (y1 + dy1)), .int .i64 (bkV W0 H0 n0 zs0 x1 y1 dx1 dy1 (stDX W0 H0 zs0 x1 y1 dx1 dy1)), .int .i64 (bkV W0 H0 n0 zs0 x1 y1 dx1 dy1 (stDY W0 H0 zs0 x1 y1 dx1 dy1))] 32 := hB8
        have HZ8 : Hid (w5.heap.size ≤ (iv 7).1) := Lib.hid hi8.1
        have HQ8 := Lib.hid (Cel.of_at (cs := [.int .i64 (bkV W0 H0 n0 zs0 x1 y1 dx1 dy1 (x1 + dx1)), .int .i64 (bkV W0 H0 n0 zs0 x1 y1 dx1 dy1 (y1 + dy1)), .int .i64 (bkV W0 H0 n0 zs0 x1 y1 dx1 dy1 (stDX W0 H0 zs0 x1 y1 dx1 dy1)), .int .i64 (bkV W0 H0 n0 zs0 x1 y1 dx1 dy1 (stDY W0 H0 zs0 x1 y1 dx1 dy1))]) hB8)
        clear hB8 hl8 hi8
        simp only [setA, setT, List.setIfInBounds_toArray, List.set_cons_zero, List.set_cons_succ, hv9, hs8]
        have bXX := ((Ext.drew _).trans hx).nil
        clear hx hap hv9 hs8
        generalize (iv 7).1 = bR1 at *
        clear kX_z kX_0 kX_1 kX_2 kD1_z kD1_0 kD1_1 kD1_2 kD1_3 kR0_z kR0_0 kR0_1 kR0_2 kR0_3 kY_z kY_0 kY_1 kY_2
        obtain ⟨w6, rfl⟩ : ∃ w6 : World, w6 = w2x := ⟨_, rfl⟩
        have b6 := bXX
        clear bXX
        have HR16 := HQ8
        clear HQ8 HZ8
        have HX6 := Lib.hid (HX5.out.below b6 HX5.out.1)
        have HD16 := Lib.hid (HD15.out.below b6 HD15.out.1)
        have HT6 := Lib.hid (HT5.out.below b6 HT5.out.1)
        have HR06 := Lib.hid (HR05.out.below b6 HR05.out.1)
        have HY6 := Lib.hid (HY5.out.below b6 HY5.out.1)
        have HB6 := Lib.hid (HB5.out.trans (b6.mono HB5.out.size))
        have HA6 := Lib.hid (HA5.out.below b6 (Nat.le_refl _))
        have HR6 := Lib.hid (HR5.out.below b6 (Nat.le_refl _))
        clear b6 HB5 HA5 HR5
        clear HX5 HD15 HT5 HR05 HY5
        have kX_z := HX6.out.1
        have kX_0 := HX6.out.2 0 _ rfl
        have kX_1 := HX6.out.2 1 _ rfl
        have kX_2 := HX6.out.2 2 _ rfl
        have kD1_z := HD16.out.1
        have kD1_0 := HD16.out.2 0 _ rfl
        have kD1_1 := HD16.out.2 1 _ rfl
        have kD1_2 := HD16.out.2 2 _ rfl
        have kD1_3 := HD16.out.2 3 _ rfl
        have kR0_z := HR06.out.1
        have kR0_0 := HR06.out.2 0 _ rfl
        have kR0_1 := HR06.out.2 1 _ rfl
        have kR0_2 := HR06.out.2 2 _ rfl
        have kR0_3 := HR06.out.2 3 _ rfl
        have kY_z := HY6.out.1
        have kY_0 := HY6.out.2 0 _ rfl
        have kY_1 := HY6.out.2 1 _ rfl
        have kY_2 := HY6.out.2 2 _ rfl
        have kR1_z := HR16.out.1
        have kR1_0 := HR16.out.2 0 _ rfl
        have kR1_1 := HR16.out.2 1 _ rfl
        have kR1_2 := HR16.out.2 2 _ rfl
        have kR1_3 := HR16.out.2 3 _ rfl
        go_wp2_with fail
        clear kX_z kX_0 kX_1 kX_2 kD1_z kD1_0 kD1_1 kD1_2 kD1_3 kR0_z kR0_0 kR0_1 kR0_2 kR0_3 kY_z kY_0 kY_1 kY_2 kR1_z kR1_0 kR1_1 kR1_2 kR1_3
        refine (eqWalker_same _ (bkV W0 H0 n0 zs0 x1 y1 dx1 dy1 (x1 + dx1)) (bkV W0 H0 n0 zs0 x1 y1 dx1 dy1 (y1 + dy1)) (bkV W0 H0 n0 zs0 x1 y1 dx1 dy1 (stDX W0 H0 zs0 x1 y1 dx1 dy1)) (bkV W0 H0 n0 zs0 x1 y1 dx1 dy1 (stDY W0 H0 zs0 x1 y1 dx1 dy1))).mono ?_
        rintro e w9 ⟨rfl, b9⟩
        have HX9 := Lib.hid (HX6.out.below b9 HX6.out.1)
        have HD19 := Lib.hid (HD16.out.below b9 HD16.out.1)
        have HT9 := Lib.hid (HT6.out.below b9 HT6.out.1)
        have HR09 := Lib.hid (HR06.out.below b9 HR06.out.1)
        have HY9 := Lib.hid (HY6.out.below b9 HY6.out.1)
        have HR19 := Lib.hid (HR16.out.below b9 HR16.out.1)
        have HB9 := Lib.hid (HB6.out.trans (b9.mono HB6.out.size))
        have HA9 := Lib.hid (HA6.out.below b9 (Nat.le_refl _))
        have HR9 := Lib.hid (HR6.out.below b9 (Nat.le_refl _))
        clear b9 HB6 HA6 HR6
        clear HX6 HD16 HT6 HR06 HY6 HR16
        have kX_z := HX9.out.1
        have kX_0 := HX9.out.2 0 _ rfl
        have kX_1 := HX9.out.2 1 _ rfl
        have kX_2 := HX9.out.2 2 _ rfl
        have kD1_z := HD19.out.1
        have kD1_0 := HD19.out.2 0 _ rfl
        have kD1_1 := HD19.out.2 1 _ rfl
        have kD1_2 := HD19.out.2 2 _ rfl
        have kD1_3 := HD19.out.2 3 _ rfl
        have kR0_z := HR09.out.1
        have kR0_0 := HR09.out.2 0 _ rfl
        have kR0_1 := HR09.out.2 1 _ rfl
        have kR0_2 := HR09.out.2 2 _ rfl
        have kR0_3 := HR09.out.2 3 _ rfl
        have kY_z := HY9.out.1
        have kY_0 := HY9.out.2 0 _ rfl
        have kY_1 := HY9.out.2 1 _ rfl
        have kY_2 := HY9.out.2 2 _ rfl
        have kR1_z := HR19.out.1
        have kR1_0 := HR19.out.2 0 _ rfl
        have kR1_1 := HR19.out.2 1 _ rfl
        have kR1_2 := HR19.out.2 2 _ rfl
        have kR1_3 := HR19.out.2 3 _ rfl
        have hv1 : ((wkC W0 H0 n0 zs0 x1 y1 dx1 dy1) != (wkC W0 H0 n0 zs0 x1 y1 dx1 dy1)) = false := by simp
        have OL := Lib.hid (Old.mk_ (Below.refl w9.heap.size w9).drew)
        go_wp2
        go_region_held3 (fun w' => (∀ b o, b < w9.heap.size → w'.cell? ⟨b, o, none⟩ = w9.cell? ⟨b, o, none⟩) ∧ Below w9.heap.size w9 w')
          (first | assumption | exact OL.out | exact Old.trans (by assumption) (by assumption))
          (first | (go_at_call 15; refine (toPanel_any _ W0 H0 A0 n0 c0 zs0 ?_ hn20).mono ?_; exact HA9.out.old (by assumption); rintro e w7 ⟨bz, rfl, hbz, hrow7, b7⟩) | (go_at_call 19; refine (eqPanel_same _ W0 H0 _ _ n0 n0 n0 zs0 ?_ ?_).mono ?_; exact HR9.out.old (by assumption); exact Row.of_rowIs hrow7 hn63 HW.out; rintro e w8 ⟨rfl, b8⟩))
        rename_i hS
        have hB := hS.2
        clear hS
        go_wp2
        go_ret
        exact ⟨rfl, HB9.out.trans (hB.mono HB9.out.size)⟩
  · have hs : 1048576 < (n0 : Int) := by omega
    go_enter Tryd.func3, Tryd.ntmps3
    go_wp2_with fail
    refine (sz_no _ W0 H0 A0 n0 c0 1048576 (by omega) (by omega) hnm hs).mono ?_
    rintro e w1 ⟨rfl, b1⟩
    go_wp2
    go_ret
    exact ⟨rfl, Below.trans (show Below w.heap.size w ((w.alloc (.cells #[.int .i64 W0, .int .i64 H0, .slice A0 n0 c0] 24)).alloc (.cells #[.int .i64 x1, .int .i64 y1, .int .i64 dx1, .int .i64 dy1] 28)) from (((Below.refl w.heap.size w).alloc (by simp) _).alloc (by simp) _)) (b1.mono (by first | (simp; done) | (simp; omega)))⟩

set_option maxRecDepth 100000 in
theorem contract (H : Type) (enc : TypeId × Value → H) (W : World) (base : Nat) (args : Array Value) (ds gs : List (DataW H)) (before : List MemPlace)
    (hval0 : ∀ (j : Nat) t v, Tryd.f3.params[j]? = some t → args[j]? = some v → Value.okWide Tryd.prog W .any base t v)
    (hW : DataW.Whole enc Tryd.prog Tryd.f3.params.toList Rows.fnExactStepWalkerSpec.vars false W args.toList ds gs before) (hL : laidMetH Tryd.prog Rows.fnExactStepWalkerRow.laid W) :
    Calls Tryd.prog 3 args W fun e W' => ∃ v, e = .returned v ∧ Rows.fnExactStepWalkerSpec.post enc Tryd.prog Tryd.f3 false true false false W args v W' := by
  have hval : ∀ (j : Nat) t v, Tryd.f3.params[j]? = some t → args[j]? = some v → Value.okWide Tryd.prog W .any base t v := hval0
  have hW' := hW
  obtain ⟨p, q, hA0, hV, rfl, hfz, hnd⟩ := hW
  have hA : DataW.TrodAll enc Tryd.prog W 0 (fun _ => true) true Tryd.f3.params.toList args.toList ds p := hA0
  rw [Tryd.params3] at hA hval
  obtain ⟨v0, vs0, d0, ds0, p0, q0, hargs, rfl, rfl, h0, tl0⟩ := trodAll_cons hA
  obtain ⟨v1, vs1, d1, ds1, p1, q1, rfl, rfl, rfl, h1, tl1⟩ := trodAll_cons tl0
  obtain ⟨rfl, rfl, rfl⟩ := trodAll_nil tl1
  obtain rfl : args = #[v0, v1] := by cases args; simp_all
  have k0 := h0
  have lt0 : ∀ x ∈ p0, x.block < W.heap.size := by obtain ⟨m, hm⟩ := k0; exact DataW.trod_lt m _ _ _ hm
  have k1 := h1
  have lt1 : ∀ x ∈ p1, x.block < W.heap.size := by obtain ⟨m, hm⟩ := k1; exact DataW.trod_lt m _ _ _ hm
  obtain ⟨u00, u01, u02, y00, y01, y02, m0, rfl, rfl, hp0, g00, g01, g02⟩ := open_agg3 Tryd.underlying24 (by kernel_rfl) (by kernel_rfl) (hval 0 24 v0 rfl rfl) h0
  obtain ⟨W0, e00, -, wW0⟩ := DataW.trod_int Tryd.underlying2 g00
  obtain ⟨H0, e01, -, wH0⟩ := DataW.trod_int Tryd.underlying2 g01
  simp at e00 e01
  subst e00 e01
  obtain ⟨A0, n0, c0, zs0, e02, r0⟩ := row_of Tryd.underlying22 Tryd.underlying2 (by kernel_rfl) g02 (fun x hx => lt0 x (by rw [hp0]; simp [hx]))
  simp at e02
  subst e02
  obtain ⟨x1, y1, dx1, dy1, rfl, wx1, wy1, wdx1, wdy1⟩ := open_walker Tryd.underlying28 Tryd.underlying26 Tryd.underlying2 Tryd.underlying2 Tryd.underlying2 Tryd.underlying2 rfl (by kernel_rfl) (hval 1 28 v1 rfl rfl) h1
  clear hA0 hval0
  refine (walk W (table hL) W0 H0 A0 n0 c0 zs0 wW0 wH0 r0 x1 y1 dx1 dy1 wx1 wy1 wdx1 wdy1).mono fun e W' ⟨he, bel⟩ => ?_
  subst he
  match gs, hV with
  | [g1], hV =>
    exact ⟨_, rfl, _, _, _, [], _, q, hW', trodAll_mk1 (shut_bool Tryd.underlying4 _), (trodAll_cons_mk (Below.trod laidOut (by kernel_rfl) (of_decide_eq_true (by kernel_rfl)) k0 bel lt0) (trodAll_cons_mk (Below.trod laidOut (by kernel_rfl) (of_decide_eq_true (by kernel_rfl)) k1 bel lt1) trodAll_mk0)), Below.trodVars laidOut bel (by kernel_rfl) hV, bel.frame _, fun h => by cases h⟩

/-- A WORLD FOR THE WITNESS: the settled one, the table holding what its initialiser lays. -/
noncomputable def laidWorld (os : Os) : World :=
  { World.holding Tryd.prog os ⟨#[], #[], []⟩ with heap := (World.holding Tryd.prog os ⟨#[], #[], []⟩).heap.modify 0 fun
      | .cells _ t frozen => .cells #[.int .i64 1, .int .i64 1, .int .i64 (-1), .int .i64 1, .int .i64 1, .int .i64 (-1)] t frozen
      | o => o }
theorem laid_met (os : Os) : laidMet Tryd.prog Rows.fnExactStepWalkerRow.laid ((laidWorld os).forCall (fun _ _ => 0) ⟨#[], #[.agg #[.int .i64 0, .int .i64 0, .slice none 0 0], .agg #[.int .i64 0, .int .i64 0, .int .i64 0, .int .i64 0]], []⟩).memory :=
  laidMet_of_run' 8 (by kernel_rfl) (by kernel_rfl)
theorem reads (os : Os) {H : Type} (enc : TypeId × Value → H) : ∃ gs places, DataW.whole enc Tryd.prog ((laidWorld os).forCall (fun _ _ => 0) ⟨#[], #[.agg #[.int .i64 0, .int .i64 0, .slice none 0 0], .agg #[.int .i64 0, .int .i64 0, .int .i64 0, .int .i64 0]], []⟩).memory Tryd.f3.params.toList Rows.fnExactStepWalkerSpec.vars false (#[.agg #[.int .i64 0, .int .i64 0, .slice none 0 0], .agg #[.int .i64 0, .int .i64 0, .int .i64 0, .int .i64 0]] : Array Value).toList 8 = some ([.agg [.lit (.int .i64 0), .lit (.int .i64 0), .nil], .agg [.agg [.lit (.int .i64 0), .lit (.int .i64 0)], .lit (.int .i64 0), .lit (.int .i64 0)]], gs, places) :=
  ⟨[Rows.laid_loop_example_g00931_impl_turns], [.cell 0 0, .cell 0 1, .cell 0 2, .cell 0 3, .cell 0 4, .cell 0 5], by kernel_rfl⟩

set_option maxRecDepth 100000 in
theorem lifted (os : Os) (started : os.Started) (H : Type) (enc : TypeId × Value → H) (F : Stop.Interp) :
    ReturnsInHanded {} Tryd.checked os 3 .any ((OpenSpec.ofChange Rows.fnExactStepWalkerSpec).preRow enc Tryd.prog Tryd.f3 Rows.fnExactStepWalkerRow.domain false Rows.fnExactStepWalkerRow.laid) (((OpenSpec.ofChange Rows.fnExactStepWalkerSpec).at F).post enc Tryd.prog Tryd.f3 false true false false) := by
  obtain ⟨gs, places, hx⟩ := reads os enc
  refine returnsInHanded_of_row (C := Tryd.checked) (s := OpenSpec.ofChange Rows.fnExactStepWalkerSpec) own started (by kernel_rfl) Tryd.func3
    (witness_row_at (enc := enc) (C := Tryd.checked) false (laidWorld os) #[.agg #[.int .i64 0, .int .i64 0, .slice none 0 0], .agg #[.int .i64 0, .int .i64 0, .int .i64 0, .int .i64 0]] rfl (by kernel_rfl) (by kernel_rfl) (by kernel_rfl)
      (OpenSpec.preRow_of_cond 8 hx (by kernel_rfl) (fun k hk => by cases hk) (by kernel_rfl) (laid_met os))) ?_
  intro W base args ds gs before hval hW _ _ _ hL _ _
  exact contract H enc W base args ds gs before hval hW hL

theorem said : Rows.FnExactStepWalkerSaid :=
  OpenClaim.holds_of_cond 3 Tryd.f3 rfl rfl rfl rfl rfl rfl rfl ⟨rfl, rfl, rfl, rfl, rfl⟩ rfl rfl rfl rfl rfl (by kernel_rfl) Tryd.func3 (by kernel_rfl)
    (of_decide_eq_true (by kernel_rfl)) (by unfold Func.isWrapper; first | (rw [if_pos (by decide +kernel)]; kernel_rfl) | (rw [if_neg (by decide +kernel)]; exact ⟨rfl, rfl⟩))
    (fun os started H enc _ F => by rw [OpenClaim.pre_eq_preRow]; exact lifted os started H enc F)


theorem plain (f : FuncId) (fn : Func) (hf : Tryd.pinned.checked.prog.funcNamed "loop.example/g00931/laws.FnExactStepWalker" = some f) (hfn : Tryd.pinned.checked.prog.funcs[f]? = some fn) :
    false = Tryd.pinned.checked.prog.looks [] ∧ ∀ (j : Nat) t, fn.params[j]? = some t → Tryd.pinned.checked.prog.wantsStandIn t = false := by
  obtain rfl : f = 3 := Option.some.inj ((show Tryd.prog.funcNamed "loop.example/g00931/laws.FnExactStepWalker" = some 3 by kernel_rfl).symm.trans hf) |>.symm
  obtain rfl : fn = Tryd.f3 := (Option.some.inj (Tryd.func3.symm.trans hfn)).symm
  refine ⟨by kernel_rfl, fun j t ht => ?_⟩
  rw [Tryd.params3] at ht
  match j, ht with
  | 0, ht =>
    have e : t = 24 := by simpa using ht.symm
    subst e
    exact (show Tryd.prog.wantsStandIn 24 = false by kernel_rfl)
  | 1, ht =>
    have e : t = 28 := by simpa using ht.symm
    subst e
    exact (show Tryd.prog.wantsStandIn 28 = false by kernel_rfl)
  | j + 2, ht => simp at ht

theorem card : Rows.FnExactStepWalkerCardSaid :=
  Claim7.holds_tied_plain_at .later [] _ _ _ _ said (fun _ h => by cases h) (by kernel_rfl) (fun _ h => by cases h) fnExactStepWalker_row_tie rfl ⟨rfl, rfl⟩ (by kernel_rfl) rfl plain (by kernel_rfl)
#print axioms card
end Go.Proofs.YtajikegfladelaaDoor.fnExactStepWalker
