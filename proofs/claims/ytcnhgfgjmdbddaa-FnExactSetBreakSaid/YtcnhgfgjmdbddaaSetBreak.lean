/- Proved: whatever panel (of at most 2^20 breaks; for larger ones the law answers true at once) (and whatever other arguments) SetBreak of the program is called with, it answers as the model, every field, and changes nothing; its panel's memory is its own. No condition. -/
import Derived.Test.YtcnhgfgjmdbddaaRows
import Derived.Test.YtcnhgfgjmdbddaaBase
import Derived.Test.YtcnhgfgjmdbddaaPan
import Derived.Test.YtcnhgfgjmdbddaaPanB
import Derived.Test.YtcnhgfgjmdbddaaCopy
import Derived.Test.YtcnhgfgjmdbddaaMark
import Derived.Test.YtcnhgfgjmdbddaaNew
import Derived.Test.YtcnhgfgjmdbddaaClone
import Derived.Test.YtcnhgfgjmdbddaaOwn
import Derived.Test.YtcnhgfgjmdbddaaSet
import Derived.Test.YtcnhgfgjmdbddaaSetB
import Derived.Test.YtcnhgfgjmdbddaaSetC
import Derived.Test.YtcnhgfgjmdbddaaStab
import Derived.Test.YtcnhgfgjmdbddaaHeap
import Derived.Test.YtcnhgfgjmdbddaaShape
import Derived.WalkKit
import Derived.ProofKit
import Derived.OpenShut
import Derived.ShutString
import Derived.ChangeOld
import Derived.Below
import Derived.Lib.SmallJoins
namespace Go.Proofs.Ytcnhgfgjmdbddaa.fnExactSetBreak
open Go.ChangeShapes Go.WideShapes Go.ChangeAt Go.RowKit Go.Joins
open Go.ChangeMaps (open_string shut_string)
open Go.Proofs.Ytcnhgfgjmdbddaa.Base
set_option linter.unusedVariables false
theorem own : ownKnob Try.prog.godebug = none := by kernel_rfl
theorem laidOut : laidOutB Try.prog = true := by kernel_rfl

set_option maxHeartbeats 4000000 in
theorem core (w : World) (W0 H0 : Int) (A0 : Option Addr) (n0 c0 : Nat) (zs0 : Nat → Int) (r0 : Row .i64 w A0 n0 c0 zs0) (x1 y1 a2 : Int) (W H code : Int) (n : Nat) (f : Nat → Int) (hs : (n0 : Int) ≤ 1048576) (hn2 : n ≤ 1048576)
    (HS : Hid (∀ (w : World) (A : Option Addr) (c : Nat), Row .i64 w A n0 c zs0 → Calls Try.prog 13 #[.agg #[.int .i64 W0, .int .i64 H0, .slice A n0 c], .agg #[.int .i64 x1, .int .i64 y1], .int .i64 a2] w (PanelOut W H n f code w)))
    (HI : Hid (∀ (w : World) (A : Option Addr) (c : Nat), Row .i64 w A n0 c zs0 → Calls Try.prog 16 #[.agg #[.int .i64 W0, .int .i64 H0, .slice A n0 c], .agg #[.int .i64 x1, .int .i64 y1], .int .i64 a2] w (PanelOut W H n f code w))) :
    Calls Try.prog 3 #[.agg #[.int .i64 W0, .int .i64 H0, .slice A0 n0 c0], .agg #[.int .i64 x1, .int .i64 y1], .int .i64 a2] w fun e w' => e = .returned (.bool true) ∧ Below w.heap.size w w' := by
  have HR := Lib.hid r0
  have HQA : Hid (0 < n0 → ∀ b, blk A0 = some b → b < w.heap.size) := Lib.hid (row_blk r0)
  clear r0
  have hn20 : n0 ≤ 1048576 := by omega
  have hn63 : n0 ≤ maxLen := by unfold maxLen; omega
  have HW := Lib.hid HR.out.2.2.1
  have hcc : (code != code) = false := by simp
  have hm : ((1 + (n : Int)) != 1 + (n : Int)) = false := by simp
  go_enter Try.func3, Try.ntmps3
  go_wp2_with fail
  refine (sz_yes _ W0 H0 A0 n0 c0 1048576 (by omega) (by omega) hs).mono ?_
  rintro e w1 ⟨rfl, b1⟩
  have HB1 := Lib.hid (Below.trans (show Below w.heap.size w ((w.alloc (.cells #[.int .i64 W0, .int .i64 H0, .slice A0 n0 c0] 24)).alloc (.cells #[.int .i64 x1, .int .i64 y1] 26)) from (((Below.refl w.heap.size w).alloc (by simp) _).alloc (by simp) _)) (b1.mono (by first | (simp; done) | (simp; omega))))
  have HX1 : Hid (Cel w1 (w.heap.size) [.int .i64 W0, .int .i64 H0, .slice A0 n0 c0]) := Lib.hid (by have h := (((Cel.new w [.int .i64 W0, .int .i64 H0, .slice A0 n0 c0] 24).below ((Below.refl _ (w.alloc (.cells #[.int .i64 W0, .int .i64 H0, .slice A0 n0 c0] 24))).alloc (Nat.le_refl _) (.cells #[.int .i64 x1, .int .i64 y1] 26)) (by simp)).below b1 (by first | (simp; done) | (simp; omega))); simpa using h)
  have HD11 : Hid (Cel w1 (w.heap.size + 1) [.int .i64 x1, .int .i64 y1]) := Lib.hid (by have h := ((Cel.new (w.alloc (.cells #[.int .i64 W0, .int .i64 H0, .slice A0 n0 c0] 24)) [.int .i64 x1, .int .i64 y1] 26).below b1 (by first | (simp; done) | (simp; omega))); simpa using h)
  have rA1 := Lib.hid (HR.out.below HB1.out (Nat.le_refl _))
  have z1 := HB1.out.size
  have z1_0 : w.heap.size < w1.heap.size := HX1.out.1
  have z1_1 : w.heap.size + 1 < w1.heap.size := HD11.out.1
  clear b1 HR
  have kX_z := HX1.out.1
  have kX_0 := HX1.out.2 0 _ rfl
  have kX_1 := HX1.out.2 1 _ rfl
  have kX_2 := HX1.out.2 2 _ rfl
  have kD1_z := HD11.out.1
  have kD1_0 := HD11.out.2 0 _ rfl
  have kD1_1 := HD11.out.2 1 _ rfl
  go_wp2_with fail
  refine wp_region_stab [some 24, some 25, some 26, some 27, some 28, some 29, some 23, some 30, some 31, some 8, none, some 9] [24, 25, 26, 27, 28, 29, 23, 30, 31, 8, 9] [] [(10, 9)]
    [(fun a lo hi v w' => v = .agg #[.int .i64 W0, .int .i64 H0, .slice A0 n0 c0]),
      (fun a lo hi v w' => ∃ A c, v = .agg #[.int .i64 W0, .int .i64 H0, .slice A n0 c] ∧ OwnIn w' lo hi A n0 c zs0),
      (fun a lo hi v w' => v = .agg #[.int .i64 x1, .int .i64 y1]),
      (fun a lo hi v w' => v = .agg #[.int .i64 x1, .int .i64 y1]),
      (fun a lo hi v w' => v = .int .i64 a2),
      (fun a lo hi v w' => ∃ A c, v = .tuple #[.agg #[.int .i64 W, .int .i64 H, .slice A n c], .int .i64 code] ∧ OwnIn w' lo hi A n c f),
      (fun a lo hi v w' => v = a.getD 0 undef),
      (fun a lo hi v w' => ∃ A c, a.getD 1 undef = .tuple #[.agg #[.int .i64 W, .int .i64 H, .slice A n c], .int .i64 code] ∧ v = .agg #[.int .i64 W, .int .i64 H, .slice A n c]),
      (fun a lo hi v w' => v = .int .i64 code),
      (fun a lo hi v w' => v = .pointer (some ⟨lo, 0, none⟩) ∧ hi = lo + 1 ∧ At w' lo #[.int .i64 0, .int .i64 0, .slice none 0 0] 28),
      (fun a lo hi v w' => ∃ A c, a.getD 0 undef = .pointer (some ⟨lo, 0, none⟩) ∧ a.getD 1 undef = .agg #[.int .i64 W, .int .i64 H, .slice A n c] ∧ lo < hi ∧ At w' lo #[.int .i64 W, .int .i64 H, .slice A n c] 28),
      (fun a lo hi v w' => v = .int .i64 code)]
    [[], [0], [], [2], [], [1, 3, 4], [5], [6, 5], [6, 5], [], [9, 7], [8]] [[], [], [], [], [], [], [29], [23, 29], [], [], [8, 30], []] (by kernel_rfl) (by kernel_rfl) (fun k hk => absurd hk List.not_mem_nil) ?gS ?gO ?gR
  case gS => exact ⟨fun _ _ _ _ _ _ h _ => h, fun _ _ _ _ _ _ ⟨A, c, h1, h2⟩ e => ⟨A, c, h1, h2.same e⟩, fun _ _ _ _ _ _ h _ => h, fun _ _ _ _ _ _ h _ => h, fun _ _ _ _ _ _ h _ => h, fun _ _ _ _ _ _ ⟨A, c, h1, h2⟩ e => ⟨A, c, h1, h2.same e⟩, fun _ _ _ _ _ _ h _ => h, fun _ _ _ _ _ _ h _ => h, fun _ _ _ _ _ _ h _ => h, fun _ _ _ _ _ _ ⟨h1, h2, h3⟩ e => ⟨h1, h2, h3.same e (.inr ⟨Nat.le_refl _, by omega⟩)⟩, fun _ _ _ _ _ _ ⟨A, c, h1, h2, h3, h4⟩ e => ⟨A, c, h1, h2, h3, h4.same e (.inr ⟨Nat.le_refl _, h3⟩)⟩, fun _ _ _ _ _ _ h _ => h, trivial⟩
  case gO =>
    refine ⟨?o0, ?o1, ?o2, ?o3, ?o4, ?o5, ?o6, ?o7, ?o8, ?o9, ?o10, ?o11, trivial⟩
    case o0 =>
      intro vs iv wk hx hf
      have ezz : w.heap.size < wk.heap.size := Nat.lt_of_lt_of_le kX_z hx.size
      have e0 : wk.cell? ⟨w.heap.size, 0, none⟩ = some (.int .i64 W0) := hx.cell kX_0 (by simp)
      have e1 : wk.cell? ⟨w.heap.size, 1, none⟩ = some (.int .i64 H0) := hx.cell kX_1 (by simp)
      have e2 : wk.cell? ⟨w.heap.size, 2, none⟩ = some (.slice A0 n0 c0) := hx.cell kX_2 (by simp)
      intro K' hK
      simp only [setA, setT, List.setIfInBounds_toArray, List.set_cons_zero, List.set_cons_succ]
      go_simp
      refine hK.out _ (.agg #[.int .i64 W0, .int .i64 H0, .slice A0 n0 c0]) _ ?_ ?_
      · simp only [setA, setT, List.setIfInBounds_toArray, List.set_cons_zero, List.set_cons_succ, Act.put]
      · exact ⟨Ext.refl _ _, rfl⟩
    case o1 =>
      intro vs iv wk hx hf
      obtain ⟨⟨hq0, -⟩, -⟩ := hf
      have hq0 : vs 24 = .agg #[.int .i64 W0, .int .i64 H0, .slice A0 n0 c0] := hq0
      intro K' hK
      simp only [setA, setT, List.setIfInBounds_toArray, List.set_cons_zero, List.set_cons_succ]
      go_simp
      refine (toPanel_own _ W0 H0 A0 n0 c0 zs0 ?_ hn20).mono ?_
      · exact rA1.out.ext0 ((Ext.drew _).trans hx)
      rintro e w2 ⟨A, c, rfl, hO, b2⟩
      dsimp only
      refine hK.out _ (.agg #[.int .i64 W0, .int .i64 H0, .slice A n0 c]) _ ?_ ?_
      · simp only [setA, setT, List.setIfInBounds_toArray, List.set_cons_zero, List.set_cons_succ, Act.put, hq0]
      · exact ⟨Ext.of_below b2, A, c, rfl, OwnIn.of_own hO (Nat.le_refl _)⟩
    case o2 =>
      intro vs iv wk hx hf
      have ezz : w.heap.size + 1 < wk.heap.size := Nat.lt_of_lt_of_le kD1_z hx.size
      have e0 : wk.cell? ⟨w.heap.size + 1, 0, none⟩ = some (.int .i64 x1) := hx.cell kD1_0 (by simp)
      have e1 : wk.cell? ⟨w.heap.size + 1, 1, none⟩ = some (.int .i64 y1) := hx.cell kD1_1 (by simp)
      intro K' hK
      simp only [setA, setT, List.setIfInBounds_toArray, List.set_cons_zero, List.set_cons_succ]
      go_simp
      refine hK.out _ (.agg #[.int .i64 x1, .int .i64 y1]) _ ?_ ?_
      · simp only [setA, setT, List.setIfInBounds_toArray, List.set_cons_zero, List.set_cons_succ, Act.put]
      · exact ⟨Ext.refl _ _, rfl⟩
    case o3 =>
      intro vs iv wk hx hf
      obtain ⟨⟨hq2, -⟩, -⟩ := hf
      have hq2 : vs 26 = .agg #[.int .i64 x1, .int .i64 y1] := hq2
      intro K' hK
      simp only [setA, setT, List.setIfInBounds_toArray, List.set_cons_zero, List.set_cons_succ]
      go_simp
      refine (toPoint_any _ x1 y1).mono ?_
      rintro e w2 ⟨rfl, b2⟩
      dsimp only
      refine hK.out _ (.agg #[.int .i64 x1, .int .i64 y1]) _ ?_ ?_
      · simp only [setA, setT, List.setIfInBounds_toArray, List.set_cons_zero, List.set_cons_succ, Act.put, hq2]
      · exact ⟨Ext.of_below b2, rfl⟩
    case o4 =>
      intro vs iv wk hx hf
      intro K' hK
      simp only [setA, setT, List.setIfInBounds_toArray, List.set_cons_zero, List.set_cons_succ]
      go_simp
      refine hK.out _ (.int .i64 a2) _ ?_ ?_
      · simp only [setA, setT, List.setIfInBounds_toArray, List.set_cons_zero, List.set_cons_succ, Act.put]
      · exact ⟨Ext.refl _ _, rfl⟩
    case o5 =>
      intro vs iv wk hx hf
      obtain ⟨⟨⟨Aq1, cq1, hq1, hOq1⟩, -⟩, ⟨hq3, -⟩, ⟨hq4, -⟩, -⟩ := hf
      have hq1 : vs 25 = .agg #[.int .i64 W0, .int .i64 H0, .slice Aq1 n0 cq1] := hq1
      have hq3 : vs 27 = .agg #[.int .i64 x1, .int .i64 y1] := hq3
      have hq4 : vs 28 = .int .i64 a2 := hq4
      intro K' hK
      simp only [setA, setT, List.setIfInBounds_toArray, List.set_cons_zero, List.set_cons_succ]
      go_simp
      refine Calls.mono (HS.out _ _ _ ?_) ?_
      · exact hOq1.row
      rintro e w2 ⟨A, c, rfl, hO, b2⟩
      dsimp only
      refine hK.out _ (.tuple #[.agg #[.int .i64 W, .int .i64 H, .slice A n c], .int .i64 code]) _ ?_ ?_
      · simp only [setA, setT, List.setIfInBounds_toArray, List.set_cons_zero, List.set_cons_succ, Act.put, hq1, hq3, hq4]
      · exact ⟨Ext.of_below b2, A, c, rfl, OwnIn.of_own hO (Nat.le_refl _)⟩
    case o6 =>
      intro vs iv wk hx hf
      intro K' hK
      simp only [setA, setT, List.setIfInBounds_toArray, List.set_cons_zero, List.set_cons_succ]
      go_simp
      refine hK.out _ (vs 29) _ ?_ ?_
      · simp only [setA, setT, List.setIfInBounds_toArray, List.set_cons_zero, List.set_cons_succ, Act.put]
      · exact ⟨Ext.refl _ _, rfl⟩
    case o7 =>
      intro vs iv wk hx hf
      obtain ⟨⟨h6, -⟩, ⟨⟨A, c, h5, -⟩, -⟩, -⟩ := hf
      have h5 : vs 29 = .tuple #[.agg #[.int .i64 W, .int .i64 H, .slice A n c], .int .i64 code] := h5
      have h6 : vs 23 = .tuple #[.agg #[.int .i64 W, .int .i64 H, .slice A n c], .int .i64 code] := h6.trans h5
      intro K' hK
      simp only [setA, setT, List.setIfInBounds_toArray, List.set_cons_zero, List.set_cons_succ]
      go_simp
      refine hK.out _ (.agg #[.int .i64 W, .int .i64 H, .slice A n c]) _ ?_ ?_
      · simp only [setA, setT, List.setIfInBounds_toArray, List.set_cons_zero, List.set_cons_succ, Act.put, h5, h6]
      · exact ⟨Ext.refl _ _, A, c, h5, rfl⟩
    case o8 =>
      intro vs iv wk hx hf
      obtain ⟨⟨h6, -⟩, ⟨⟨A, c, h5, -⟩, -⟩, -⟩ := hf
      have h5 : vs 29 = .tuple #[.agg #[.int .i64 W, .int .i64 H, .slice A n c], .int .i64 code] := h5
      have h6 : vs 23 = .tuple #[.agg #[.int .i64 W, .int .i64 H, .slice A n c], .int .i64 code] := h6.trans h5
      intro K' hK
      simp only [setA, setT, List.setIfInBounds_toArray, List.set_cons_zero, List.set_cons_succ]
      go_simp
      refine hK.out _ (.int .i64 code) _ ?_ ?_
      · simp only [setA, setT, List.setIfInBounds_toArray, List.set_cons_zero, List.set_cons_succ, Act.put, h5, h6]
      · exact ⟨Ext.refl _ _, rfl⟩
    case o9 =>
      intro vs iv wk hx hf
      intro K' hK
      simp only [setA, setT, List.setIfInBounds_toArray, List.set_cons_zero, List.set_cons_succ]
      go_simp
      refine hK.out _ (.pointer (some ⟨wk.heap.size, 0, none⟩)) _ ?_ ?_
      · simp only [setA, setT, List.setIfInBounds_toArray, List.set_cons_zero, List.set_cons_succ, Act.put]
      · exact ⟨Ext.alloc _ _, rfl, by simp, At.new _ _ _⟩
    case o10 =>
      intro vs iv wk hx hf
      obtain ⟨⟨⟨h9, hhi, hA9⟩, -⟩, ⟨⟨A, c, -, h7⟩, -⟩, -⟩ := hf
      have h9 : vs 8 = .pointer (some ⟨(iv 9).1, 0, none⟩) := h9
      have h7 : vs 30 = .agg #[.int .i64 W, .int .i64 H, .slice A n c] := h7
      have hA9 : At wk (iv 9).1 #[.int .i64 0, .int .i64 0, .slice none 0 0] 28 := hA9
      have hhi : (iv 9).2 = (iv 9).1 + 1 := hhi
      have q0 := hA9.cell 0
      have f0 := hA9.frozen 0
      have q1 := hA9.cell 1
      have f1 := hA9.frozen 1
      have q2 := hA9.cell 2
      have f2 := hA9.frozen 2
      simp only [List.getElem?_toArray, List.getElem?_cons_zero, List.getElem?_cons_succ] at q0 q1 q2
      have hlt9 : (iv 9).1 < (iv 9).2 := by omega
      have HA9 := Lib.hid hA9
      clear hA9 hhi
      have HLT := Lib.hid hlt9
      clear hlt9
      intro K' hK
      simp only [setA, setT, List.setIfInBounds_toArray, List.set_cons_zero, List.set_cons_succ]
      go_simp
      refine hK.out _ (undef) _ ?_ ?_
      · simp only [setA, setT, List.setIfInBounds_toArray, List.set_cons_zero, List.set_cons_succ, Act.put, h9, h7]
      · exact ⟨HLT.out, ((Ext.set _ _ _ (by simp)).trans (Ext.set _ _ _ (by simp))).trans (Ext.set _ _ _ (by simp)), A, c, h9, h7, HLT.out, ((HA9.out.set 0 _).set 1 _).set 2 _⟩
    case o11 =>
      intro vs iv wk hx hf
      obtain ⟨⟨hq8, -⟩, -⟩ := hf
      have hq8 : vs 31 = .int .i64 code := hq8
      intro K' hK
      simp only [setA, setT, List.setIfInBounds_toArray, List.set_cons_zero, List.set_cons_succ]
      go_simp
      refine hK.out _ (.int .i64 code) _ ?_ ?_
      · simp only [setA, setT, List.setIfInBounds_toArray, List.set_cons_zero, List.set_cons_succ, Act.put, hq8]
      · exact ⟨Ext.refl _ _, rfl⟩
  case gR =>
    intro vs iv w2x hx hap hf
    obtain ⟨-, -, -, -, -, ⟨⟨A5, c5, h5, hO5⟩, i5⟩, -, ⟨⟨A7, c7, h7, h7'⟩, -⟩, -, -, ⟨⟨A9, c9, h9, h9', hlt9, hB9⟩, i9⟩, ⟨h11, -⟩, -⟩ := hf
    have h5 : vs 29 = .tuple #[.agg #[.int .i64 W, .int .i64 H, .slice A5 n c5], .int .i64 code] := h5
    have h7 : vs 29 = .tuple #[.agg #[.int .i64 W, .int .i64 H, .slice A7 n c7], .int .i64 code] := h7
    have h7' : vs 30 = .agg #[.int .i64 W, .int .i64 H, .slice A7 n c7] := h7'
    have h9 : vs 8 = .pointer (some ⟨(iv 9).1, 0, none⟩) := h9
    have h9' : vs 30 = .agg #[.int .i64 W, .int .i64 H, .slice A9 n c9] := h9'
    have h11 : vs 9 = .int .i64 code := h11
    obtain ⟨rfl, rfl⟩ : A7 = A5 ∧ c7 = c5 := by have e := h7.symm.trans h5; simpa using e
    obtain ⟨rfl, rfl⟩ : A9 = A7 ∧ c9 = c7 := by have e := h9'.symm.trans h7'; simpa using e
    have hsep := hap 5 9 (by decide) (by decide) (by decide) rfl rfl
    have hO5 : OwnIn w2x (iv 5).1 (iv 5).2 A9 n c9 f := hO5
    have hlt9 : (iv 9).1 < (iv 9).2 := hlt9
    have hB9 : At w2x (iv 9).1 #[.int .i64 W, .int .i64 H, .slice A9 n c9] 28 := hB9
    have i5 : w1.heap.size ≤ (iv 5).1 := i5.1
    have i9 : w1.heap.size ≤ (iv 9).1 := i9.1
    have HQM : Hid (0 < n → ∀ b, blk A9 = some b → w1.heap.size ≤ b ∧ b < w2x.heap.size ∧ b ≠ (iv 9).1) := Lib.hid (ownIn_blk hO5 i5 hsep hlt9)
    have rM := Lib.hid (hO5.own.mono i5)
    have HCM := Lib.hid (Cel.of_at (cs := [.int .i64 W, .int .i64 H, .slice A9 n c9]) hB9)
    have HZM : Hid (w1.heap.size ≤ (iv 9).1) := Lib.hid i9
    simp only [setA, setT, List.setIfInBounds_toArray, List.set_cons_zero, List.set_cons_succ, h9, h11]
    have bXX := ((Ext.drew _).trans hx).nil
    clear hx hap h5 h7 h7' h9 h9' h11 hsep hO5 hlt9 hB9 i5 i9
    generalize (iv 9).1 = bM at *
    clear kX_z kX_0 kX_1 kX_2 kD1_z kD1_0 kD1_1
    obtain ⟨w2, rfl⟩ : ∃ w' : World, w' = w2x := ⟨_, rfl⟩
    have HX2 := Lib.hid (HX1.out.below bXX HX1.out.1)
    have HD12 := Lib.hid (HD11.out.below bXX HD11.out.1)
    have rA2 := Lib.hid (rA1.out.below bXX (Nat.le_refl _))
    have HB2 := Lib.hid (HB1.out.trans (bXX.mono HB1.out.size))
    have z2 := (bXX).size
    clear HB1 HX1 HD11 rA1
    have HM2 := HCM
    have rM2 := rM
    clear HCM rM bXX
    obtain ⟨AM, rfl⟩ : ∃ A : Option Addr, A = A9 := ⟨_, rfl⟩
    obtain ⟨cM, rfl⟩ : ∃ c : Nat, c = c9 := ⟨_, rfl⟩
    have zbM := HZM.out
    have zlM := HM2.out.1
    clear HZM
    have kX_z := HX2.out.1
    have kX_0 := HX2.out.2 0 _ rfl
    have kX_1 := HX2.out.2 1 _ rfl
    have kX_2 := HX2.out.2 2 _ rfl
    have kD1_z := HD12.out.1
    have kD1_0 := HD12.out.2 0 _ rfl
    have kD1_1 := HD12.out.2 1 _ rfl
    have kM_z := HM2.out.1
    have kM_0 := HM2.out.2 0 _ rfl
    have kM_1 := HM2.out.2 1 _ rfl
    have kM_2 := HM2.out.2 2 _ rfl
    go_wp2_with fail
    refine (toPanel_any _ W0 H0 A0 n0 c0 zs0 rA2.out hn20).mono ?_
    rintro e w4 ⟨bq, rfl, hbq, hrow4, b4⟩
    clear kX_z kX_0 kX_1 kX_2 kD1_z kD1_0 kD1_1 kM_z kM_0 kM_1 kM_2
    have rX4 := Lib.hid (ownRow_of hrow4 (by unfold maxLen; omega) HW.out hbq)
    have hbq2 : bq < w4.heap.size := hrow4.lt
    have HX4 := Lib.hid (HX2.out.below b4 HX2.out.1)
    have HD14 := Lib.hid (HD12.out.below b4 HD12.out.1)
    have HM4 := Lib.hid (HM2.out.below b4 HM2.out.1)
    have rA4 := Lib.hid (rA2.out.below b4 (Nat.le_refl _))
    have rM4 := Lib.hid (rM2.out.below b4 (Nat.le_refl _))
    have HB4 := Lib.hid (HB2.out.trans (b4.mono HB2.out.size))
    have z4 := (b4).size
    clear HB2 HX2 HD12 HM2 rA2 rM2
    clear b4 hrow4
    have kX_z := HX4.out.1
    have kX_0 := HX4.out.2 0 _ rfl
    have kX_1 := HX4.out.2 1 _ rfl
    have kX_2 := HX4.out.2 2 _ rfl
    have kD1_z := HD14.out.1
    have kD1_0 := HD14.out.2 0 _ rfl
    have kD1_1 := HD14.out.2 1 _ rfl
    have kM_z := HM4.out.1
    have kM_0 := HM4.out.2 0 _ rfl
    have kM_1 := HM4.out.2 1 _ rfl
    have kM_2 := HM4.out.2 2 _ rfl
    go_wp2_with fail
    clear kX_z kX_0 kX_1 kX_2 kD1_z kD1_0 kD1_1 kM_z kM_0 kM_1 kM_2
    have bN := (Below.refl w4.heap.size w4).alloc (Nat.le_refl _) (.cells #[.int .i64 W0, .int .i64 H0, .slice (some ⟨bq, 0, none⟩) n0 n0] 28)
    have HY5 := Lib.hid (Cel.new w4 [.int .i64 W0, .int .i64 H0, .slice (some ⟨bq, 0, none⟩) n0 n0] 28)
    have zN : w4.heap.size < (w4.alloc (.cells #[.int .i64 W0, .int .i64 H0, .slice (some ⟨bq, 0, none⟩) n0 n0] 28)).heap.size := by simp
    have HX5 := Lib.hid (HX4.out.below bN HX4.out.1)
    have HD15 := Lib.hid (HD14.out.below bN HD14.out.1)
    have HM5 := Lib.hid (HM4.out.below bN HM4.out.1)
    have rA5 := Lib.hid (rA4.out.below bN (Nat.le_refl _))
    have rM5 := Lib.hid (rM4.out.below bN (Nat.le_refl _))
    have rX5 := Lib.hid (rX4.out.below bN (Nat.le_refl _))
    have HB5 := Lib.hid (HB4.out.trans (bN.mono HB4.out.size))
    have z5 := (bN).size
    clear HB4 HX4 HD14 HM4 rA4 rM4 rX4
    clear bN
    generalize w4.alloc (.cells #[.int .i64 W0, .int .i64 H0, .slice (some ⟨bq, 0, none⟩) n0 n0] 28) = w5 at *
    generalize w4.heap.size = bY at *
    have kX_z := HX5.out.1
    have kX_0 := HX5.out.2 0 _ rfl
    have kX_1 := HX5.out.2 1 _ rfl
    have kX_2 := HX5.out.2 2 _ rfl
    have kD1_z := HD15.out.1
    have kD1_0 := HD15.out.2 0 _ rfl
    have kD1_1 := HD15.out.2 1 _ rfl
    have kM_z := HM5.out.1
    have kM_0 := HM5.out.2 0 _ rfl
    have kM_1 := HM5.out.2 1 _ rfl
    have kM_2 := HM5.out.2 2 _ rfl
    have kY_z := HY5.out.1
    have kY_0 := HY5.out.2 0 _ rfl
    have kY_1 := HY5.out.2 1 _ rfl
    have kY_2 := HY5.out.2 2 _ rfl
    refine wp_region_stab [some 35, some 36, some 37, some 38, some 39, some 34, some 40, some 41, some 11, none, some 12] [35, 36, 37, 38, 39, 34, 40, 41, 11, 12] [] [(9, 8)]
      [(fun a lo hi v w' => v = .agg #[.int .i64 W0, .int .i64 H0, .slice (some ⟨bq, 0, none⟩) n0 n0]),
        (fun a lo hi v w' => v = .agg #[.int .i64 x1, .int .i64 y1]),
        (fun a lo hi v w' => v = .agg #[.int .i64 x1, .int .i64 y1]),
        (fun a lo hi v w' => v = .int .i64 a2),
        (fun a lo hi v w' => ∃ A c, v = .tuple #[.agg #[.int .i64 W, .int .i64 H, .slice A n c], .int .i64 code] ∧ OwnIn w' lo hi A n c f),
        (fun a lo hi v w' => v = a.getD 0 undef),
        (fun a lo hi v w' => ∃ A c, a.getD 1 undef = .tuple #[.agg #[.int .i64 W, .int .i64 H, .slice A n c], .int .i64 code] ∧ v = .agg #[.int .i64 W, .int .i64 H, .slice A n c]),
        (fun a lo hi v w' => v = .int .i64 code),
        (fun a lo hi v w' => v = .pointer (some ⟨lo, 0, none⟩) ∧ hi = lo + 1 ∧ At w' lo #[.int .i64 0, .int .i64 0, .slice none 0 0] 28),
        (fun a lo hi v w' => ∃ A c, a.getD 0 undef = .pointer (some ⟨lo, 0, none⟩) ∧ a.getD 1 undef = .agg #[.int .i64 W, .int .i64 H, .slice A n c] ∧ lo < hi ∧ At w' lo #[.int .i64 W, .int .i64 H, .slice A n c] 28),
        (fun a lo hi v w' => v = .int .i64 code)]
      [[], [], [1], [], [0, 2, 3], [4], [5, 4], [5, 4], [], [8, 6], [7]] [[], [], [], [], [], [39], [34, 39], [], [], [11, 40], []] (by kernel_rfl) (by kernel_rfl) (fun k hk => absurd hk List.not_mem_nil) ?gS ?gO ?gR
    case gS => exact ⟨fun _ _ _ _ _ _ h _ => h, fun _ _ _ _ _ _ h _ => h, fun _ _ _ _ _ _ h _ => h, fun _ _ _ _ _ _ h _ => h, fun _ _ _ _ _ _ ⟨A, c, h1, h2⟩ e => ⟨A, c, h1, h2.same e⟩, fun _ _ _ _ _ _ h _ => h, fun _ _ _ _ _ _ h _ => h, fun _ _ _ _ _ _ h _ => h, fun _ _ _ _ _ _ ⟨h1, h2, h3⟩ e => ⟨h1, h2, h3.same e (.inr ⟨Nat.le_refl _, by omega⟩)⟩, fun _ _ _ _ _ _ ⟨A, c, h1, h2, h3, h4⟩ e => ⟨A, c, h1, h2, h3, h4.same e (.inr ⟨Nat.le_refl _, h3⟩)⟩, fun _ _ _ _ _ _ h _ => h, trivial⟩
    case gO =>
      refine ⟨?o0, ?o1, ?o2, ?o3, ?o4, ?o5, ?o6, ?o7, ?o8, ?o9, ?o10, trivial⟩
      case o0 =>
        intro vs iv wk hx hf
        have ezz : bY < wk.heap.size := Nat.lt_of_lt_of_le kY_z hx.size
        have e0 : wk.cell? ⟨bY, 0, none⟩ = some (.int .i64 W0) := hx.cell kY_0 (by simp)
        have e1 : wk.cell? ⟨bY, 1, none⟩ = some (.int .i64 H0) := hx.cell kY_1 (by simp)
        have e2 : wk.cell? ⟨bY, 2, none⟩ = some (.slice (some ⟨bq, 0, none⟩) n0 n0) := hx.cell kY_2 (by simp)
        intro K' hK
        simp only [setA, setT, List.setIfInBounds_toArray, List.set_cons_zero, List.set_cons_succ]
        go_simp
        refine hK.out _ (.agg #[.int .i64 W0, .int .i64 H0, .slice (some ⟨bq, 0, none⟩) n0 n0]) _ ?_ ?_
        · simp only [setA, setT, List.setIfInBounds_toArray, List.set_cons_zero, List.set_cons_succ, Act.put]
        · exact ⟨Ext.refl _ _, rfl⟩
      case o1 =>
        intro vs iv wk hx hf
        have ezz : w.heap.size + 1 < wk.heap.size := Nat.lt_of_lt_of_le kD1_z hx.size
        have e0 : wk.cell? ⟨w.heap.size + 1, 0, none⟩ = some (.int .i64 x1) := hx.cell kD1_0 (by simp)
        have e1 : wk.cell? ⟨w.heap.size + 1, 1, none⟩ = some (.int .i64 y1) := hx.cell kD1_1 (by simp)
        intro K' hK
        simp only [setA, setT, List.setIfInBounds_toArray, List.set_cons_zero, List.set_cons_succ]
        go_simp
        refine hK.out _ (.agg #[.int .i64 x1, .int .i64 y1]) _ ?_ ?_
        · simp only [setA, setT, List.setIfInBounds_toArray, List.set_cons_zero, List.set_cons_succ, Act.put]
        · exact ⟨Ext.refl _ _, rfl⟩
      case o2 =>
        intro vs iv wk hx hf
        obtain ⟨⟨hq1, -⟩, -⟩ := hf
        have hq1 : vs 36 = .agg #[.int .i64 x1, .int .i64 y1] := hq1
        intro K' hK
        simp only [setA, setT, List.setIfInBounds_toArray, List.set_cons_zero, List.set_cons_succ]
        go_simp
        refine (toPoint_any _ x1 y1).mono ?_
        rintro e w2 ⟨rfl, b2⟩
        dsimp only
        refine hK.out _ (.agg #[.int .i64 x1, .int .i64 y1]) _ ?_ ?_
        · simp only [setA, setT, List.setIfInBounds_toArray, List.set_cons_zero, List.set_cons_succ, Act.put, hq1]
        · exact ⟨Ext.of_below b2, rfl⟩
      case o3 =>
        intro vs iv wk hx hf
        intro K' hK
        simp only [setA, setT, List.setIfInBounds_toArray, List.set_cons_zero, List.set_cons_succ]
        go_simp
        refine hK.out _ (.int .i64 a2) _ ?_ ?_
        · simp only [setA, setT, List.setIfInBounds_toArray, List.set_cons_zero, List.set_cons_succ, Act.put]
        · exact ⟨Ext.refl _ _, rfl⟩
      case o4 =>
        intro vs iv wk hx hf
        obtain ⟨⟨hq0, -⟩, ⟨hq2, -⟩, ⟨hq3, -⟩, -⟩ := hf
        have hq0 : vs 35 = .agg #[.int .i64 W0, .int .i64 H0, .slice (some ⟨bq, 0, none⟩) n0 n0] := hq0
        have hq2 : vs 37 = .agg #[.int .i64 x1, .int .i64 y1] := hq2
        have hq3 : vs 38 = .int .i64 a2 := hq3
        intro K' hK
        simp only [setA, setT, List.setIfInBounds_toArray, List.set_cons_zero, List.set_cons_succ]
        go_simp
        refine Calls.mono (HI.out _ _ _ ?_) ?_
        · exact rX5.out.row.ext0 ((Ext.drew _).trans hx)
        rintro e w2 ⟨A, c, rfl, hO, b2⟩
        dsimp only
        refine hK.out _ (.tuple #[.agg #[.int .i64 W, .int .i64 H, .slice A n c], .int .i64 code]) _ ?_ ?_
        · simp only [setA, setT, List.setIfInBounds_toArray, List.set_cons_zero, List.set_cons_succ, Act.put, hq0, hq2, hq3]
        · exact ⟨Ext.of_below b2, A, c, rfl, OwnIn.of_own hO (Nat.le_refl _)⟩
      case o5 =>
        intro vs iv wk hx hf
        intro K' hK
        simp only [setA, setT, List.setIfInBounds_toArray, List.set_cons_zero, List.set_cons_succ]
        go_simp
        refine hK.out _ (vs 39) _ ?_ ?_
        · simp only [setA, setT, List.setIfInBounds_toArray, List.set_cons_zero, List.set_cons_succ, Act.put]
        · exact ⟨Ext.refl _ _, rfl⟩
      case o6 =>
        intro vs iv wk hx hf
        obtain ⟨⟨h6, -⟩, ⟨⟨A, c, h5, -⟩, -⟩, -⟩ := hf
        have h5 : vs 39 = .tuple #[.agg #[.int .i64 W, .int .i64 H, .slice A n c], .int .i64 code] := h5
        have h6 : vs 34 = .tuple #[.agg #[.int .i64 W, .int .i64 H, .slice A n c], .int .i64 code] := h6.trans h5
        intro K' hK
        simp only [setA, setT, List.setIfInBounds_toArray, List.set_cons_zero, List.set_cons_succ]
        go_simp
        refine hK.out _ (.agg #[.int .i64 W, .int .i64 H, .slice A n c]) _ ?_ ?_
        · simp only [setA, setT, List.setIfInBounds_toArray, List.set_cons_zero, List.set_cons_succ, Act.put, h5, h6]
        · exact ⟨Ext.refl _ _, A, c, h5, rfl⟩
      case o7 =>
        intro vs iv wk hx hf
        obtain ⟨⟨h6, -⟩, ⟨⟨A, c, h5, -⟩, -⟩, -⟩ := hf
        have h5 : vs 39 = .tuple #[.agg #[.int .i64 W, .int .i64 H, .slice A n c], .int .i64 code] := h5
        have h6 : vs 34 = .tuple #[.agg #[.int .i64 W, .int .i64 H, .slice A n c], .int .i64 code] := h6.trans h5
        intro K' hK
        simp only [setA, setT, List.setIfInBounds_toArray, List.set_cons_zero, List.set_cons_succ]
        go_simp
        refine hK.out _ (.int .i64 code) _ ?_ ?_
        · simp only [setA, setT, List.setIfInBounds_toArray, List.set_cons_zero, List.set_cons_succ, Act.put, h5, h6]
        · exact ⟨Ext.refl _ _, rfl⟩
      case o8 =>
        intro vs iv wk hx hf
        intro K' hK
        simp only [setA, setT, List.setIfInBounds_toArray, List.set_cons_zero, List.set_cons_succ]
        go_simp
        refine hK.out _ (.pointer (some ⟨wk.heap.size, 0, none⟩)) _ ?_ ?_
        · simp only [setA, setT, List.setIfInBounds_toArray, List.set_cons_zero, List.set_cons_succ, Act.put]
        · exact ⟨Ext.alloc _ _, rfl, by simp, At.new _ _ _⟩
      case o9 =>
        intro vs iv wk hx hf
        obtain ⟨⟨⟨h9, hhi, hA9⟩, -⟩, ⟨⟨A, c, -, h7⟩, -⟩, -⟩ := hf
        have h9 : vs 11 = .pointer (some ⟨(iv 8).1, 0, none⟩) := h9
        have h7 : vs 40 = .agg #[.int .i64 W, .int .i64 H, .slice A n c] := h7
        have hA9 : At wk (iv 8).1 #[.int .i64 0, .int .i64 0, .slice none 0 0] 28 := hA9
        have hhi : (iv 8).2 = (iv 8).1 + 1 := hhi
        have q0 := hA9.cell 0
        have f0 := hA9.frozen 0
        have q1 := hA9.cell 1
        have f1 := hA9.frozen 1
        have q2 := hA9.cell 2
        have f2 := hA9.frozen 2
        simp only [List.getElem?_toArray, List.getElem?_cons_zero, List.getElem?_cons_succ] at q0 q1 q2
        have hlt9 : (iv 8).1 < (iv 8).2 := by omega
        have HA9 := Lib.hid hA9
        clear hA9 hhi
        have HLT := Lib.hid hlt9
        clear hlt9
        intro K' hK
        simp only [setA, setT, List.setIfInBounds_toArray, List.set_cons_zero, List.set_cons_succ]
        go_simp
        refine hK.out _ (undef) _ ?_ ?_
        · simp only [setA, setT, List.setIfInBounds_toArray, List.set_cons_zero, List.set_cons_succ, Act.put, h9, h7]
        · exact ⟨HLT.out, ((Ext.set _ _ _ (by simp)).trans (Ext.set _ _ _ (by simp))).trans (Ext.set _ _ _ (by simp)), A, c, h9, h7, HLT.out, ((HA9.out.set 0 _).set 1 _).set 2 _⟩
      case o10 =>
        intro vs iv wk hx hf
        obtain ⟨⟨hq7, -⟩, -⟩ := hf
        have hq7 : vs 41 = .int .i64 code := hq7
        intro K' hK
        simp only [setA, setT, List.setIfInBounds_toArray, List.set_cons_zero, List.set_cons_succ]
        go_simp
        refine hK.out _ (.int .i64 code) _ ?_ ?_
        · simp only [setA, setT, List.setIfInBounds_toArray, List.set_cons_zero, List.set_cons_succ, Act.put, hq7]
        · exact ⟨Ext.refl _ _, rfl⟩
    case gR =>
      intro vs iv w2x hx hap hf
      obtain ⟨-, -, -, -, ⟨⟨A5, c5, h5, hO5⟩, i5⟩, -, ⟨⟨A7, c7, h7, h7'⟩, -⟩, -, -, ⟨⟨A9, c9, h9, h9', hlt9, hB9⟩, i9⟩, ⟨h11, -⟩, -⟩ := hf
      have h5 : vs 39 = .tuple #[.agg #[.int .i64 W, .int .i64 H, .slice A5 n c5], .int .i64 code] := h5
      have h7 : vs 39 = .tuple #[.agg #[.int .i64 W, .int .i64 H, .slice A7 n c7], .int .i64 code] := h7
      have h7' : vs 40 = .agg #[.int .i64 W, .int .i64 H, .slice A7 n c7] := h7'
      have h9 : vs 11 = .pointer (some ⟨(iv 8).1, 0, none⟩) := h9
      have h9' : vs 40 = .agg #[.int .i64 W, .int .i64 H, .slice A9 n c9] := h9'
      have h11 : vs 12 = .int .i64 code := h11
      obtain ⟨rfl, rfl⟩ : A7 = A5 ∧ c7 = c5 := by have e := h7.symm.trans h5; simpa using e
      obtain ⟨rfl, rfl⟩ : A9 = A7 ∧ c9 = c7 := by have e := h9'.symm.trans h7'; simpa using e
      have hsep := hap 4 8 (by decide) (by decide) (by decide) rfl rfl
      have hO5 : OwnIn w2x (iv 4).1 (iv 4).2 A9 n c9 f := hO5
      have hlt9 : (iv 8).1 < (iv 8).2 := hlt9
      have hB9 : At w2x (iv 8).1 #[.int .i64 W, .int .i64 H, .slice A9 n c9] 28 := hB9
      have i5 : w5.heap.size ≤ (iv 4).1 := i5.1
      have i9 : w5.heap.size ≤ (iv 8).1 := i9.1
      have HQG : Hid (0 < n → ∀ b, blk A9 = some b → w5.heap.size ≤ b ∧ b < w2x.heap.size ∧ b ≠ (iv 8).1) := Lib.hid (ownIn_blk hO5 i5 hsep hlt9)
      have rG := Lib.hid (hO5.own.mono i5)
      have HCG := Lib.hid (Cel.of_at (cs := [.int .i64 W, .int .i64 H, .slice A9 n c9]) hB9)
      have HZG : Hid (w5.heap.size ≤ (iv 8).1) := Lib.hid i9
      simp only [setA, setT, List.setIfInBounds_toArray, List.set_cons_zero, List.set_cons_succ, h9, h11]
      have bXX := ((Ext.drew _).trans hx).nil
      clear hx hap h5 h7 h7' h9 h9' h11 hsep hO5 hlt9 hB9 i5 i9
      generalize (iv 8).1 = bG at *
      clear kX_z kX_0 kX_1 kX_2 kD1_z kD1_0 kD1_1 kM_z kM_0 kM_1 kM_2 kY_z kY_0 kY_1 kY_2
      obtain ⟨w6, rfl⟩ : ∃ w' : World, w' = w2x := ⟨_, rfl⟩
      have HX6 := Lib.hid (HX5.out.below bXX HX5.out.1)
      have HD16 := Lib.hid (HD15.out.below bXX HD15.out.1)
      have HM6 := Lib.hid (HM5.out.below bXX HM5.out.1)
      have HY6 := Lib.hid (HY5.out.below bXX HY5.out.1)
      have rA6 := Lib.hid (rA5.out.below bXX (Nat.le_refl _))
      have rM6 := Lib.hid (rM5.out.below bXX (Nat.le_refl _))
      have rX6 := Lib.hid (rX5.out.below bXX (Nat.le_refl _))
      have HB6 := Lib.hid (HB5.out.trans (bXX.mono HB5.out.size))
      have z6 := (bXX).size
      clear HB5 HX5 HD15 HM5 HY5 rA5 rM5 rX5
      have HG6 := HCG
      have rG6 := rG
      clear HCG rG bXX
      obtain ⟨AG, rfl⟩ : ∃ A : Option Addr, A = A9 := ⟨_, rfl⟩
      obtain ⟨cG, rfl⟩ : ∃ c : Nat, c = c9 := ⟨_, rfl⟩
      have zbG := HZG.out
      have zlG := HG6.out.1
      clear HZG
      have kX_z := HX6.out.1
      have kX_0 := HX6.out.2 0 _ rfl
      have kX_1 := HX6.out.2 1 _ rfl
      have kX_2 := HX6.out.2 2 _ rfl
      have kD1_z := HD16.out.1
      have kD1_0 := HD16.out.2 0 _ rfl
      have kD1_1 := HD16.out.2 1 _ rfl
      have kM_z := HM6.out.1
      have kM_0 := HM6.out.2 0 _ rfl
      have kM_1 := HM6.out.2 1 _ rfl
      have kM_2 := HM6.out.2 2 _ rfl
      have kY_z := HY6.out.1
      have kY_0 := HY6.out.2 0 _ rfl
      have kY_1 := HY6.out.2 1 _ rfl
      have kY_2 := HY6.out.2 2 _ rfl
      have kG_z := HG6.out.1
      have kG_0 := HG6.out.2 0 _ rfl
      have kG_1 := HG6.out.2 1 _ rfl
      have kG_2 := HG6.out.2 2 _ rfl
      go_wp2_with fail
      clear kX_z kX_0 kX_1 kX_2 kD1_z kD1_0 kD1_1 kM_z kM_0 kM_1 kM_2 kY_z kY_0 kY_1 kY_2 kG_z kG_0 kG_1 kG_2
      refine (eqPanel_same _ W H AG AM n cG cM f rG6.out.row rM6.out.row).mono ?_
      rintro e w7 ⟨rfl, bE⟩
      have HX7 := Lib.hid (HX6.out.below bE HX6.out.1)
      have HD17 := Lib.hid (HD16.out.below bE HD16.out.1)
      have HM7 := Lib.hid (HM6.out.below bE HM6.out.1)
      have HY7 := Lib.hid (HY6.out.below bE HY6.out.1)
      have HG7 := Lib.hid (HG6.out.below bE HG6.out.1)
      have rA7 := Lib.hid (rA6.out.below bE (Nat.le_refl _))
      have rM7 := Lib.hid (rM6.out.below bE (Nat.le_refl _))
      have rX7 := Lib.hid (rX6.out.below bE (Nat.le_refl _))
      have rG7 := Lib.hid (rG6.out.below bE (Nat.le_refl _))
      have HB7 := Lib.hid (HB6.out.trans (bE.mono HB6.out.size))
      have z7 := (bE).size
      clear HB6 HX6 HD16 HM6 HY6 HG6 rA6 rM6 rX6 rG6
      clear bE
      have kX_z := HX7.out.1
      have kX_0 := HX7.out.2 0 _ rfl
      have kX_1 := HX7.out.2 1 _ rfl
      have kX_2 := HX7.out.2 2 _ rfl
      have kD1_z := HD17.out.1
      have kD1_0 := HD17.out.2 0 _ rfl
      have kD1_1 := HD17.out.2 1 _ rfl
      have kM_z := HM7.out.1
      have kM_0 := HM7.out.2 0 _ rfl
      have kM_1 := HM7.out.2 1 _ rfl
      have kM_2 := HM7.out.2 2 _ rfl
      have kY_z := HY7.out.1
      have kY_0 := HY7.out.2 0 _ rfl
      have kY_1 := HY7.out.2 1 _ rfl
      have kY_2 := HY7.out.2 2 _ rfl
      have kG_z := HG7.out.1
      have kG_0 := HG7.out.2 0 _ rfl
      have kG_1 := HG7.out.2 1 _ rfl
      have kG_2 := HG7.out.2 2 _ rfl
      have OL := Lib.hid (Old.mk_ (Below.refl w7.heap.size w7).drew)
      go_wp2_with fail
      go_region_held3 (fun w' => (∀ b o, b < w7.heap.size → w'.cell? ⟨b, o, none⟩ = w7.cell? ⟨b, o, none⟩) ∧ Below w7.heap.size w7 w')
        (first | assumption | exact OL.out | exact Old.trans (by assumption) (by assumption))
        (first | (go_at_call 14; refine (toPanel_any _ W0 H0 A0 n0 c0 zs0 ?_ hn20).mono ?_; exact rA7.out.old (by assumption); rintro e w7a ⟨bz, rfl, hbz, hrow7, b7⟩) | (go_at_call 17; refine (eqPanel_same _ W0 H0 _ _ n0 n0 n0 zs0 ?_ ?_).mono ?_; exact rX7.out.row.old (by assumption); exact Row.of_rowIs hrow7 hn63 HW.out; rintro e w7b ⟨rfl, b8⟩))
      clear kX_z kX_0 kX_1 kX_2 kD1_z kD1_0 kD1_1 kM_z kM_0 kM_1 kM_2 kY_z kY_0 kY_1 kY_2 kG_z kG_0 kG_1 kG_2
      rename_i hS
      have b8x := hS.2
      clear hS OL hrow7 hbz b7 b8
      obtain ⟨w8, rfl⟩ : ∃ w' : World, w' = w7b := ⟨_, rfl⟩
      have HX8 := Lib.hid (HX7.out.below b8x HX7.out.1)
      have HD18 := Lib.hid (HD17.out.below b8x HD17.out.1)
      have HM8 := Lib.hid (HM7.out.below b8x HM7.out.1)
      have HY8 := Lib.hid (HY7.out.below b8x HY7.out.1)
      have HG8 := Lib.hid (HG7.out.below b8x HG7.out.1)
      have rA8 := Lib.hid (rA7.out.below b8x (Nat.le_refl _))
      have rM8 := Lib.hid (rM7.out.below b8x (Nat.le_refl _))
      have rX8 := Lib.hid (rX7.out.below b8x (Nat.le_refl _))
      have rG8 := Lib.hid (rG7.out.below b8x (Nat.le_refl _))
      have HB8 := Lib.hid (HB7.out.trans (b8x.mono HB7.out.size))
      have z8 := (b8x).size
      clear HB7 HX7 HD17 HM7 HY7 HG7 rA7 rM7 rX7 rG7
      clear b8x
      have kX_z := HX8.out.1
      have kX_0 := HX8.out.2 0 _ rfl
      have kX_1 := HX8.out.2 1 _ rfl
      have kX_2 := HX8.out.2 2 _ rfl
      have kD1_z := HD18.out.1
      have kD1_0 := HD18.out.2 0 _ rfl
      have kD1_1 := HD18.out.2 1 _ rfl
      have kM_z := HM8.out.1
      have kM_0 := HM8.out.2 0 _ rfl
      have kM_1 := HM8.out.2 1 _ rfl
      have kM_2 := HM8.out.2 2 _ rfl
      have kY_z := HY8.out.1
      have kY_0 := HY8.out.2 0 _ rfl
      have kY_1 := HY8.out.2 1 _ rfl
      have kY_2 := HY8.out.2 2 _ rfl
      have kG_z := HG8.out.1
      have kG_0 := HG8.out.2 0 _ rfl
      have kG_1 := HG8.out.2 1 _ rfl
      have kG_2 := HG8.out.2 2 _ rfl
      go_wp2_with fail
      clear kX_z kX_0 kX_1 kX_2 kD1_z kD1_0 kD1_1 kM_z kM_0 kM_1 kM_2 kY_z kY_0 kY_1 kY_2 kG_z kG_0 kG_1 kG_2
      refine (markPanel_any _ w2.heap.size W0 H0 (some ⟨bq, 0, none⟩) n0 n0 zs0 1 rX8.out (by omega) (by omega)).mono ?_
      rintro e w9 ⟨rfl, R5, r, g5, hr5⟩
      have HBm := Lib.hid (Marked.below g5 hr5 rX8.out (by omega))
      have HX9 := Lib.hid (HX8.out.grownR g5 (fun e => by obtain ⟨hn9, hA⟩ := hr5 _ e; simp [blk] at hA; omega))
      have HD19 := Lib.hid (HD18.out.grownR g5 (fun e => by obtain ⟨hn9, hA⟩ := hr5 _ e; simp [blk] at hA; omega))
      have HM9 := Lib.hid (HM8.out.grownR g5 (fun e => by obtain ⟨hn9, hA⟩ := hr5 _ e; simp [blk] at hA; omega))
      have HY9 := Lib.hid (HY8.out.grownR g5 (fun e => by obtain ⟨hn9, hA⟩ := hr5 _ e; simp [blk] at hA; omega))
      have HG9 := Lib.hid (HG8.out.grownR g5 (fun e => by obtain ⟨hn9, hA⟩ := hr5 _ e; simp [blk] at hA; omega))
      have rA9 := Lib.hid (rA8.out.grownR g5 (fun b hn hb e => by obtain ⟨hn9, hA⟩ := hr5 _ e; have := HQA.out hn b hb; simp [blk] at hA; omega))
      have rM9 := Lib.hid (rM8.out.grownR g5 (fun b hn hb e => by obtain ⟨hn9, hA⟩ := hr5 _ e; have := HQM.out hn b hb; simp [blk] at hA; omega))
      have rG9 := Lib.hid (rG8.out.grownR g5 (fun b hn hb e => by obtain ⟨hn9, hA⟩ := hr5 _ e; have := HQG.out hn b hb; simp [blk] at hA; omega))
      have rX9 := Lib.hid R5
      have z9 := g5.size
      have HB9 := Lib.hid (HB8.out.trans (HBm.out.mono (by omega)))
      clear R5 g5 hr5 HBm HB8 HX8 HD18 HM8 HY8 HG8 rA8 rM8 rX8 rG8
      have kX_z := HX9.out.1
      have kX_0 := HX9.out.2 0 _ rfl
      have kX_1 := HX9.out.2 1 _ rfl
      have kX_2 := HX9.out.2 2 _ rfl
      have kD1_z := HD19.out.1
      have kD1_0 := HD19.out.2 0 _ rfl
      have kD1_1 := HD19.out.2 1 _ rfl
      have kM_z := HM9.out.1
      have kM_0 := HM9.out.2 0 _ rfl
      have kM_1 := HM9.out.2 1 _ rfl
      have kM_2 := HM9.out.2 2 _ rfl
      have kY_z := HY9.out.1
      have kY_0 := HY9.out.2 0 _ rfl
      have kY_1 := HY9.out.2 1 _ rfl
      have kY_2 := HY9.out.2 2 _ rfl
      have kG_z := HG9.out.1
      have kG_0 := HG9.out.2 0 _ rfl
      have kG_1 := HG9.out.2 1 _ rfl
      have kG_2 := HG9.out.2 2 _ rfl
      go_wp2_with fail
      clear kX_z kX_0 kX_1 kX_2 kD1_z kD1_0 kD1_1 kM_z kM_0 kM_1 kM_2 kY_z kY_0 kY_1 kY_2 kG_z kG_0 kG_1 kG_2
      refine (eqPanel_same _ W H AG AM n cG cM f rG9.out.row rM9.out.row).mono ?_
      rintro e w10 ⟨rfl, bE⟩
      have HX10 := Lib.hid (HX9.out.below bE HX9.out.1)
      have HD110 := Lib.hid (HD19.out.below bE HD19.out.1)
      have HM10 := Lib.hid (HM9.out.below bE HM9.out.1)
      have HY10 := Lib.hid (HY9.out.below bE HY9.out.1)
      have HG10 := Lib.hid (HG9.out.below bE HG9.out.1)
      have rA10 := Lib.hid (rA9.out.below bE (Nat.le_refl _))
      have rM10 := Lib.hid (rM9.out.below bE (Nat.le_refl _))
      have rX10 := Lib.hid (rX9.out.below bE (Nat.le_refl _))
      have rG10 := Lib.hid (rG9.out.below bE (Nat.le_refl _))
      have HB10 := Lib.hid (HB9.out.trans (bE.mono HB9.out.size))
      have z10 := (bE).size
      clear HB9 HX9 HD19 HM9 HY9 HG9 rA9 rM9 rX9 rG9
      clear bE
      clear rX10
      have kX_z := HX10.out.1
      have kX_0 := HX10.out.2 0 _ rfl
      have kX_1 := HX10.out.2 1 _ rfl
      have kX_2 := HX10.out.2 2 _ rfl
      have kD1_z := HD110.out.1
      have kD1_0 := HD110.out.2 0 _ rfl
      have kD1_1 := HD110.out.2 1 _ rfl
      have kM_z := HM10.out.1
      have kM_0 := HM10.out.2 0 _ rfl
      have kM_1 := HM10.out.2 1 _ rfl
      have kM_2 := HM10.out.2 2 _ rfl
      have kY_z := HY10.out.1
      have kY_0 := HY10.out.2 0 _ rfl
      have kY_1 := HY10.out.2 1 _ rfl
      have kY_2 := HY10.out.2 2 _ rfl
      have kG_z := HG10.out.1
      have kG_0 := HG10.out.2 0 _ rfl
      have kG_1 := HG10.out.2 1 _ rfl
      have kG_2 := HG10.out.2 2 _ rfl
      go_wp2_with fail
      clear kX_z kX_0 kX_1 kX_2 kD1_z kD1_0 kD1_1 kM_z kM_0 kM_1 kM_2 kY_z kY_0 kY_1 kY_2 kG_z kG_0 kG_1 kG_2
      refine (markPanel_any _ w5.heap.size W H AG n cG f 1 rG10.out (by omega) (by omega)).mono ?_
      rintro e w11 ⟨rfl, R5, r, g5, hr5⟩
      have HBm := Lib.hid (Marked.below g5 hr5 rG10.out (by omega))
      have HX11 := Lib.hid (HX10.out.grownR g5 (fun e => by obtain ⟨hn9, hA⟩ := hr5 _ e; have h1 := HQG.out hn9 _ hA; omega))
      have HD111 := Lib.hid (HD110.out.grownR g5 (fun e => by obtain ⟨hn9, hA⟩ := hr5 _ e; have h1 := HQG.out hn9 _ hA; omega))
      have HM11 := Lib.hid (HM10.out.grownR g5 (fun e => by obtain ⟨hn9, hA⟩ := hr5 _ e; have h1 := HQG.out hn9 _ hA; omega))
      have HY11 := Lib.hid (HY10.out.grownR g5 (fun e => by obtain ⟨hn9, hA⟩ := hr5 _ e; have h1 := HQG.out hn9 _ hA; omega))
      have HG11 := Lib.hid (HG10.out.grownR g5 (fun e => by obtain ⟨hn9, hA⟩ := hr5 _ e; have h1 := HQG.out hn9 _ hA; omega))
      have rA11 := Lib.hid (rA10.out.grownR g5 (fun b hn hb e => by obtain ⟨hn9, hA⟩ := hr5 _ e; have h1 := HQG.out hn9 b hA; have := HQA.out hn b hb; omega))
      have rM11 := Lib.hid (rM10.out.grownR g5 (fun b hn hb e => by obtain ⟨hn9, hA⟩ := hr5 _ e; have h1 := HQG.out hn9 b hA; have := HQM.out hn b hb; omega))
      have rG11 := Lib.hid R5
      have z11 := g5.size
      have HB11 := Lib.hid (HB10.out.trans (HBm.out.mono (by omega)))
      clear R5 g5 hr5 HBm HB10 HX10 HD110 HM10 HY10 HG10 rA10 rM10 rG10
      have kX_z := HX11.out.1
      have kX_0 := HX11.out.2 0 _ rfl
      have kX_1 := HX11.out.2 1 _ rfl
      have kX_2 := HX11.out.2 2 _ rfl
      have kD1_z := HD111.out.1
      have kD1_0 := HD111.out.2 0 _ rfl
      have kD1_1 := HD111.out.2 1 _ rfl
      have kM_z := HM11.out.1
      have kM_0 := HM11.out.2 0 _ rfl
      have kM_1 := HM11.out.2 1 _ rfl
      have kM_2 := HM11.out.2 2 _ rfl
      have kY_z := HY11.out.1
      have kY_0 := HY11.out.2 0 _ rfl
      have kY_1 := HY11.out.2 1 _ rfl
      have kY_2 := HY11.out.2 2 _ rfl
      have kG_z := HG11.out.1
      have kG_0 := HG11.out.2 0 _ rfl
      have kG_1 := HG11.out.2 1 _ rfl
      have kG_2 := HG11.out.2 2 _ rfl
      go_wp2_with fail
      clear kX_z kX_0 kX_1 kX_2 kD1_z kD1_0 kD1_1 kM_z kM_0 kM_1 kM_2 kY_z kY_0 kY_1 kY_2 kG_z kG_0 kG_1 kG_2
      refine (heldPanel_any _ W H AG n cG 1 rG11.out.row (by omega) (by omega)).mono ?_
      rintro e w12 ⟨rfl, bH⟩
      have HX12 := Lib.hid (HX11.out.below bH HX11.out.1)
      have HD112 := Lib.hid (HD111.out.below bH HD111.out.1)
      have HM12 := Lib.hid (HM11.out.below bH HM11.out.1)
      have HY12 := Lib.hid (HY11.out.below bH HY11.out.1)
      have HG12 := Lib.hid (HG11.out.below bH HG11.out.1)
      have rA12 := Lib.hid (rA11.out.below bH (Nat.le_refl _))
      have rM12 := Lib.hid (rM11.out.below bH (Nat.le_refl _))
      have rG12 := Lib.hid (rG11.out.below bH (Nat.le_refl _))
      have HB12 := Lib.hid (HB11.out.trans (bH.mono HB11.out.size))
      have z12 := (bH).size
      clear HB11 HX11 HD111 HM11 HY11 HG11 rA11 rM11 rG11
      clear bH
      have kX_z := HX12.out.1
      have kX_0 := HX12.out.2 0 _ rfl
      have kX_1 := HX12.out.2 1 _ rfl
      have kX_2 := HX12.out.2 2 _ rfl
      have kD1_z := HD112.out.1
      have kD1_0 := HD112.out.2 0 _ rfl
      have kD1_1 := HD112.out.2 1 _ rfl
      have kM_z := HM12.out.1
      have kM_0 := HM12.out.2 0 _ rfl
      have kM_1 := HM12.out.2 1 _ rfl
      have kM_2 := HM12.out.2 2 _ rfl
      have kY_z := HY12.out.1
      have kY_0 := HY12.out.2 0 _ rfl
      have kY_1 := HY12.out.2 1 _ rfl
      have kY_2 := HY12.out.2 2 _ rfl
      have kG_z := HG12.out.1
      have kG_0 := HG12.out.2 0 _ rfl
      have kG_1 := HG12.out.2 1 _ rfl
      have kG_2 := HG12.out.2 2 _ rfl
      go_wp2_with fail
      refine wp_region_stab [some 84, some 85, some 86, some 87, some 88, some 89, some 83, some 90, some 91, some 16, none, some 17] [84, 85, 86, 87, 88, 89, 83, 90, 91, 16, 17] [] [(10, 9)]
        [(fun a lo hi v w' => v = .agg #[.int .i64 W0, .int .i64 H0, .slice A0 n0 c0]),
          (fun a lo hi v w' => ∃ A c, v = .agg #[.int .i64 W0, .int .i64 H0, .slice A n0 c] ∧ OwnIn w' lo hi A n0 c zs0),
          (fun a lo hi v w' => v = .agg #[.int .i64 x1, .int .i64 y1]),
          (fun a lo hi v w' => v = .agg #[.int .i64 x1, .int .i64 y1]),
          (fun a lo hi v w' => v = .int .i64 a2),
          (fun a lo hi v w' => ∃ A c, v = .tuple #[.agg #[.int .i64 W, .int .i64 H, .slice A n c], .int .i64 code] ∧ OwnIn w' lo hi A n c f),
          (fun a lo hi v w' => v = a.getD 0 undef),
          (fun a lo hi v w' => ∃ A c, a.getD 1 undef = .tuple #[.agg #[.int .i64 W, .int .i64 H, .slice A n c], .int .i64 code] ∧ v = .agg #[.int .i64 W, .int .i64 H, .slice A n c]),
          (fun a lo hi v w' => v = .int .i64 code),
          (fun a lo hi v w' => v = .pointer (some ⟨lo, 0, none⟩) ∧ hi = lo + 1 ∧ At w' lo #[.int .i64 0, .int .i64 0, .slice none 0 0] 28),
          (fun a lo hi v w' => ∃ A c, a.getD 0 undef = .pointer (some ⟨lo, 0, none⟩) ∧ a.getD 1 undef = .agg #[.int .i64 W, .int .i64 H, .slice A n c] ∧ lo < hi ∧ At w' lo #[.int .i64 W, .int .i64 H, .slice A n c] 28),
          (fun a lo hi v w' => v = .int .i64 code)]
        [[], [0], [], [2], [], [1, 3, 4], [5], [6, 5], [6, 5], [], [9, 7], [8]] [[], [], [], [], [], [], [89], [83, 89], [], [], [16, 90], []] (by kernel_rfl) (by kernel_rfl) (fun k hk => absurd hk List.not_mem_nil) ?gS ?gO ?gR
      case gS => exact ⟨fun _ _ _ _ _ _ h _ => h, fun _ _ _ _ _ _ ⟨A, c, h1, h2⟩ e => ⟨A, c, h1, h2.same e⟩, fun _ _ _ _ _ _ h _ => h, fun _ _ _ _ _ _ h _ => h, fun _ _ _ _ _ _ h _ => h, fun _ _ _ _ _ _ ⟨A, c, h1, h2⟩ e => ⟨A, c, h1, h2.same e⟩, fun _ _ _ _ _ _ h _ => h, fun _ _ _ _ _ _ h _ => h, fun _ _ _ _ _ _ h _ => h, fun _ _ _ _ _ _ ⟨h1, h2, h3⟩ e => ⟨h1, h2, h3.same e (.inr ⟨Nat.le_refl _, by omega⟩)⟩, fun _ _ _ _ _ _ ⟨A, c, h1, h2, h3, h4⟩ e => ⟨A, c, h1, h2, h3, h4.same e (.inr ⟨Nat.le_refl _, h3⟩)⟩, fun _ _ _ _ _ _ h _ => h, trivial⟩
      case gO =>
        refine ⟨?o0, ?o1, ?o2, ?o3, ?o4, ?o5, ?o6, ?o7, ?o8, ?o9, ?o10, ?o11, trivial⟩
        case o0 =>
          intro vs iv wk hx hf
          have ezz : w.heap.size < wk.heap.size := Nat.lt_of_lt_of_le kX_z hx.size
          have e0 : wk.cell? ⟨w.heap.size, 0, none⟩ = some (.int .i64 W0) := hx.cell kX_0 (by simp)
          have e1 : wk.cell? ⟨w.heap.size, 1, none⟩ = some (.int .i64 H0) := hx.cell kX_1 (by simp)
          have e2 : wk.cell? ⟨w.heap.size, 2, none⟩ = some (.slice A0 n0 c0) := hx.cell kX_2 (by simp)
          intro K' hK
          simp only [setA, setT, List.setIfInBounds_toArray, List.set_cons_zero, List.set_cons_succ]
          go_simp
          refine hK.out _ (.agg #[.int .i64 W0, .int .i64 H0, .slice A0 n0 c0]) _ ?_ ?_
          · simp only [setA, setT, List.setIfInBounds_toArray, List.set_cons_zero, List.set_cons_succ, Act.put]
          · exact ⟨Ext.refl _ _, rfl⟩
        case o1 =>
          intro vs iv wk hx hf
          obtain ⟨⟨hq0, -⟩, -⟩ := hf
          have hq0 : vs 84 = .agg #[.int .i64 W0, .int .i64 H0, .slice A0 n0 c0] := hq0
          intro K' hK
          simp only [setA, setT, List.setIfInBounds_toArray, List.set_cons_zero, List.set_cons_succ]
          go_simp
          refine (toPanel_own _ W0 H0 A0 n0 c0 zs0 ?_ hn20).mono ?_
          · exact rA12.out.ext0 ((Ext.drew _).trans hx)
          rintro e w2 ⟨A, c, rfl, hO, b2⟩
          dsimp only
          refine hK.out _ (.agg #[.int .i64 W0, .int .i64 H0, .slice A n0 c]) _ ?_ ?_
          · simp only [setA, setT, List.setIfInBounds_toArray, List.set_cons_zero, List.set_cons_succ, Act.put, hq0]
          · exact ⟨Ext.of_below b2, A, c, rfl, OwnIn.of_own hO (Nat.le_refl _)⟩
        case o2 =>
          intro vs iv wk hx hf
          have ezz : w.heap.size + 1 < wk.heap.size := Nat.lt_of_lt_of_le kD1_z hx.size
          have e0 : wk.cell? ⟨w.heap.size + 1, 0, none⟩ = some (.int .i64 x1) := hx.cell kD1_0 (by simp)
          have e1 : wk.cell? ⟨w.heap.size + 1, 1, none⟩ = some (.int .i64 y1) := hx.cell kD1_1 (by simp)
          intro K' hK
          simp only [setA, setT, List.setIfInBounds_toArray, List.set_cons_zero, List.set_cons_succ]
          go_simp
          refine hK.out _ (.agg #[.int .i64 x1, .int .i64 y1]) _ ?_ ?_
          · simp only [setA, setT, List.setIfInBounds_toArray, List.set_cons_zero, List.set_cons_succ, Act.put]
          · exact ⟨Ext.refl _ _, rfl⟩
        case o3 =>
          intro vs iv wk hx hf
          obtain ⟨⟨hq2, -⟩, -⟩ := hf
          have hq2 : vs 86 = .agg #[.int .i64 x1, .int .i64 y1] := hq2
          intro K' hK
          simp only [setA, setT, List.setIfInBounds_toArray, List.set_cons_zero, List.set_cons_succ]
          go_simp
          refine (toPoint_any _ x1 y1).mono ?_
          rintro e w2 ⟨rfl, b2⟩
          dsimp only
          refine hK.out _ (.agg #[.int .i64 x1, .int .i64 y1]) _ ?_ ?_
          · simp only [setA, setT, List.setIfInBounds_toArray, List.set_cons_zero, List.set_cons_succ, Act.put, hq2]
          · exact ⟨Ext.of_below b2, rfl⟩
        case o4 =>
          intro vs iv wk hx hf
          intro K' hK
          simp only [setA, setT, List.setIfInBounds_toArray, List.set_cons_zero, List.set_cons_succ]
          go_simp
          refine hK.out _ (.int .i64 a2) _ ?_ ?_
          · simp only [setA, setT, List.setIfInBounds_toArray, List.set_cons_zero, List.set_cons_succ, Act.put]
          · exact ⟨Ext.refl _ _, rfl⟩
        case o5 =>
          intro vs iv wk hx hf
          obtain ⟨⟨⟨Aq1, cq1, hq1, hOq1⟩, -⟩, ⟨hq3, -⟩, ⟨hq4, -⟩, -⟩ := hf
          have hq1 : vs 85 = .agg #[.int .i64 W0, .int .i64 H0, .slice Aq1 n0 cq1] := hq1
          have hq3 : vs 87 = .agg #[.int .i64 x1, .int .i64 y1] := hq3
          have hq4 : vs 88 = .int .i64 a2 := hq4
          intro K' hK
          simp only [setA, setT, List.setIfInBounds_toArray, List.set_cons_zero, List.set_cons_succ]
          go_simp
          refine Calls.mono (HI.out _ _ _ ?_) ?_
          · exact hOq1.row
          rintro e w2 ⟨A, c, rfl, hO, b2⟩
          dsimp only
          refine hK.out _ (.tuple #[.agg #[.int .i64 W, .int .i64 H, .slice A n c], .int .i64 code]) _ ?_ ?_
          · simp only [setA, setT, List.setIfInBounds_toArray, List.set_cons_zero, List.set_cons_succ, Act.put, hq1, hq3, hq4]
          · exact ⟨Ext.of_below b2, A, c, rfl, OwnIn.of_own hO (Nat.le_refl _)⟩
        case o6 =>
          intro vs iv wk hx hf
          intro K' hK
          simp only [setA, setT, List.setIfInBounds_toArray, List.set_cons_zero, List.set_cons_succ]
          go_simp
          refine hK.out _ (vs 89) _ ?_ ?_
          · simp only [setA, setT, List.setIfInBounds_toArray, List.set_cons_zero, List.set_cons_succ, Act.put]
          · exact ⟨Ext.refl _ _, rfl⟩
        case o7 =>
          intro vs iv wk hx hf
          obtain ⟨⟨h6, -⟩, ⟨⟨A, c, h5, -⟩, -⟩, -⟩ := hf
          have h5 : vs 89 = .tuple #[.agg #[.int .i64 W, .int .i64 H, .slice A n c], .int .i64 code] := h5
          have h6 : vs 83 = .tuple #[.agg #[.int .i64 W, .int .i64 H, .slice A n c], .int .i64 code] := h6.trans h5
          intro K' hK
          simp only [setA, setT, List.setIfInBounds_toArray, List.set_cons_zero, List.set_cons_succ]
          go_simp
          refine hK.out _ (.agg #[.int .i64 W, .int .i64 H, .slice A n c]) _ ?_ ?_
          · simp only [setA, setT, List.setIfInBounds_toArray, List.set_cons_zero, List.set_cons_succ, Act.put, h5, h6]
          · exact ⟨Ext.refl _ _, A, c, h5, rfl⟩
        case o8 =>
          intro vs iv wk hx hf
          obtain ⟨⟨h6, -⟩, ⟨⟨A, c, h5, -⟩, -⟩, -⟩ := hf
          have h5 : vs 89 = .tuple #[.agg #[.int .i64 W, .int .i64 H, .slice A n c], .int .i64 code] := h5
          have h6 : vs 83 = .tuple #[.agg #[.int .i64 W, .int .i64 H, .slice A n c], .int .i64 code] := h6.trans h5
          intro K' hK
          simp only [setA, setT, List.setIfInBounds_toArray, List.set_cons_zero, List.set_cons_succ]
          go_simp
          refine hK.out _ (.int .i64 code) _ ?_ ?_
          · simp only [setA, setT, List.setIfInBounds_toArray, List.set_cons_zero, List.set_cons_succ, Act.put, h5, h6]
          · exact ⟨Ext.refl _ _, rfl⟩
        case o9 =>
          intro vs iv wk hx hf
          intro K' hK
          simp only [setA, setT, List.setIfInBounds_toArray, List.set_cons_zero, List.set_cons_succ]
          go_simp
          refine hK.out _ (.pointer (some ⟨wk.heap.size, 0, none⟩)) _ ?_ ?_
          · simp only [setA, setT, List.setIfInBounds_toArray, List.set_cons_zero, List.set_cons_succ, Act.put]
          · exact ⟨Ext.alloc _ _, rfl, by simp, At.new _ _ _⟩
        case o10 =>
          intro vs iv wk hx hf
          obtain ⟨⟨⟨h9, hhi, hA9⟩, -⟩, ⟨⟨A, c, -, h7⟩, -⟩, -⟩ := hf
          have h9 : vs 16 = .pointer (some ⟨(iv 9).1, 0, none⟩) := h9
          have h7 : vs 90 = .agg #[.int .i64 W, .int .i64 H, .slice A n c] := h7
          have hA9 : At wk (iv 9).1 #[.int .i64 0, .int .i64 0, .slice none 0 0] 28 := hA9
          have hhi : (iv 9).2 = (iv 9).1 + 1 := hhi
          have q0 := hA9.cell 0
          have f0 := hA9.frozen 0
          have q1 := hA9.cell 1
          have f1 := hA9.frozen 1
          have q2 := hA9.cell 2
          have f2 := hA9.frozen 2
          simp only [List.getElem?_toArray, List.getElem?_cons_zero, List.getElem?_cons_succ] at q0 q1 q2
          have hlt9 : (iv 9).1 < (iv 9).2 := by omega
          have HA9 := Lib.hid hA9
          clear hA9 hhi
          have HLT := Lib.hid hlt9
          clear hlt9
          intro K' hK
          simp only [setA, setT, List.setIfInBounds_toArray, List.set_cons_zero, List.set_cons_succ]
          go_simp
          refine hK.out _ (undef) _ ?_ ?_
          · simp only [setA, setT, List.setIfInBounds_toArray, List.set_cons_zero, List.set_cons_succ, Act.put, h9, h7]
          · exact ⟨HLT.out, ((Ext.set _ _ _ (by simp)).trans (Ext.set _ _ _ (by simp))).trans (Ext.set _ _ _ (by simp)), A, c, h9, h7, HLT.out, ((HA9.out.set 0 _).set 1 _).set 2 _⟩
        case o11 =>
          intro vs iv wk hx hf
          obtain ⟨⟨hq8, -⟩, -⟩ := hf
          have hq8 : vs 91 = .int .i64 code := hq8
          intro K' hK
          simp only [setA, setT, List.setIfInBounds_toArray, List.set_cons_zero, List.set_cons_succ]
          go_simp
          refine hK.out _ (.int .i64 code) _ ?_ ?_
          · simp only [setA, setT, List.setIfInBounds_toArray, List.set_cons_zero, List.set_cons_succ, Act.put, hq8]
          · exact ⟨Ext.refl _ _, rfl⟩
      case gR =>
        intro vs iv w2x hx hap hf
        obtain ⟨-, -, -, -, -, ⟨⟨A5, c5, h5, hO5⟩, i5⟩, -, ⟨⟨A7, c7, h7, h7'⟩, -⟩, -, -, ⟨⟨A9, c9, h9, h9', hlt9, hB9⟩, i9⟩, ⟨h11, -⟩, -⟩ := hf
        have h5 : vs 89 = .tuple #[.agg #[.int .i64 W, .int .i64 H, .slice A5 n c5], .int .i64 code] := h5
        have h7 : vs 89 = .tuple #[.agg #[.int .i64 W, .int .i64 H, .slice A7 n c7], .int .i64 code] := h7
        have h7' : vs 90 = .agg #[.int .i64 W, .int .i64 H, .slice A7 n c7] := h7'
        have h9 : vs 16 = .pointer (some ⟨(iv 9).1, 0, none⟩) := h9
        have h9' : vs 90 = .agg #[.int .i64 W, .int .i64 H, .slice A9 n c9] := h9'
        have h11 : vs 17 = .int .i64 code := h11
        obtain ⟨rfl, rfl⟩ : A7 = A5 ∧ c7 = c5 := by have e := h7.symm.trans h5; simpa using e
        obtain ⟨rfl, rfl⟩ : A9 = A7 ∧ c9 = c7 := by have e := h9'.symm.trans h7'; simpa using e
        have hsep := hap 5 9 (by decide) (by decide) (by decide) rfl rfl
        have hO5 : OwnIn w2x (iv 5).1 (iv 5).2 A9 n c9 f := hO5
        have hlt9 : (iv 9).1 < (iv 9).2 := hlt9
        have hB9 : At w2x (iv 9).1 #[.int .i64 W, .int .i64 H, .slice A9 n c9] 28 := hB9
        have i5 : w12.heap.size ≤ (iv 5).1 := i5.1
        have i9 : w12.heap.size ≤ (iv 9).1 := i9.1
        have HQH : Hid (0 < n → ∀ b, blk A9 = some b → w12.heap.size ≤ b ∧ b < w2x.heap.size ∧ b ≠ (iv 9).1) := Lib.hid (ownIn_blk hO5 i5 hsep hlt9)
        have rH := Lib.hid (hO5.own.mono i5)
        have HCH := Lib.hid (Cel.of_at (cs := [.int .i64 W, .int .i64 H, .slice A9 n c9]) hB9)
        have HZH : Hid (w12.heap.size ≤ (iv 9).1) := Lib.hid i9
        simp only [setA, setT, List.setIfInBounds_toArray, List.set_cons_zero, List.set_cons_succ, h9, h11]
        have bXX := ((Ext.drew _).trans hx).nil
        clear hx hap h5 h7 h7' h9 h9' h11 hsep hO5 hlt9 hB9 i5 i9
        generalize (iv 9).1 = bH at *
        clear kX_z kX_0 kX_1 kX_2 kD1_z kD1_0 kD1_1 kM_z kM_0 kM_1 kM_2 kY_z kY_0 kY_1 kY_2 kG_z kG_0 kG_1 kG_2
        obtain ⟨w13, rfl⟩ : ∃ w' : World, w' = w2x := ⟨_, rfl⟩
        have HX13 := Lib.hid (HX12.out.below bXX HX12.out.1)
        have HD113 := Lib.hid (HD112.out.below bXX HD112.out.1)
        have HM13 := Lib.hid (HM12.out.below bXX HM12.out.1)
        have HY13 := Lib.hid (HY12.out.below bXX HY12.out.1)
        have HG13 := Lib.hid (HG12.out.below bXX HG12.out.1)
        have rA13 := Lib.hid (rA12.out.below bXX (Nat.le_refl _))
        have rM13 := Lib.hid (rM12.out.below bXX (Nat.le_refl _))
        have rG13 := Lib.hid (rG12.out.below bXX (Nat.le_refl _))
        have HB13 := Lib.hid (HB12.out.trans (bXX.mono HB12.out.size))
        have z13 := (bXX).size
        clear HB12 HX12 HD112 HM12 HY12 HG12 rA12 rM12 rG12
        have HH13 := HCH
        have rH13 := rH
        clear HCH rH bXX
        obtain ⟨AH, rfl⟩ : ∃ A : Option Addr, A = A9 := ⟨_, rfl⟩
        obtain ⟨cH, rfl⟩ : ∃ c : Nat, c = c9 := ⟨_, rfl⟩
        have zbH := HZH.out
        have zlH := HH13.out.1
        clear HZH
        have kX_z := HX13.out.1
        have kX_0 := HX13.out.2 0 _ rfl
        have kX_1 := HX13.out.2 1 _ rfl
        have kX_2 := HX13.out.2 2 _ rfl
        have kD1_z := HD113.out.1
        have kD1_0 := HD113.out.2 0 _ rfl
        have kD1_1 := HD113.out.2 1 _ rfl
        have kM_z := HM13.out.1
        have kM_0 := HM13.out.2 0 _ rfl
        have kM_1 := HM13.out.2 1 _ rfl
        have kM_2 := HM13.out.2 2 _ rfl
        have kY_z := HY13.out.1
        have kY_0 := HY13.out.2 0 _ rfl
        have kY_1 := HY13.out.2 1 _ rfl
        have kY_2 := HY13.out.2 2 _ rfl
        have kG_z := HG13.out.1
        have kG_0 := HG13.out.2 0 _ rfl
        have kG_1 := HG13.out.2 1 _ rfl
        have kG_2 := HG13.out.2 2 _ rfl
        have kH_z := HH13.out.1
        have kH_0 := HH13.out.2 0 _ rfl
        have kH_1 := HH13.out.2 1 _ rfl
        have kH_2 := HH13.out.2 2 _ rfl
        go_wp2_with fail
        clear kX_z kX_0 kX_1 kX_2 kD1_z kD1_0 kD1_1 kM_z kM_0 kM_1 kM_2 kY_z kY_0 kY_1 kY_2 kG_z kG_0 kG_1 kG_2 kH_z kH_0 kH_1 kH_2
        refine (eqPanel_same _ W H AH AM n cH cM f rH13.out.row rM13.out.row).mono ?_
        rintro e w14 ⟨rfl, bE⟩
        have HX14 := Lib.hid (HX13.out.below bE HX13.out.1)
        have HD114 := Lib.hid (HD113.out.below bE HD113.out.1)
        have HM14 := Lib.hid (HM13.out.below bE HM13.out.1)
        have HY14 := Lib.hid (HY13.out.below bE HY13.out.1)
        have HG14 := Lib.hid (HG13.out.below bE HG13.out.1)
        have HH14 := Lib.hid (HH13.out.below bE HH13.out.1)
        have rA14 := Lib.hid (rA13.out.below bE (Nat.le_refl _))
        have rM14 := Lib.hid (rM13.out.below bE (Nat.le_refl _))
        have rG14 := Lib.hid (rG13.out.below bE (Nat.le_refl _))
        have rH14 := Lib.hid (rH13.out.below bE (Nat.le_refl _))
        have HB14 := Lib.hid (HB13.out.trans (bE.mono HB13.out.size))
        have z14 := (bE).size
        clear HB13 HX13 HD113 HM13 HY13 HG13 HH13 rA13 rM13 rG13 rH13
        clear bE
        have kX_z := HX14.out.1
        have kX_0 := HX14.out.2 0 _ rfl
        have kX_1 := HX14.out.2 1 _ rfl
        have kX_2 := HX14.out.2 2 _ rfl
        have kD1_z := HD114.out.1
        have kD1_0 := HD114.out.2 0 _ rfl
        have kD1_1 := HD114.out.2 1 _ rfl
        have kM_z := HM14.out.1
        have kM_0 := HM14.out.2 0 _ rfl
        have kM_1 := HM14.out.2 1 _ rfl
        have kM_2 := HM14.out.2 2 _ rfl
        have kY_z := HY14.out.1
        have kY_0 := HY14.out.2 0 _ rfl
        have kY_1 := HY14.out.2 1 _ rfl
        have kY_2 := HY14.out.2 2 _ rfl
        have kG_z := HG14.out.1
        have kG_0 := HG14.out.2 0 _ rfl
        have kG_1 := HG14.out.2 1 _ rfl
        have kG_2 := HG14.out.2 2 _ rfl
        have kH_z := HH14.out.1
        have kH_0 := HH14.out.2 0 _ rfl
        have kH_1 := HH14.out.2 1 _ rfl
        have kH_2 := HH14.out.2 2 _ rfl
        go_wp2_with fail
        clear kX_z kX_0 kX_1 kX_2 kD1_z kD1_0 kD1_1 kM_z kM_0 kM_1 kM_2 kY_z kY_0 kY_1 kY_2 kG_z kG_0 kG_1 kG_2 kH_z kH_0 kH_1 kH_2
        refine (heldPanel_any _ W H AG n cG 1 rG14.out.row (by omega) (by omega)).mono ?_
        rintro e w15 ⟨rfl, bH⟩
        have HX15 := Lib.hid (HX14.out.below bH HX14.out.1)
        have HD115 := Lib.hid (HD114.out.below bH HD114.out.1)
        have HM15 := Lib.hid (HM14.out.below bH HM14.out.1)
        have HY15 := Lib.hid (HY14.out.below bH HY14.out.1)
        have HG15 := Lib.hid (HG14.out.below bH HG14.out.1)
        have HH15 := Lib.hid (HH14.out.below bH HH14.out.1)
        have rA15 := Lib.hid (rA14.out.below bH (Nat.le_refl _))
        have rM15 := Lib.hid (rM14.out.below bH (Nat.le_refl _))
        have rG15 := Lib.hid (rG14.out.below bH (Nat.le_refl _))
        have rH15 := Lib.hid (rH14.out.below bH (Nat.le_refl _))
        have HB15 := Lib.hid (HB14.out.trans (bH.mono HB14.out.size))
        have z15 := (bH).size
        clear HB14 HX14 HD114 HM14 HY14 HG14 HH14 rA14 rM14 rG14 rH14
        clear bH
        go_wp2
        go_ret
        exact ⟨rfl, HB15.out⟩

theorem walk (w : World) (W0 H0 : Int) (A0 : Option Addr) (n0 c0 : Nat) (zs0 : Nat → Int) (wW0 : (Lit.int .i64 W0).wf = true) (wH0 : (Lit.int .i64 H0).wf = true) (r0 : Row .i64 w A0 n0 c0 zs0) (x1 y1 : Int) (wx1 : (Lit.int .i64 x1).wf = true) (wy1 : (Lit.int .i64 y1).wf = true) (a2 : Int) (w2 : (Lit.int .i64 a2).wf = true) :
    Calls Try.prog 3 #[.agg #[.int .i64 W0, .int .i64 H0, .slice A0 n0 c0], .agg #[.int .i64 x1, .int .i64 y1], .int .i64 a2] w fun e w' => e = .returned (.bool true) ∧ Below w.heap.size w w' := by
  have hnm : n0 ≤ 9223372036854775807 := by have := r0.1; have := r0.2.1; unfold maxLen at this; omega
  by_cases hs : (n0 : Int) ≤ 1048576
  · by_cases hc : setC W0 H0 n0 zs0 x1 y1 a2 = 0
    · exact core w W0 H0 A0 n0 c0 zs0 r0 x1 y1 a2 W0 H0 0 n0 (putF zs0 (numN W0 x1 y1).toNat a2) hs (by omega) (Lib.hid fun w A c hr => specSet_ok w W0 H0 A n0 c zs0 x1 y1 a2 hr (by omega) hc) (Lib.hid fun w A c hr => implSet_ok w W0 H0 A n0 c zs0 x1 y1 a2 hr (by omega) hc)
    · exact core w W0 H0 A0 n0 c0 zs0 r0 x1 y1 a2 0 0 (setC W0 H0 n0 zs0 x1 y1 a2) 0 zs0 hs (by omega) (Lib.hid fun w A c hr => specSet_bad w W0 H0 A n0 c zs0 x1 y1 a2 hr hc) (Lib.hid fun w A c hr => implSet_bad w W0 H0 A n0 c zs0 x1 y1 a2 hr hc)
  · have hs : 1048576 < (n0 : Int) := by omega
    go_enter Try.func3, Try.ntmps3
    go_wp2_with fail
    refine (sz_no _ W0 H0 A0 n0 c0 1048576 (by omega) (by omega) hnm hs).mono ?_
    rintro e w1 ⟨rfl, b1⟩
    go_wp2
    go_ret
    exact ⟨rfl, (((Below.refl _ _).alloc (Nat.le_refl _) _).alloc (by simp) _).trans (b1.mono (by first | (simp; done) | (simp; omega)))⟩

set_option maxRecDepth 100000 in
theorem lifted (os : Os) (started : os.Started) (H : Type) (enc : TypeId × Value → H) :
    ReturnsInHanded {} Try.checked os 3 .any (Rows.fnExactSetBreakSpec.pre6 enc Try.prog Try.f3 Rows.fnExactSetBreakRow.domain false) (Rows.fnExactSetBreakSpec.post enc Try.prog Try.f3 false true false false) := by
  refine returnsInHanded_of_change (C := Try.checked) own started (by kernel_rfl) Try.func3
    (ChangeSpec.witness6 (enc := enc) (C := Try.checked) false ⟨#[], #[.agg #[.int .i64 0, .int .i64 0, .slice none 0 0], .agg #[.int .i64 0, .int .i64 0], .int .i64 0], []⟩ 8 (by kernel_rfl) (by kernel_rfl) (by kernel_rfl) (by kernel_rfl)) ?_
  intro W base args ds gs before hval0 hW hcnd _
  have hval : ∀ (j : Nat) t v, Try.f3.params[j]? = some t → args[j]? = some v → Value.okWide Try.prog W .any base t v := hval0
  have hW' := hW
  obtain ⟨p, q, hA0, hV, rfl, hfz, hnd⟩ := hW
  have hA : DataW.TrodAll enc Try.prog W 0 (fun _ => true) true Try.f3.params.toList args.toList ds p := hA0
  rw [Try.params3] at hA hval
  obtain ⟨v0, vs0, d0, ds0, p0, q0, hargs, rfl, rfl, h0, tl0⟩ := trodAll_cons hA
  obtain ⟨v1, vs1, d1, ds1, p1, q1, rfl, rfl, rfl, h1, tl1⟩ := trodAll_cons tl0
  obtain ⟨v2, vs2, d2, ds2, p2, q2, rfl, rfl, rfl, h2, tl2⟩ := trodAll_cons tl1
  obtain ⟨rfl, rfl, rfl⟩ := trodAll_nil tl2
  obtain rfl : args = #[v0, v1, v2] := by cases args; simp_all
  obtain ⟨rfl, rfl⟩ := trodVars_none hV
  have k0 := h0
  have lt0 : ∀ x ∈ p0, x.block < W.heap.size := by obtain ⟨m, hm⟩ := k0; exact DataW.trod_lt m _ _ _ hm
  have k1 := h1
  have lt1 : ∀ x ∈ p1, x.block < W.heap.size := by obtain ⟨m, hm⟩ := k1; exact DataW.trod_lt m _ _ _ hm
  have k2 := h2
  have lt2 : ∀ x ∈ p2, x.block < W.heap.size := by obtain ⟨m, hm⟩ := k2; exact DataW.trod_lt m _ _ _ hm
  obtain ⟨u00, u01, u02, y00, y01, y02, m0, rfl, rfl, hp0, g00, g01, g02⟩ := open_agg3 Try.underlying24 (by kernel_rfl) (by kernel_rfl) (hval 0 24 v0 rfl rfl) h0
  obtain ⟨W0, e00, -, wW0⟩ := DataW.trod_int Try.underlying2 g00
  obtain ⟨H0, e01, -, wH0⟩ := DataW.trod_int Try.underlying2 g01
  simp at e00 e01
  subst e00 e01
  obtain ⟨A0, n0, c0, zs0, e02, r0⟩ := row_of Try.underlying22 Try.underlying2 (by kernel_rfl) g02 (fun x hx => lt0 x (by rw [hp0]; simp [hx]))
  simp at e02
  subst e02
  obtain ⟨u10, u11, y10, y11, m1, rfl, rfl, -, g10, g11⟩ := open_agg2 Try.underlying26 (by kernel_rfl) (by kernel_rfl) (hval 1 26 v1 rfl rfl) h1
  obtain ⟨x1, e10, -, wx1⟩ := DataW.trod_int Try.underlying2 g10
  obtain ⟨y1, e11, -, wy1⟩ := DataW.trod_int Try.underlying2 g11
  simp at e10 e11
  subst e10 e11
  obtain ⟨a2, rfl, rfl, rfl, w2⟩ := open_int Try.underlying2 (hval 2 2 v2 rfl rfl) h2
  clear hA0 hval0
  refine (walk W W0 H0 A0 n0 c0 zs0 wW0 wH0 r0 x1 y1 wx1 wy1 a2 w2).mono fun e W' ⟨he, bel⟩ => ?_
  subst he
  exact ⟨_, rfl, _, _, _, [], _, [], hW', trodAll_mk1 (shut_bool Try.underlying4 _), (trodAll_cons_mk (Below.trod laidOut (by kernel_rfl) (of_decide_eq_true (by kernel_rfl)) k0 bel lt0) (trodAll_cons_mk (Below.trod laidOut (by kernel_rfl) (of_decide_eq_true (by kernel_rfl)) k1 bel lt1) (trodAll_cons_mk (Below.trod laidOut (by kernel_rfl) (of_decide_eq_true (by kernel_rfl)) k2 bel lt2) trodAll_mk0))), rfl, bel.frame _, fun h => by cases h⟩

theorem over : Rows.fnExactSetBreakRow.holds Try.pinned (OpenSpec.ofChange Rows.fnExactSetBreakSpec) :=
  OpenClaim.holds_of_wide 3 Try.f3 rfl rfl rfl rfl rfl rfl rfl ⟨rfl, rfl, rfl, rfl, rfl⟩ rfl rfl rfl rfl rfl (by kernel_rfl) Try.func3 (by kernel_rfl)
    (of_decide_eq_true (by kernel_rfl)) (by unfold Func.isWrapper; first | (rw [if_pos (by decide +kernel)]; kernel_rfl) | (rw [if_neg (by decide +kernel)]; exact ⟨rfl, rfl⟩))
    (fun os started H enc _ => lifted os started H enc)

theorem proved : Rows.FnExactSetBreakSaid := over
#print axioms proved
end Go.Proofs.Ytcnhgfgjmdbddaa.fnExactSetBreak
