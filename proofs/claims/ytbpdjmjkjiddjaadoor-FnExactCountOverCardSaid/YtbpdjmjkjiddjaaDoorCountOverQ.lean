/- Proved: whatever panel (of at most 2^20 breaks; for larger ones the law answers true at once) (and whatever other arguments) CountOver of the program is called with, it answers as the model and changes nothing; the table of turns starts as the program's text lays it (the card ties it). -/
import Derived.Test.YtbpdjmjkjiddjaaDoorCards
import Derived.Test.YtbpdjmjkjiddjaaDoorTie
import Derived.Test.YtbpdjmjkjiddjaaDoorBase
import Derived.Test.YtbpdjmjkjiddjaaDoorPan
import Derived.Test.YtbpdjmjkjiddjaaDoorShape
import Derived.Test.YtbpdjmjkjiddjaaDoorWlkC
import Derived.Test.YtbpdjmjkjiddjaaDoorTab
import Derived.Test.YtbpdjmjkjiddjaaDoorCtc
import Derived.Test.YtbpdjmjkjiddjaaDoorCta
import Derived.Test.YtbpdjmjkjiddjaaDoorTch
import Derived.Test.YtbpdjmjkjiddjaaDoorGA
import Derived.WalkKit
import Derived.ProofKit
import Derived.OpenShut
import Derived.ShutString
import Derived.OpenVars
import Derived.Handy
import Derived.Carry
import Derived.Deep.DeepHandedRow
import Derived.Lib.LaidTab
import Derived.Lib.SmallJoins
namespace Go.Proofs.YtbpdjmjkjiddjaaDoor.fnExactCountOver
open Go.ChangeShapes Go.WideShapes Go.ChangeAt Go.RowKit Go.Joins
open Go.ChangeMaps (open_string shut_string)
open Go.Proofs.YtbpdjmjkjiddjaaDoor.Base
set_option linter.unusedVariables false
theorem own : ownKnob Tryd.prog.godebug = none := by kernel_rfl
theorem laidOut : laidOutB Tryd.prog = true := by kernel_rfl
theorem gTab : Tryd.prog.globalNamed "loop.example/g00931/impl.turns" = some 0 := by kernel_rfl
theorem gTabType : (Tryd.prog.globals[0]?).map (·.type) = some 214 := by kernel_rfl
theorem cellsI : Tryd.prog.cellsOf 2 = 1 := by kernel_rfl
theorem cellsR : Tryd.prog.cellsOf 213 = 2 := by kernel_rfl
theorem table {W : World} (h : laidMetH Tryd.prog Rows.fnExactCountOverRow.laid W) : Cel W 0 [.int .i64 1, .int .i64 1, .int .i64 (-1), .int .i64 1, .int .i64 1, .int .i64 (-1)] := by
  rw [MakeChecks.laidMetH_plain _ _ _ (by kernel_rfl)] at h
  obtain ⟨ps, ⟨g', t', cs, fuel, p, q, hg', ht', hvar, hd, _, _⟩, _⟩ := h
  obtain rfl := Option.some.inj (gTab.symm.trans hg')
  obtain rfl := Option.some.inj (gTabType.symm.trans ht')
  refine cel_of_cells (by simp) (fun i v hv => ?_)
  rw [World.var?_cell hg' hvar i]
  have hc := cells_of_rows (n := 3) (m := 2) (rows := [[1, 1], [-1, 1], [1, -1]]) Tryd.underlying214 Tryd.underlying213 Tryd.underlying2 cellsR cellsI hd
  match i, hv with
  | 0, hv => obtain rfl := Option.some.inj hv; simpa using hc 0 0 (by decide) (by decide) _ _ rfl rfl
  | 1, hv => obtain rfl := Option.some.inj hv; simpa using hc 0 1 (by decide) (by decide) _ _ rfl rfl
  | 2, hv => obtain rfl := Option.some.inj hv; simpa using hc 1 0 (by decide) (by decide) _ _ rfl rfl
  | 3, hv => obtain rfl := Option.some.inj hv; simpa using hc 1 1 (by decide) (by decide) _ _ rfl rfl
  | 4, hv => obtain rfl := Option.some.inj hv; simpa using hc 2 0 (by decide) (by decide) _ _ rfl rfl
  | 5, hv => obtain rfl := Option.some.inj hv; simpa using hc 2 1 (by decide) (by decide) _ _ rfl rfl
  | i + 6, hv => simp at hv
theorem walk (w : World) (hT : Cel w 0 [.int .i64 1, .int .i64 1, .int .i64 (-1), .int .i64 1, .int .i64 1, .int .i64 (-1)]) (W0 H0 : Int) (A0 : Option Addr) (n0 c0 : Nat) (zs0 : Nat → Int) (wW0 : (Lit.int .i64 W0).wf = true) (wH0 : (Lit.int .i64 H0).wf = true) (r0 : Row .i64 w A0 n0 c0 zs0) (a1 : Int) (w1 : (Lit.int .i64 a1).wf = true) :
    Calls Tryd.prog 5 #[.agg #[.int .i64 W0, .int .i64 H0, .slice A0 n0 c0], .int .i64 a1] w fun e w' => e = .returned (.bool true) ∧ Below w.heap.size w w' := by
  have hnm : n0 ≤ 9223372036854775807 := by have := r0.1; have := r0.2.1; unfold maxLen at this; omega
  by_cases hs : (n0 : Int) ≤ 1048576
  · have HR := Lib.hid r0
    clear r0
    have hn20 : n0 ≤ 1048576 := by omega
    have hn63 : n0 ≤ maxLen := by unfold maxLen; omega
    have HW := Lib.hid HR.out.2.2.1
    go_enter Tryd.func5, Tryd.ntmps5
    go_wp2_with fail
    refine (sz_yes _ W0 H0 A0 n0 c0 1048576 (by omega) (by omega) hs).mono ?_
    rintro e w1 ⟨rfl, b1⟩
    have HB1 := Lib.hid (Below.trans (show Below w.heap.size w (w.alloc (.cells #[.int .i64 W0, .int .i64 H0, .slice A0 n0 c0] 31)) from ((Below.refl w.heap.size w).alloc (by simp) _)) (b1.mono (by first | (simp; done) | (simp; omega))))
    have HX1 : Hid (Cel w1 (w.heap.size) [.int .i64 W0, .int .i64 H0, .slice A0 n0 c0]) := Lib.hid (by have h := ((Cel.new w [.int .i64 W0, .int .i64 H0, .slice A0 n0 c0] 31).below b1 (by first | (simp; done) | (simp; omega))); simpa using h)
    have HA1 := Lib.hid (HR.out.below HB1.out (Nat.le_refl _))
    have HT1 := Lib.hid (hT.below HB1.out hT.1)
    clear b1 HR
    have kX_z := HX1.out.1
    have kX_0 := HX1.out.2 0 _ rfl
    have kX_1 := HX1.out.2 1 _ rfl
    have kX_2 := HX1.out.2 2 _ rfl
    go_wp2_with fail
    refine (toPanel_any _ W0 H0 A0 n0 c0 zs0 HA1.out hn20).mono ?_
    rintro e wP ⟨bP, rfl, hbP, hrowP, bbP⟩
    clear kX_z kX_0 kX_1 kX_2
    have HXP := Lib.hid (HX1.out.below bbP HX1.out.1)
    have HTP := Lib.hid (HT1.out.below bbP HT1.out.1)
    have HBP := Lib.hid (HB1.out.trans (bbP.mono HB1.out.size))
    have HRP := Lib.hid (Row.of_rowIs hrowP hn63 HW.out)
    have HAP := Lib.hid (HA1.out.below bbP (Nat.le_refl _))
    clear bbP hrowP hbP HB1 HA1
    clear HX1 HT1
    go_wp2_with fail
    refine (spec_countOver _ W0 H0 _ n0 n0 zs0 a1 HRP.out).mono ?_
    rintro e w2 ⟨rfl, b2⟩
    have HX2 := Lib.hid (HXP.out.below b2 HXP.out.1)
    have HT2 := Lib.hid (HTP.out.below b2 HTP.out.1)
    have HB2 := Lib.hid (HBP.out.trans (b2.mono HBP.out.size))
    have HA2 := Lib.hid (HAP.out.below b2 (Nat.le_refl _))
    clear b2 HBP HAP HRP
    clear HXP HTP
    have kX_z := HX2.out.1
    have kX_0 := HX2.out.2 0 _ rfl
    have kX_1 := HX2.out.2 1 _ rfl
    have kX_2 := HX2.out.2 2 _ rfl
    go_wp2_with fail
    refine (toPanel_any _ W0 H0 A0 n0 c0 zs0 HA2.out hn20).mono ?_
    rintro e w4 ⟨bq, rfl, hbq, hrow4, b4⟩
    clear kX_z kX_0 kX_1 kX_2
    have HX4 := Lib.hid (HX2.out.below b4 HX2.out.1)
    have HT4 := Lib.hid (HT2.out.below b4 HT2.out.1)
    have HB4 := Lib.hid (HB2.out.trans (b4.mono HB2.out.size))
    have HA4 := Lib.hid (HA2.out.below b4 (Nat.le_refl _))
    have HR4 := Lib.hid (Row.of_rowIs hrow4 hn63 HW.out)
    clear b4 hrow4 hbq HB2 HA2
    clear HX2 HT2
    go_wp2_with fail
    have bN := (Below.refl w4.heap.size w4).alloc (Nat.le_refl _) (.cells #[.int .i64 W0, .int .i64 H0, .slice (some ⟨bq, 0, none⟩) n0 n0] 35)
    have HX5 := Lib.hid (HX4.out.below bN HX4.out.1)
    have HT5 := Lib.hid (HT4.out.below bN HT4.out.1)
    have HY5 := Lib.hid (Cel.new w4 [.int .i64 W0, .int .i64 H0, .slice (some ⟨bq, 0, none⟩) n0 n0] 35)
    have HB5 := Lib.hid (HB4.out.trans (bN.mono HB4.out.size))
    have HA5 := Lib.hid (HA4.out.below bN (Nat.le_refl _))
    have HR5 := Lib.hid (HR4.out.below bN (Nat.le_refl _))
    clear bN HB4 HA4 HR4
    clear HX4 HT4
    generalize w4.alloc (.cells #[.int .i64 W0, .int .i64 H0, .slice (some ⟨bq, 0, none⟩) n0 n0] 35) = w5 at *
    generalize w4.heap.size = bY at *
    refine (impl_countOver _ W0 H0 _ n0 n0 zs0 a1 HR5.out HT5.out).mono ?_
    rintro e w6 ⟨rfl, b6⟩
    have HX6 := Lib.hid (HX5.out.below b6 HX5.out.1)
    have HT6 := Lib.hid (HT5.out.below b6 HT5.out.1)
    have HY6 := Lib.hid (HY5.out.below b6 HY5.out.1)
    have HB6 := Lib.hid (HB5.out.trans (b6.mono HB5.out.size))
    have HA6 := Lib.hid (HA5.out.below b6 (Nat.le_refl _))
    have HR6 := Lib.hid (HR5.out.below b6 (Nat.le_refl _))
    clear b6 HB5 HA5 HR5
    clear HX5 HT5 HY5
    have kX_z := HX6.out.1
    have kX_0 := HX6.out.2 0 _ rfl
    have kX_1 := HX6.out.2 1 _ rfl
    have kX_2 := HX6.out.2 2 _ rfl
    have kY_z := HY6.out.1
    have kY_0 := HY6.out.2 0 _ rfl
    have kY_1 := HY6.out.2 1 _ rfl
    have kY_2 := HY6.out.2 2 _ rfl
    have hv0 : ((coV W0 H0 n0 zs0 a1) != (coV W0 H0 n0 zs0 a1)) = false := by simp
    have hv1 : ((cuC W0 H0 n0 zs0 a1) != (cuC W0 H0 n0 zs0 a1)) = false := by simp
    have OL := Lib.hid (Old.mk_ (Below.refl w6.heap.size w6).drew)
    go_wp2
    go_region_held3 (fun w' => (∀ b o, b < w6.heap.size → w'.cell? ⟨b, o, none⟩ = w6.cell? ⟨b, o, none⟩) ∧ Below w6.heap.size w6 w')
      (first | assumption | exact OL.out | exact Old.trans (by assumption) (by assumption))
      (first | (go_at_call 16; refine (toPanel_any _ W0 H0 A0 n0 c0 zs0 ?_ hn20).mono ?_; exact HA6.out.old (by assumption); rintro e w7 ⟨bz, rfl, hbz, hrow7, b7⟩) | (go_at_call 18; refine (eqPanel_same _ W0 H0 _ _ n0 n0 n0 zs0 ?_ ?_).mono ?_; exact HR6.out.old (by assumption); exact Row.of_rowIs hrow7 hn63 HW.out; rintro e w8 ⟨rfl, b8⟩))
    rename_i hS
    have hB := hS.2
    clear hS
    go_wp2
    go_ret
    exact ⟨rfl, HB6.out.trans (hB.mono HB6.out.size)⟩
  · have hs : 1048576 < (n0 : Int) := by omega
    go_enter Tryd.func5, Tryd.ntmps5
    go_wp2_with fail
    refine (sz_no _ W0 H0 A0 n0 c0 1048576 (by omega) (by omega) hnm hs).mono ?_
    rintro e w1 ⟨rfl, b1⟩
    go_wp2
    go_ret
    exact ⟨rfl, Below.trans (show Below w.heap.size w (w.alloc (.cells #[.int .i64 W0, .int .i64 H0, .slice A0 n0 c0] 31)) from ((Below.refl w.heap.size w).alloc (by simp) _)) (b1.mono (by first | (simp; done) | (simp; omega)))⟩

set_option maxRecDepth 100000 in
theorem contract (H : Type) (enc : TypeId × Value → H) (W : World) (base : Nat) (args : Array Value) (ds gs : List (DataW H)) (before : List MemPlace)
    (hval0 : ∀ (j : Nat) t v, Tryd.f5.params[j]? = some t → args[j]? = some v → Value.okWide Tryd.prog W .any base t v)
    (hW : DataW.Whole enc Tryd.prog Tryd.f5.params.toList Rows.fnExactCountOverSpec.vars false W args.toList ds gs before) (hL : laidMetH Tryd.prog Rows.fnExactCountOverRow.laid W) :
    Calls Tryd.prog 5 args W fun e W' => ∃ v, e = .returned v ∧ Rows.fnExactCountOverSpec.post enc Tryd.prog Tryd.f5 false true false false W args v W' := by
  have hval : ∀ (j : Nat) t v, Tryd.f5.params[j]? = some t → args[j]? = some v → Value.okWide Tryd.prog W .any base t v := hval0
  have hW' := hW
  obtain ⟨p, q, hA0, hV, rfl, hfz, hnd⟩ := hW
  have hA : DataW.TrodAll enc Tryd.prog W 0 (fun _ => true) true Tryd.f5.params.toList args.toList ds p := hA0
  rw [Tryd.params5] at hA hval
  obtain ⟨v0, vs0, d0, ds0, p0, q0, hargs, rfl, rfl, h0, tl0⟩ := trodAll_cons hA
  obtain ⟨v1, vs1, d1, ds1, p1, q1, rfl, rfl, rfl, h1, tl1⟩ := trodAll_cons tl0
  obtain ⟨rfl, rfl, rfl⟩ := trodAll_nil tl1
  obtain rfl : args = #[v0, v1] := by cases args; simp_all
  have k0 := h0
  have lt0 : ∀ x ∈ p0, x.block < W.heap.size := by obtain ⟨m, hm⟩ := k0; exact DataW.trod_lt m _ _ _ hm
  have k1 := h1
  have lt1 : ∀ x ∈ p1, x.block < W.heap.size := by obtain ⟨m, hm⟩ := k1; exact DataW.trod_lt m _ _ _ hm
  obtain ⟨u00, u01, u02, y00, y01, y02, m0, rfl, rfl, hp0, g00, g01, g02⟩ := open_agg3 Tryd.underlying31 (by kernel_rfl) (by kernel_rfl) (hval 0 31 v0 rfl rfl) h0
  obtain ⟨W0, e00, -, wW0⟩ := DataW.trod_int Tryd.underlying2 g00
  obtain ⟨H0, e01, -, wH0⟩ := DataW.trod_int Tryd.underlying2 g01
  simp at e00 e01
  subst e00 e01
  obtain ⟨A0, n0, c0, zs0, e02, r0⟩ := row_of Tryd.underlying29 Tryd.underlying2 (by kernel_rfl) g02 (fun x hx => lt0 x (by rw [hp0]; simp [hx]))
  simp at e02
  subst e02
  obtain ⟨a1, rfl, rfl, rfl, w1⟩ := open_int Tryd.underlying2 (hval 1 2 v1 rfl rfl) h1
  clear hA0 hval0
  refine (walk W (table hL) W0 H0 A0 n0 c0 zs0 wW0 wH0 r0 a1 w1).mono fun e W' ⟨he, bel⟩ => ?_
  subst he
  match gs, hV with
  | [g1], hV =>
    exact ⟨_, rfl, _, _, _, [], _, q, hW', trodAll_mk1 (shut_bool Tryd.underlying4 _), (trodAll_cons_mk (Below.trod laidOut (by kernel_rfl) (of_decide_eq_true (by kernel_rfl)) k0 bel lt0) (trodAll_cons_mk (Below.trod laidOut (by kernel_rfl) (of_decide_eq_true (by kernel_rfl)) k1 bel lt1) trodAll_mk0)), Below.trodVars laidOut bel (by kernel_rfl) hV, bel.frame _, fun h => by cases h⟩

/-- A WORLD FOR THE WITNESS: the settled one, the table holding what its initialiser lays. -/
noncomputable def laidWorld (os : Os) : World :=
  { World.holding Tryd.prog os ⟨#[], #[], []⟩ with heap := (World.holding Tryd.prog os ⟨#[], #[], []⟩).heap.modify 0 fun
      | .cells _ t frozen => .cells #[.int .i64 1, .int .i64 1, .int .i64 (-1), .int .i64 1, .int .i64 1, .int .i64 (-1)] t frozen
      | o => o }
theorem laid_met (os : Os) : laidMet Tryd.prog Rows.fnExactCountOverRow.laid ((laidWorld os).forCall (fun _ _ => 0) ⟨#[], #[.agg #[.int .i64 0, .int .i64 0, .slice none 0 0], .int .i64 0], []⟩).memory :=
  laidMet_of_run' 8 (by kernel_rfl) (by kernel_rfl)
theorem reads (os : Os) {H : Type} (enc : TypeId × Value → H) : ∃ gs places, DataW.whole enc Tryd.prog ((laidWorld os).forCall (fun _ _ => 0) ⟨#[], #[.agg #[.int .i64 0, .int .i64 0, .slice none 0 0], .int .i64 0], []⟩).memory Tryd.f5.params.toList Rows.fnExactCountOverSpec.vars false (#[.agg #[.int .i64 0, .int .i64 0, .slice none 0 0], .int .i64 0] : Array Value).toList 8 = some ([.agg [.lit (.int .i64 0), .lit (.int .i64 0), .nil], .lit (.int .i64 0)], gs, places) :=
  ⟨[Rows.laid_loop_example_g00931_impl_turns], [.cell 0 0, .cell 0 1, .cell 0 2, .cell 0 3, .cell 0 4, .cell 0 5], by kernel_rfl⟩

set_option maxRecDepth 100000 in
theorem lifted (os : Os) (started : os.Started) (H : Type) (enc : TypeId × Value → H) (F : Stop.Interp) :
    ReturnsInHanded {} Tryd.checked os 5 .any ((OpenSpec.ofChange Rows.fnExactCountOverSpec).preRow enc Tryd.prog Tryd.f5 Rows.fnExactCountOverRow.domain false Rows.fnExactCountOverRow.laid) (((OpenSpec.ofChange Rows.fnExactCountOverSpec).at F).post enc Tryd.prog Tryd.f5 false true false false) := by
  obtain ⟨gs, places, hx⟩ := reads os enc
  refine returnsInHanded_of_row (C := Tryd.checked) (s := OpenSpec.ofChange Rows.fnExactCountOverSpec) own started (by kernel_rfl) Tryd.func5
    (witness_row_at (enc := enc) (C := Tryd.checked) false (laidWorld os) #[.agg #[.int .i64 0, .int .i64 0, .slice none 0 0], .int .i64 0] rfl (by kernel_rfl) (by kernel_rfl) (by kernel_rfl)
      (OpenSpec.preRow_of_cond 8 hx (by kernel_rfl) (fun k hk => by cases hk) (by kernel_rfl) (laid_met os))) ?_
  intro W base args ds gs before hval hW _ _ _ hL _ _
  exact contract H enc W base args ds gs before hval hW hL

theorem said : Rows.FnExactCountOverSaid :=
  OpenClaim.holds_of_cond 5 Tryd.f5 rfl rfl rfl rfl rfl rfl rfl ⟨rfl, rfl, rfl, rfl, rfl⟩ rfl rfl rfl rfl rfl (by kernel_rfl) Tryd.func5 (by kernel_rfl)
    (of_decide_eq_true (by kernel_rfl)) (by unfold Func.isWrapper; first | (rw [if_pos (by decide +kernel)]; kernel_rfl) | (rw [if_neg (by decide +kernel)]; exact ⟨rfl, rfl⟩))
    (fun os started H enc _ F => by rw [OpenClaim.pre_eq_preRow]; exact lifted os started H enc F)


theorem plain (f : FuncId) (fn : Func) (hf : Tryd.pinned.checked.prog.funcNamed "loop.example/g00931/laws.FnExactCountOver" = some f) (hfn : Tryd.pinned.checked.prog.funcs[f]? = some fn) :
    true = Tryd.pinned.checked.prog.looks [] ∧ ∀ (j : Nat) t, fn.params[j]? = some t → Tryd.pinned.checked.prog.wantsStandIn t = false := by
  obtain rfl : f = 5 := Option.some.inj ((show Tryd.prog.funcNamed "loop.example/g00931/laws.FnExactCountOver" = some 5 by kernel_rfl).symm.trans hf) |>.symm
  obtain rfl : fn = Tryd.f5 := (Option.some.inj (Tryd.func5.symm.trans hfn)).symm
  refine ⟨by kernel_rfl, fun j t ht => ?_⟩
  rw [Tryd.params5] at ht
  match j, ht with
  | 0, ht =>
    have e : t = 31 := by simpa using ht.symm
    subst e
    exact (show Tryd.prog.wantsStandIn 31 = false by kernel_rfl)
  | 1, ht =>
    have e : t = 2 := by simpa using ht.symm
    subst e
    exact (show Tryd.prog.wantsStandIn 2 = false by kernel_rfl)
  | j + 2, ht => simp at ht

theorem card : Rows.FnExactCountOverCardSaid :=
  Claim7.holds_tied_plain_at .later [] _ _ _ _ said (fun _ h => by cases h) (by kernel_rfl) (fun _ h => by cases h) fnExactCountOver_row_tie rfl ⟨rfl, rfl⟩ (by kernel_rfl) rfl plain (by kernel_rfl)
#print axioms card
end Go.Proofs.YtbpdjmjkjiddjaaDoor.fnExactCountOver
