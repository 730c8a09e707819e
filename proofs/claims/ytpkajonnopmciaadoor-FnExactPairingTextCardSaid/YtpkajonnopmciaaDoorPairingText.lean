/- Proved: whatever list of numbers (of at most 2^20; for longer ones the law answers true at once) PairingText of the program is called with, it answers as the model and changes nothing; the tables of Go's library start as its text lays them (the card ties them). -/
import Derived.Test.YtpkajonnopmciaaDoorCards
import Derived.Test.YtpkajonnopmciaaDoorTie
import Derived.Test.YtpkajonnopmciaaDoorBase
import Derived.Test.YtpkajonnopmciaaDoorPan
import Derived.Test.YtpkajonnopmciaaDoorPtt
import Derived.WalkKit
import Derived.ProofKit
import Derived.OpenShut
import Derived.ShutString
import Derived.OpenVars
import Derived.Handy
import Derived.Carry
import Derived.Deep.DeepHandedRow
import Derived.Lib.LaidTab
import Derived.Lib.SmallJoins
import Derived.Stop.LaidErr
import Derived.Lib.ItoaMem
namespace Go.Proofs.YtpkajonnopmciaaDoor.fnExactPairingText
open Go.ChangeShapes Go.WideShapes Go.ChangeAt Go.RowKit Go.Joins
open Go.ChangeMaps (open_string shut_string)
open Go.Proofs.YtpkajonnopmciaaDoor.Base
set_option linter.unusedVariables false
theorem own : ownKnob Tryd.prog.godebug = none := by kernel_rfl
theorem laidOut : laidOutB Tryd.prog = true := by kernel_rfl
theorem laid_tail {P : Program} {x : String × DataW Unit} {r : List (String × DataW Unit)} {W : World} (h : laidMet P (x :: r) W) : laidMet P r W := by
  obtain ⟨ps, ⟨g, t, cs, fuel, p, q, h1, h2, h3, h4, h5, e⟩, hn, hr⟩ := h
  subst e
  exact ⟨q, h5, (List.nodup_append.1 hn).2.1, fun b off hp => hr b off (List.mem_append_right _ hp)⟩
theorem table {W : World} (h : laidMetH Tryd.prog Rows.fnExactPairingTextRow.laid W) : Lib.TabIs Tryd.prog W "internal/strconv.uint64pow10" .u64 Lib.pow10Tab := by
  rw [MakeChecks.laidMetH_plain _ _ _ (by kernel_rfl)] at h
  have h2 := (laid_tail (laid_tail h))
  have e : (Rows.laid_internal_strconv_uint64pow10 : DataW Unit) = Lib.tabData .u64 Lib.pow10Tab := by kernel_rfl
  rw [e] at h2
  exact Lib.tabIs_of_head (g := 0) (by kernel_rfl) (by kernel_rfl) Tryd.underlying74 Tryd.underlying53 (by kernel_rfl) (by kernel_rfl) h2
theorem walk (w : World) (hT : Lib.TabIs Tryd.prog w "internal/strconv.uint64pow10" .u64 Lib.pow10Tab) (A0 : Option Addr) (n0 c0 : Nat) (zs0 : Nat → Int) (r0 : Row .i64 w A0 n0 c0 zs0) :
    Calls Tryd.prog 3 #[.slice A0 n0 c0] w fun e w' => e = .returned (.bool true) ∧ Below w.heap.size w w' := by
  have hm0 : n0 ≤ 9223372036854775807 := by have := r0.1; have := r0.2.1; unfold maxLen at this; omega
  by_cases hs0 : n0 ≤ 1048576
  · skip
    have HA0 := Lib.hid r0
    clear r0
    have HB := Lib.hid (Below.refl w.heap.size w)
    obtain ⟨rv0, hrv0⟩ : ∃ rv, ptT n0 zs0 = rv := ⟨_, rfl⟩
    have hr0 : (rv0.toList == rv0.toList) = true := beq_self_eq_true _
    have hr0b : (rv0.toList != rv0.toList) = false := by simp
    have HRV0 := Lib.hid hrv0
    clear hrv0
    go_enter Tryd.func3, Tryd.ntmps3
    go_wp2_with fail
    refine (toInts_any _ A0 n0 c0 zs0 HA0.out hs0).mono ?_
    rintro e w1 ⟨pS0, rfl, hpS0, rowS0, bT⟩
    replace HA0 := Lib.hid (HA0.out.below bT (Nat.le_refl _))
    replace HB := Lib.hid (HB.out.trans (bT.mono HB.out.size))
    clear bT
    have S0 := Lib.hid (Row.of_rowIs rowS0 (by unfold maxLen; omega) HA0.out.2.2.1)
    clear rowS0
    go_wp2_with fail
    refine (spec_pairingText _ (some ⟨pS0, 0, none⟩) n0 n0 zs0 S0.out).mono ?_
    rintro e w2 ⟨rfl, bT⟩
    rw [HRV0.out]
    replace HA0 := Lib.hid (HA0.out.below bT (Nat.le_refl _))
    replace S0 := Lib.hid (S0.out.below bT (Nat.le_refl _))
    replace HB := Lib.hid (HB.out.trans (bT.mono HB.out.size))
    clear bT
    clear S0 hpS0
    go_wp2_with fail
    refine (toInts_any _ A0 n0 c0 zs0 HA0.out hs0).mono ?_
    rintro e w3 ⟨pX0, rfl, hpX0, rowX0, bT⟩
    replace HA0 := Lib.hid (HA0.out.below bT (Nat.le_refl _))
    replace HB := Lib.hid (HB.out.trans (bT.mono HB.out.size))
    clear bT
    have X0 := Lib.hid (Row.of_rowIs rowX0 (by unfold maxLen; omega) HA0.out.2.2.1)
    clear rowX0
    go_wp2_with fail
    refine (impl_pairingText _ (some ⟨pX0, 0, none⟩) n0 n0 zs0 X0.out).mono ?_
    rintro e w4 ⟨rfl, bT⟩
    rw [HRV0.out]
    replace HA0 := Lib.hid (HA0.out.below bT (Nat.le_refl _))
    replace X0 := Lib.hid (X0.out.below bT (Nat.le_refl _))
    replace HB := Lib.hid (HB.out.trans (bT.mono HB.out.size))
    clear bT
    go_wp2_with fail
    refine (toInts_any _ A0 n0 c0 zs0 HA0.out hs0).mono ?_
    rintro e w5 ⟨pY0, rfl, hpY0, rowY0, bT⟩
    replace HA0 := Lib.hid (HA0.out.below bT (Nat.le_refl _))
    replace X0 := Lib.hid (X0.out.below bT (Nat.le_refl _))
    replace HB := Lib.hid (HB.out.trans (bT.mono HB.out.size))
    clear bT
    have Y0 := Lib.hid (Row.of_rowIs rowY0 (by unfold maxLen; omega) HA0.out.2.2.1)
    clear rowY0
    go_wp2_with fail
    refine (eqInts_same _ _ _ n0 n0 n0 zs0 X0.out Y0.out).mono ?_
    rintro e w6 ⟨mm0, rfl, rfl⟩
    have bT := below_of_drew (m := mm0) (w := w5) rfl
    replace HB := Lib.hid (below_drewN HB.out mm0)
    replace HA0 := Lib.hid (HA0.out.below bT (Nat.le_refl _))
    replace X0 := Lib.hid (X0.out.below bT (Nat.le_refl _))
    replace Y0 := Lib.hid (Y0.out.below bT (Nat.le_refl _))
    clear bT
    go_wp2
    go_ret
    exact ⟨rfl, HB.out⟩
  · have hs0 : 1048576 < n0 := by omega
    go_enter Tryd.func3, Tryd.ntmps3
    go_wp2
    go_ret
    exact ⟨rfl, Below.refl _ _⟩

set_option maxRecDepth 100000 in
theorem contract (H : Type) (enc : TypeId × Value → H) (W : World) (base : Nat) (args : Array Value) (ds gs : List (DataW H)) (before : List MemPlace)
    (hval0 : ∀ (j : Nat) t v, Tryd.f3.params[j]? = some t → args[j]? = some v → Value.okWide Tryd.prog W .any base t v)
    (hW : DataW.Whole enc Tryd.prog Tryd.f3.params.toList Rows.fnExactPairingTextSpec.vars false W args.toList ds gs before) (hL : laidMetH Tryd.prog Rows.fnExactPairingTextRow.laid W) :
    Calls Tryd.prog 3 args W fun e W' => ∃ v, e = .returned v ∧ Rows.fnExactPairingTextSpec.post enc Tryd.prog Tryd.f3 false true false false W args v W' := by
  have hval : ∀ (j : Nat) t v, Tryd.f3.params[j]? = some t → args[j]? = some v → Value.okWide Tryd.prog W .any base t v := hval0
  have hW' := hW
  obtain ⟨p, q, hA0, hV, rfl, hfz, hnd⟩ := hW
  have hA : DataW.TrodAll enc Tryd.prog W 0 (fun _ => true) true Tryd.f3.params.toList args.toList ds p := hA0
  rw [Tryd.params3] at hA hval
  obtain ⟨v0, vs0, d0, ds0, p0, q0, hargs, rfl, rfl, h0, tl0⟩ := trodAll_cons hA
  obtain ⟨rfl, rfl, rfl⟩ := trodAll_nil tl0
  obtain rfl : args = #[v0] := by cases args; simp_all
  obtain ⟨rfl, rfl⟩ := trodVars_none hV
  have k0 := h0
  have lt0 : ∀ x ∈ p0, x.block < W.heap.size := by obtain ⟨m, hm⟩ := k0; exact DataW.trod_lt m _ _ _ hm
  obtain ⟨A0, n0, c0, rfl⟩ := okWide_slice Tryd.underlying22 (hval 0 22 v0 rfl rfl)
  obtain ⟨zs0, r0⟩ : ∃ zs, Row .i64 W A0 n0 c0 zs := by
    obtain ⟨fuel, hf⟩ := h0
    obtain ⟨A', n', c', zs, e2, r⟩ := row_of Tryd.underlying22 Tryd.underlying2 (by kernel_rfl) hf (fun x hx => lt0 x hx)
    simp [Value.cells] at e2
    obtain ⟨rfl, rfl, rfl⟩ := e2
    exact ⟨zs, r⟩
  clear hA0 hval0
  refine (walk W (table hL) A0 n0 c0 zs0 r0).mono fun e W' ⟨he, bel⟩ => ?_
  subst he
  exact ⟨_, rfl, _, _, _, [], _, [], hW', trodAll_mk1 (shut_bool Tryd.underlying4 _), (trodAll_cons_mk (Below.trod laidOut (by kernel_rfl) (of_decide_eq_true (by kernel_rfl)) k0 bel lt0) trodAll_mk0), rfl, bel.frame _, fun h => by cases h⟩

noncomputable def low : Nat := (World.holding Tryd.prog default ⟨#[], #[], []⟩).heap.size
/-- A WORLD FOR THE WITNESS: the settled one, each listed variable holding what its initialiser lays. -/
noncomputable def laidWorld (os : Os) : World :=
  let w0 := World.holding Tryd.prog os ⟨#[], #[], []⟩
  { w0 with heap := (((w0.heap.modify 2 fun
      | .cells _ t frozen => .cells #[.int .u8 0, .int .u8 1, .int .u8 28, .int .u8 2, .int .u8 29, .int .u8 14, .int .u8 24, .int .u8 3, .int .u8 30, .int .u8 22, .int .u8 20, .int .u8 15, .int .u8 25, .int .u8 17, .int .u8 4, .int .u8 8, .int .u8 31, .int .u8 27, .int .u8 13, .int .u8 23, .int .u8 21, .int .u8 19, .int .u8 16, .int .u8 7, .int .u8 26, .int .u8 12, .int .u8 18, .int .u8 6, .int .u8 11, .int .u8 5, .int .u8 10, .int .u8 9] t frozen
      | o => o).modify 3 fun
      | .cells _ t frozen => .cells #[.int .u8 0, .int .u8 1, .int .u8 56, .int .u8 2, .int .u8 57, .int .u8 49, .int .u8 28, .int .u8 3, .int .u8 61, .int .u8 58, .int .u8 42, .int .u8 50, .int .u8 38, .int .u8 29, .int .u8 17, .int .u8 4, .int .u8 62, .int .u8 47, .int .u8 59, .int .u8 36, .int .u8 45, .int .u8 43, .int .u8 51, .int .u8 22, .int .u8 53, .int .u8 39, .int .u8 33, .int .u8 30, .int .u8 24, .int .u8 18, .int .u8 12, .int .u8 5, .int .u8 63, .int .u8 55, .int .u8 48, .int .u8 27, .int .u8 60, .int .u8 41, .int .u8 37, .int .u8 16, .int .u8 46, .int .u8 35, .int .u8 44, .int .u8 21, .int .u8 52, .int .u8 32, .int .u8 23, .int .u8 11, .int .u8 54, .int .u8 26, .int .u8 40, .int .u8 15, .int .u8 34, .int .u8 20, .int .u8 31, .int .u8 10, .int .u8 25, .int .u8 14, .int .u8 19, .int .u8 9, .int .u8 13, .int .u8 8, .int .u8 7, .int .u8 6] t frozen
      | o => o).modify 0 fun
      | .cells _ t frozen => .cells #[.int .u64 1, .int .u64 10, .int .u64 100, .int .u64 1000, .int .u64 10000, .int .u64 100000, .int .u64 1000000, .int .u64 10000000, .int .u64 100000000, .int .u64 1000000000, .int .u64 10000000000, .int .u64 100000000000, .int .u64 1000000000000, .int .u64 10000000000000, .int .u64 100000000000000, .int .u64 1000000000000000, .int .u64 10000000000000000, .int .u64 100000000000000000, .int .u64 1000000000000000000, .int .u64 10000000000000000000] t frozen
      | o => o) }
set_option maxRecDepth 100000 in
theorem laid_met (os : Os) : laidMet Tryd.prog Rows.fnExactPairingTextRow.laid ((laidWorld os).forCall (fun _ _ => 0) ⟨#[], #[.slice none 0 0], []⟩).memory :=
  laidMet_of_run' 8 (by kernel_rfl) (by kernel_rfl)
theorem reads (os : Os) {H : Type} (enc : TypeId × Value → H) : ∃ gs places, DataW.whole enc Tryd.prog ((laidWorld os).forCall (fun _ _ => 0) ⟨#[], #[.slice none 0 0], []⟩).memory Tryd.f3.params.toList Rows.fnExactPairingTextSpec.vars false (#[.slice none 0 0] : Array Value).toList 8 = some ([.nil], gs, places) :=
  ⟨[], [], by kernel_rfl⟩

set_option maxRecDepth 100000 in
theorem lifted (os : Os) (started : os.Started) (H : Type) (enc : TypeId × Value → H) (F : Stop.Interp) :
    ReturnsInHanded {} Tryd.checked os 3 .any ((OpenSpec.ofChange Rows.fnExactPairingTextSpec).preRow enc Tryd.prog Tryd.f3 Rows.fnExactPairingTextRow.domain false Rows.fnExactPairingTextRow.laid) (((OpenSpec.ofChange Rows.fnExactPairingTextSpec).at F).post enc Tryd.prog Tryd.f3 false true false false) := by
  obtain ⟨gs, places, hx⟩ := reads os enc
  refine returnsInHanded_of_row (C := Tryd.checked) (s := OpenSpec.ofChange Rows.fnExactPairingTextSpec) own started (by kernel_rfl) Tryd.func3
    (witness_row_at (enc := enc) (C := Tryd.checked) false (laidWorld os) #[.slice none 0 0] rfl (by kernel_rfl) (by kernel_rfl) (by kernel_rfl)
      (OpenSpec.preRow_of_cond 8 hx (by kernel_rfl) (fun k hk => by cases hk) (by kernel_rfl) (laid_met os))) ?_
  intro W base args ds gs before hval hW _ _ _ hL _ _
  exact contract H enc W base args ds gs before hval hW hL

theorem said : Rows.FnExactPairingTextSaid :=
  OpenClaim.holds_of_cond 3 Tryd.f3 rfl rfl rfl rfl rfl rfl rfl ⟨rfl, rfl, rfl, rfl, rfl⟩ rfl rfl rfl rfl rfl (by kernel_rfl) Tryd.func3 (by kernel_rfl)
    (of_decide_eq_true (by kernel_rfl)) (by unfold Func.isWrapper; first | (rw [if_pos (by decide +kernel)]; kernel_rfl) | (rw [if_neg (by decide +kernel)]; exact ⟨rfl, rfl⟩))
    (fun os started H enc _ F => by rw [OpenClaim.pre_eq_preRow]; exact lifted os started H enc F)

theorem plain (f : FuncId) (fn : Func) (hf : Tryd.pinned.checked.prog.funcNamed "loop.example/g00931/laws.FnExactPairingText" = some f) (hfn : Tryd.pinned.checked.prog.funcs[f]? = some fn) :
    false = Tryd.pinned.checked.prog.looks [] ∧ ∀ (j : Nat) t, fn.params[j]? = some t → Tryd.pinned.checked.prog.wantsStandIn t = false := by
  obtain rfl : f = 3 := Option.some.inj ((show Tryd.prog.funcNamed "loop.example/g00931/laws.FnExactPairingText" = some 3 by kernel_rfl).symm.trans hf) |>.symm
  obtain rfl : fn = Tryd.f3 := (Option.some.inj (Tryd.func3.symm.trans hfn)).symm
  refine ⟨by kernel_rfl, fun j t ht => ?_⟩
  rw [Tryd.params3] at ht
  match j, ht with
  | 0, ht =>
    have e : t = 22 := by simpa using ht.symm
    subst e
    exact (show Tryd.prog.wantsStandIn 22 = false by kernel_rfl)
  | j + 1, ht => simp at ht

theorem card : Rows.FnExactPairingTextCardSaid :=
  Claim7.holds_tied_plain_at .later [] _ _ _ _ said (fun _ h => by cases h) (by kernel_rfl) (fun _ h => by cases h) fnExactPairingText_row_tie rfl ⟨rfl, rfl⟩ (by kernel_rfl) rfl plain (by kernel_rfl)
#print axioms card
end Go.Proofs.YtpkajonnopmciaaDoor.fnExactPairingText
