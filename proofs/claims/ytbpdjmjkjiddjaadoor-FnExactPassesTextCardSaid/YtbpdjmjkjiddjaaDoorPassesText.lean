/- Proved: whatever list of passes (of at most 2^20; for longer ones the law answers true at once) PassesText of the program is called with, it answers as the model and changes nothing; the tables of Go's library start as its text lays them (the card ties them). -/
import Derived.Test.YtbpdjmjkjiddjaaDoorCards
import Derived.Test.YtbpdjmjkjiddjaaDoorTie
import Derived.Test.YtbpdjmjkjiddjaaDoorBase
import Derived.Test.YtbpdjmjkjiddjaaDoorPan
import Derived.Test.YtbpdjmjkjiddjaaDoorHeap
import Derived.Test.YtbpdjmjkjiddjaaDoorShape
import Derived.Test.YtbpdjmjkjiddjaaDoorWls
import Derived.Test.YtbpdjmjkjiddjaaDoorQps
import Derived.Test.YtbpdjmjkjiddjaaDoorPxt
import Derived.WalkKit
import Derived.ProofKit
import Derived.OpenShut
import Derived.ShutString
import Derived.OpenVars
import Derived.Handy
import Derived.Carry
import Derived.Deep.DeepHandedRow
import Derived.Lib.LaidTab
import Derived.Lib.SmallJoins
import Derived.Stop.LaidErr
import Derived.Lib.ItoaMem
namespace Go.Proofs.YtbpdjmjkjiddjaaDoor.fnExactPassesText
open Go.ChangeShapes Go.WideShapes Go.ChangeAt Go.RowKit Go.Joins
open Go.ChangeMaps (open_string shut_string)
open Go.Proofs.YtbpdjmjkjiddjaaDoor.Base
set_option linter.unusedVariables false
theorem own : ownKnob Tryd.prog.godebug = none := by kernel_rfl
theorem laidOut : laidOutB Tryd.prog = true := by kernel_rfl
theorem laid_tail {P : Program} {x : String × DataW Unit} {r : List (String × DataW Unit)} {W : World} (h : laidMet P (x :: r) W) : laidMet P r W := by
  obtain ⟨ps, ⟨g, t, cs, fuel, p, q, h1, h2, h3, h4, h5, e⟩, hn, hr⟩ := h
  subst e
  exact ⟨q, h5, (List.nodup_append.1 hn).2.1, fun b off hp => hr b off (List.mem_append_right _ hp)⟩
theorem table {W : World} (h : laidMetH Tryd.prog Rows.fnExactPassesTextRow.laid W) : Lib.TabIs Tryd.prog W "internal/strconv.uint64pow10" .u64 Lib.pow10Tab := by
  rw [MakeChecks.laidMetH_plain _ _ _ (by kernel_rfl)] at h
  have h2 := (laid_tail (laid_tail h))
  have e : (Rows.laid_internal_strconv_uint64pow10 : DataW Unit) = Lib.tabData .u64 Lib.pow10Tab := by kernel_rfl
  rw [e] at h2
  exact Lib.tabIs_of_head (g := 2) (by kernel_rfl) (by kernel_rfl) Tryd.underlying230 Tryd.underlying145 (by kernel_rfl) (by kernel_rfl) h2
set_option maxHeartbeats 4000000 in
theorem core (w : World) (A0 : Option Addr) (n0 c0 : Nat) (zs0 : Nat → Int) (rs : ByteArray) (r0 : RowP w A0 n0 c0 zs0) (hs : (n0 : Int) ≤ 1048576) (hT : Lib.TabIs Tryd.prog w "internal/strconv.uint64pow10" .u64 Lib.pow10Tab)
    (HS : Hid (∀ (w : World) (A0 : Option Addr) (c0 : Nat), RowP w A0 n0 c0 zs0 → Calls Tryd.prog 10 #[.slice A0 n0 c0] w (Gives (.string rs) w)))
    (HI : Hid (∀ (w : World) (A0 : Option Addr) (c0 : Nat), RowP w A0 n0 c0 zs0 → Lib.TabIs Tryd.prog w "internal/strconv.uint64pow10" .u64 Lib.pow10Tab → Calls Tryd.prog 12 #[.slice A0 n0 c0] w (Gives (.string rs) w))) :
    Calls Tryd.prog 3 #[.slice A0 n0 c0] w fun e w' => e = .returned (.bool true) ∧ Below w.heap.size w w' := by
    have HR0 := Lib.hid r0; have HT0 := Lib.hid hT; clear hT
    have HQA0 : Hid (0 < n0 → ∀ b, blk A0 = some b → b < w.heap.size) := Lib.hid (r0.blk_lt)
    have hn0 : n0 ≤ 1048576 := by omega
    clear r0
    have hrs : (rs.toList == rs.toList) = true := beq_self_eq_true _; have hrsb : (rs.toList != rs.toList) = false := by simp
    go_enter Tryd.func3, Tryd.ntmps3
    have HB0 : Hid (Below w.heap.size w w) := Lib.hid (Below.refl w.heap.size w)
    have rA0_0 := Lib.hid (HR0.out.below HB0.out (Nat.le_refl _))
    clear HR0
    have z0 := HB0.out.size
    have z0e : (w).heap.size = w.heap.size + 0 := by simp
    go_wp2_with fail
    refine (szPasses_yes _ A0 n0 c0 (1048576) (by omega) (by omega) (by omega)).mono ?_
    rintro e w1 ⟨rfl, bT⟩
    have rA0_1 := Lib.hid (rA0_0.out.below bT (Nat.le_refl _))
    have HB1 := Lib.hid (HB0.out.trans (bT.mono HB0.out.size))
    have z1 := (bT).size
    clear HB0 rA0_0
    clear bT
    go_wp2_with fail
    refine (toPasses_any _ A0 n0 c0 zs0 rA0_1.out hn0).mono ?_
    rintro e w2 ⟨AP0, cP0, rfl, RM, bT⟩
    have HQP0 : Hid (0 < n0 → ∀ b, blk AP0 = some b → w1.heap.size ≤ b ∧ b < w2.heap.size) := Lib.hid (fun hn b hb => ⟨RM.blk_ge hn b hb, RM.row.blk_lt hn b hb⟩)
    have rA0_2 := Lib.hid (rA0_1.out.below bT (Nat.le_refl _))
    have HB2 := Lib.hid (HB1.out.trans (bT.mono HB1.out.size))
    have z2 := (bT).size
    clear HB1 rA0_1
    clear bT
    have rP0_2 := Lib.hid RM
    clear RM
    go_wp2_with fail
    refine (HS.out _ _ _ rP0_2.out.row).mono ?_
    rintro e w3 ⟨rfl, bC⟩
    clear rP0_2
    have rA0_3 := Lib.hid (rA0_2.out.below bC (Nat.le_refl _))
    have HB3 := Lib.hid (HB2.out.trans (bC.mono HB2.out.size))
    have z3 := (bC).size
    clear HB2 rA0_2
    clear bC
    go_wp2_with fail
    refine (toPasses_any _ A0 n0 c0 zs0 rA0_3.out hn0).mono ?_
    rintro e w4 ⟨AX0, cX0, rfl, RM, bT⟩
    have HQX0 : Hid (0 < n0 → ∀ b, blk AX0 = some b → w3.heap.size ≤ b ∧ b < w4.heap.size) := Lib.hid (fun hn b hb => ⟨RM.blk_ge hn b hb, RM.row.blk_lt hn b hb⟩)
    have rA0_4 := Lib.hid (rA0_3.out.below bT (Nat.le_refl _))
    have HB4 := Lib.hid (HB3.out.trans (bT.mono HB3.out.size))
    have z4 := (bT).size
    clear HB3 rA0_3
    clear bT
    have rX0_4 := Lib.hid RM
    clear RM
    go_wp2_with fail
    refine (HI.out _ _ _ rX0_4.out.row (tab_below HT0.out HB4.out)).mono ?_
    rintro e w5 ⟨rfl, bC⟩
    have rA0_5 := Lib.hid (rA0_4.out.below bC (Nat.le_refl _))
    have rX0_5 := Lib.hid (rX0_4.out.below bC (Nat.le_refl _))
    have HB5 := Lib.hid (HB4.out.trans (bC.mono HB4.out.size))
    have z5 := (bC).size
    clear HB4 rA0_4 rX0_4
    clear bC
    go_wp2_with fail
    refine (toPasses_any _ A0 n0 c0 zs0 rA0_5.out hn0).mono ?_
    rintro e w6 ⟨AZ, cZ, rfl, RM, bT⟩
    have HQZ : Hid (0 < n0 → ∀ b, blk AZ = some b → w5.heap.size ≤ b ∧ b < w6.heap.size) := Lib.hid (fun hn b hb => ⟨RM.blk_ge hn b hb, RM.row.blk_lt hn b hb⟩)
    have rA0_6 := Lib.hid (rA0_5.out.below bT (Nat.le_refl _))
    have rX0_6 := Lib.hid (rX0_5.out.below bT (Nat.le_refl _))
    have HB6 := Lib.hid (HB5.out.trans (bT.mono HB5.out.size))
    have z6 := (bT).size
    clear HB5 rA0_5 rX0_5
    clear bT
    have rZ_6 := Lib.hid RM
    clear RM
    go_wp2_with fail
    refine (eqPasses_same _ AX0 AZ n0 cX0 cZ zs0 rX0_6.out.row rZ_6.out.row).mono ?_
    rintro e w7 ⟨rfl, bE⟩
    have rA0_7 := Lib.hid (rA0_6.out.below bE (Nat.le_refl _))
    have rX0_7 := Lib.hid (rX0_6.out.below bE (Nat.le_refl _))
    have rZ_7 := Lib.hid (rZ_6.out.below bE (Nat.le_refl _))
    have HB7 := Lib.hid (HB6.out.trans (bE.mono HB6.out.size))
    have z7 := (bE).size
    clear HB6 rA0_6 rX0_6 rZ_6
    clear bE
    clear rZ_7
    go_wp2
    go_ret
    exact ⟨rfl, HB7.out⟩

theorem walk (w : World) (hT : Lib.TabIs Tryd.prog w "internal/strconv.uint64pow10" .u64 Lib.pow10Tab) (A0 : Option Addr) (n0 c0 : Nat) (zs0 : Nat → Int) (r0 : RowP w A0 n0 c0 zs0) :
    Calls Tryd.prog 3 #[.slice A0 n0 c0] w fun e w' => e = .returned (.bool true) ∧ Below w.heap.size w w' := by
  have hm0 : n0 ≤ 9223372036854775807 := by have := r0.1; have := r0.2.1; unfold maxLen at this; omega
  by_cases hs : (n0 : Int) ≤ 1048576
  · exact core w A0 n0 c0 zs0 (pxS zs0 n0) r0 hs hT (Lib.hid fun w A c h => spec_passesText w A n0 c zs0 h (by omega)) (Lib.hid fun w A c h ht => impl_passesText w A n0 c zs0 h (by omega) ht)
  · skip
    go_enter Tryd.func3, Tryd.ntmps3
    have HB0 : Hid (Below w.heap.size w w) := Lib.hid (Below.refl w.heap.size w)
    go_wp2_with fail
    refine (szPasses_no _ A0 n0 c0 (1048576) (by omega) (by omega) hm0 (by omega)).mono ?_
    rintro e w1 ⟨rfl, bT⟩
    have HB1 := Lib.hid (HB0.out.trans (bT.mono HB0.out.size))
    clear HB0 bT
    go_wp2
    go_ret
    exact ⟨rfl, HB1.out⟩

set_option maxRecDepth 100000 in
theorem contract (H : Type) (enc : TypeId × Value → H) (W : World) (base : Nat) (args : Array Value) (ds gs : List (DataW H)) (before : List MemPlace)
    (hval0 : ∀ (j : Nat) t v, Tryd.f3.params[j]? = some t → args[j]? = some v → Value.okWide Tryd.prog W .any base t v)
    (hW : DataW.Whole enc Tryd.prog Tryd.f3.params.toList Rows.fnExactPassesTextSpec.vars false W args.toList ds gs before) (hL : laidMetH Tryd.prog Rows.fnExactPassesTextRow.laid W) :
    Calls Tryd.prog 3 args W fun e W' => ∃ v, e = .returned v ∧ Rows.fnExactPassesTextSpec.post enc Tryd.prog Tryd.f3 false true false false W args v W' := by
  have hval : ∀ (j : Nat) t v, Tryd.f3.params[j]? = some t → args[j]? = some v → Value.okWide Tryd.prog W .any base t v := hval0
  have hW' := hW
  obtain ⟨p, q, hA0, hV, rfl, hfz, hnd⟩ := hW
  have hA : DataW.TrodAll enc Tryd.prog W 0 (fun _ => true) true Tryd.f3.params.toList args.toList ds p := hA0
  rw [Tryd.params3] at hA hval
  obtain ⟨v0, vs0, d0, ds0, p0, q0, hargs, rfl, rfl, h0, tl0⟩ := trodAll_cons hA
  obtain ⟨rfl, rfl, rfl⟩ := trodAll_nil tl0
  obtain rfl : args = #[v0] := by cases args; simp_all
  obtain ⟨rfl, rfl⟩ := trodVars_none hV
  have k0 := h0
  have lt0 : ∀ x ∈ p0, x.block < W.heap.size := by obtain ⟨m, hm⟩ := k0; exact DataW.trod_lt m _ _ _ hm
  obtain ⟨A0, n0, c0, rfl⟩ := okWide_slice Tryd.underlying22 (hval 0 22 v0 rfl rfl)
  obtain ⟨zs0, r0⟩ : ∃ zs, RowP W A0 n0 c0 zs := by
    obtain ⟨fuel, hf⟩ := h0
    obtain ⟨A', n', c', zs, e2, r⟩ := rowP_of Tryd.underlying22 Tryd.underlying73 (by kernel_rfl) rfl rfl (by kernel_rfl) (by kernel_rfl) Tryd.underlying2 Tryd.underlying4 hf
    simp [Value.cells] at e2
    obtain ⟨rfl, rfl, rfl⟩ := e2
    exact ⟨zs, r⟩
  clear hA0 hval0
  refine (walk W (table hL) A0 n0 c0 zs0 r0).mono fun e W' ⟨he, bel⟩ => ?_
  subst he
  exact ⟨_, rfl, _, _, _, [], _, [], hW', trodAll_mk1 (shut_bool Tryd.underlying4 _), (trodAll_cons_mk (Below.trod laidOut (by kernel_rfl) (of_decide_eq_true (by kernel_rfl)) k0 bel lt0) trodAll_mk0), rfl, bel.frame _, fun h => by cases h⟩

noncomputable def low : Nat := (World.holding Tryd.prog default ⟨#[], #[], []⟩).heap.size
/-- A WORLD FOR THE WITNESS: the settled one, each listed variable holding what its initialiser lays. -/
noncomputable def laidWorld (os : Os) : World :=
  let w0 := World.holding Tryd.prog os ⟨#[], #[], []⟩
  { w0 with heap := (((w0.heap.modify 5 fun
      | .cells _ t frozen => .cells #[.int .u8 0, .int .u8 1, .int .u8 28, .int .u8 2, .int .u8 29, .int .u8 14, .int .u8 24, .int .u8 3, .int .u8 30, .int .u8 22, .int .u8 20, .int .u8 15, .int .u8 25, .int .u8 17, .int .u8 4, .int .u8 8, .int .u8 31, .int .u8 27, .int .u8 13, .int .u8 23, .int .u8 21, .int .u8 19, .int .u8 16, .int .u8 7, .int .u8 26, .int .u8 12, .int .u8 18, .int .u8 6, .int .u8 11, .int .u8 5, .int .u8 10, .int .u8 9] t frozen
      | o => o).modify 6 fun
      | .cells _ t frozen => .cells #[.int .u8 0, .int .u8 1, .int .u8 56, .int .u8 2, .int .u8 57, .int .u8 49, .int .u8 28, .int .u8 3, .int .u8 61, .int .u8 58, .int .u8 42, .int .u8 50, .int .u8 38, .int .u8 29, .int .u8 17, .int .u8 4, .int .u8 62, .int .u8 47, .int .u8 59, .int .u8 36, .int .u8 45, .int .u8 43, .int .u8 51, .int .u8 22, .int .u8 53, .int .u8 39, .int .u8 33, .int .u8 30, .int .u8 24, .int .u8 18, .int .u8 12, .int .u8 5, .int .u8 63, .int .u8 55, .int .u8 48, .int .u8 27, .int .u8 60, .int .u8 41, .int .u8 37, .int .u8 16, .int .u8 46, .int .u8 35, .int .u8 44, .int .u8 21, .int .u8 52, .int .u8 32, .int .u8 23, .int .u8 11, .int .u8 54, .int .u8 26, .int .u8 40, .int .u8 15, .int .u8 34, .int .u8 20, .int .u8 31, .int .u8 10, .int .u8 25, .int .u8 14, .int .u8 19, .int .u8 9, .int .u8 13, .int .u8 8, .int .u8 7, .int .u8 6] t frozen
      | o => o).modify 2 fun
      | .cells _ t frozen => .cells #[.int .u64 1, .int .u64 10, .int .u64 100, .int .u64 1000, .int .u64 10000, .int .u64 100000, .int .u64 1000000, .int .u64 10000000, .int .u64 100000000, .int .u64 1000000000, .int .u64 10000000000, .int .u64 100000000000, .int .u64 1000000000000, .int .u64 10000000000000, .int .u64 100000000000000, .int .u64 1000000000000000, .int .u64 10000000000000000, .int .u64 100000000000000000, .int .u64 1000000000000000000, .int .u64 10000000000000000000] t frozen
      | o => o) }
set_option maxRecDepth 100000 in
theorem laid_met (os : Os) : laidMet Tryd.prog Rows.fnExactPassesTextRow.laid ((laidWorld os).forCall (fun _ _ => 0) ⟨#[], #[.slice none 0 0], []⟩).memory :=
  laidMet_of_run' 8 (by kernel_rfl) (by kernel_rfl)
theorem reads (os : Os) {H : Type} (enc : TypeId × Value → H) : ∃ gs places, DataW.whole enc Tryd.prog ((laidWorld os).forCall (fun _ _ => 0) ⟨#[], #[.slice none 0 0], []⟩).memory Tryd.f3.params.toList Rows.fnExactPassesTextSpec.vars false (#[.slice none 0 0] : Array Value).toList 8 = some ([.nil], gs, places) :=
  ⟨[], [], by kernel_rfl⟩

set_option maxRecDepth 100000 in
theorem lifted (os : Os) (started : os.Started) (H : Type) (enc : TypeId × Value → H) (F : Stop.Interp) :
    ReturnsInHanded {} Tryd.checked os 3 .any ((OpenSpec.ofChange Rows.fnExactPassesTextSpec).preRow enc Tryd.prog Tryd.f3 Rows.fnExactPassesTextRow.domain false Rows.fnExactPassesTextRow.laid) (((OpenSpec.ofChange Rows.fnExactPassesTextSpec).at F).post enc Tryd.prog Tryd.f3 false true false false) := by
  obtain ⟨gs, places, hx⟩ := reads os enc
  refine returnsInHanded_of_row (C := Tryd.checked) (s := OpenSpec.ofChange Rows.fnExactPassesTextSpec) own started (by kernel_rfl) Tryd.func3
    (witness_row_at (enc := enc) (C := Tryd.checked) false (laidWorld os) #[.slice none 0 0] rfl (by kernel_rfl) (by kernel_rfl) (by kernel_rfl)
      (OpenSpec.preRow_of_cond 8 hx (by kernel_rfl) (fun k hk => by cases hk) (by kernel_rfl) (laid_met os))) ?_
  intro W base args ds gs before hval hW _ _ _ hL _ _
  exact contract H enc W base args ds gs before hval hW hL

theorem said : Rows.FnExactPassesTextSaid :=
  OpenClaim.holds_of_cond 3 Tryd.f3 rfl rfl rfl rfl rfl rfl rfl ⟨rfl, rfl, rfl, rfl, rfl⟩ rfl rfl rfl rfl rfl (by kernel_rfl) Tryd.func3 (by kernel_rfl)
    (of_decide_eq_true (by kernel_rfl)) (by unfold Func.isWrapper; first | (rw [if_pos (by decide +kernel)]; kernel_rfl) | (rw [if_neg (by decide +kernel)]; exact ⟨rfl, rfl⟩))
    (fun os started H enc _ F => by rw [OpenClaim.pre_eq_preRow]; exact lifted os started H enc F)

theorem plain (f : FuncId) (fn : Func) (hf : Tryd.pinned.checked.prog.funcNamed "loop.example/g00931/laws.FnExactPassesText" = some f) (hfn : Tryd.pinned.checked.prog.funcs[f]? = some fn) :
    true = Tryd.pinned.checked.prog.looks [] ∧ ∀ (j : Nat) t, fn.params[j]? = some t → Tryd.pinned.checked.prog.wantsStandIn t = false := by
  obtain rfl : f = 3 := Option.some.inj ((show Tryd.prog.funcNamed "loop.example/g00931/laws.FnExactPassesText" = some 3 by kernel_rfl).symm.trans hf) |>.symm
  obtain rfl : fn = Tryd.f3 := (Option.some.inj (Tryd.func3.symm.trans hfn)).symm
  refine ⟨by kernel_rfl, fun j t ht => ?_⟩
  rw [Tryd.params3] at ht
  match j, ht with
  | 0, ht =>
    have e : t = 22 := by simpa using ht.symm
    subst e
    exact (show Tryd.prog.wantsStandIn 22 = false by kernel_rfl)
  | j + 1, ht => simp at ht

theorem card : Rows.FnExactPassesTextCardSaid :=
  Claim7.holds_tied_plain_at .later [] _ _ _ _ said (fun _ h => by cases h) (by kernel_rfl) (fun _ h => by cases h) fnExactPassesText_row_tie rfl ⟨rfl, rfl⟩ (by kernel_rfl) rfl plain (by kernel_rfl)
#print axioms card
end Go.Proofs.YtbpdjmjkjiddjaaDoor.fnExactPassesText
