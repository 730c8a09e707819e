/- Proved: whatever list of passes (of at most 2^20; for longer ones the law answers true at once) AlternatesOn of the program is called with, it answers as the model and changes nothing. No condition. -/
import Derived.Test.YtbpdjmjkjiddjaaRows
import Derived.Test.YtbpdjmjkjiddjaaBase
import Derived.Test.YtbpdjmjkjiddjaaPan
import Derived.Test.YtbpdjmjkjiddjaaHeap
import Derived.Test.YtbpdjmjkjiddjaaShape
import Derived.Test.YtbpdjmjkjiddjaaWls
import Derived.Test.YtbpdjmjkjiddjaaQps
import Derived.Test.YtbpdjmjkjiddjaaQal
import Derived.WalkKit
import Derived.ProofKit
import Derived.OpenShut
import Derived.ShutString
import Derived.ChangeOld
import Derived.Below
import Derived.Lib.SmallJoins
namespace Go.Proofs.Ytbpdjmjkjiddjaa.fnExactAlternatesOn
open Go.ChangeShapes Go.WideShapes Go.ChangeAt Go.RowKit Go.Joins
open Go.ChangeMaps (open_string shut_string)
open Go.Proofs.Ytbpdjmjkjiddjaa.Base
set_option linter.unusedVariables false
theorem own : ownKnob Try.prog.godebug = none := by kernel_rfl
theorem laidOut : laidOutB Try.prog = true := by kernel_rfl

set_option maxHeartbeats 4000000 in
theorem core (w : World) (A0 : Option Addr) (n0 c0 : Nat) (zs0 : Nat → Int) (rv : Bool) (r0 : RowP w A0 n0 c0 zs0) (hs : (n0 : Int) ≤ 1048576)
    (HS : Hid (∀ (w : World) (A0 : Option Addr) (c0 : Nat), RowP w A0 n0 c0 zs0 → Calls Try.prog 30 #[.slice A0 n0 c0] w (Gives (.bool rv) w)))
    (HI : Hid (∀ (w : World) (A0 : Option Addr) (c0 : Nat), RowP w A0 n0 c0 zs0 → Calls Try.prog 32 #[.slice A0 n0 c0] w (Gives (.bool rv) w))) :
    Calls Try.prog 8 #[.slice A0 n0 c0] w fun e w' => e = .returned (.bool true) ∧ Below w.heap.size w w' := by
    have HR0 := Lib.hid r0
    have HQA0 : Hid (0 < n0 → ∀ b, blk A0 = some b → b < w.heap.size) := Lib.hid (r0.blk_lt)
    have hn0 : n0 ≤ 1048576 := by omega
    clear r0
    have hrv : (rv != rv) = false := by simp
    go_enter Try.func8, Try.ntmps8
    have HB0 : Hid (Below w.heap.size w w) := Lib.hid (Below.refl w.heap.size w)
    have rA0_0 := Lib.hid (HR0.out.below HB0.out (Nat.le_refl _))
    clear HR0
    have z0 := HB0.out.size
    have z0e : (w).heap.size = w.heap.size + 0 := by simp
    go_wp2_with fail
    refine (szPasses_yes _ A0 n0 c0 (1048576) (by omega) (by omega) (by omega)).mono ?_
    rintro e w1 ⟨rfl, bT⟩
    have rA0_1 := Lib.hid (rA0_0.out.below bT (Nat.le_refl _))
    have HB1 := Lib.hid (HB0.out.trans (bT.mono HB0.out.size))
    have z1 := (bT).size
    clear HB0 rA0_0
    clear bT
    go_wp2_with fail
    refine (toPasses_any _ A0 n0 c0 zs0 rA0_1.out hn0).mono ?_
    rintro e w2 ⟨AP0, cP0, rfl, RM, bT⟩
    have HQP0 : Hid (0 < n0 → ∀ b, blk AP0 = some b → w1.heap.size ≤ b ∧ b < w2.heap.size) := Lib.hid (fun hn b hb => ⟨RM.blk_ge hn b hb, RM.row.blk_lt hn b hb⟩)
    have rA0_2 := Lib.hid (rA0_1.out.below bT (Nat.le_refl _))
    have HB2 := Lib.hid (HB1.out.trans (bT.mono HB1.out.size))
    have z2 := (bT).size
    clear HB1 rA0_1
    clear bT
    have rP0_2 := Lib.hid RM
    clear RM
    go_wp2_with fail
    refine (HS.out _ _ _ rP0_2.out.row).mono ?_
    rintro e w3 ⟨rfl, bC⟩
    clear rP0_2
    have rA0_3 := Lib.hid (rA0_2.out.below bC (Nat.le_refl _))
    have HB3 := Lib.hid (HB2.out.trans (bC.mono HB2.out.size))
    have z3 := (bC).size
    clear HB2 rA0_2
    clear bC
    go_wp2_with fail
    refine (toPasses_any _ A0 n0 c0 zs0 rA0_3.out hn0).mono ?_
    rintro e w4 ⟨AX0, cX0, rfl, RM, bT⟩
    have HQX0 : Hid (0 < n0 → ∀ b, blk AX0 = some b → w3.heap.size ≤ b ∧ b < w4.heap.size) := Lib.hid (fun hn b hb => ⟨RM.blk_ge hn b hb, RM.row.blk_lt hn b hb⟩)
    have rA0_4 := Lib.hid (rA0_3.out.below bT (Nat.le_refl _))
    have HB4 := Lib.hid (HB3.out.trans (bT.mono HB3.out.size))
    have z4 := (bT).size
    clear HB3 rA0_3
    clear bT
    have rX0_4 := Lib.hid RM
    clear RM
    go_wp2_with fail
    refine (HI.out _ _ _ rX0_4.out.row).mono ?_
    rintro e w5 ⟨rfl, bC⟩
    have rA0_5 := Lib.hid (rA0_4.out.below bC (Nat.le_refl _))
    have rX0_5 := Lib.hid (rX0_4.out.below bC (Nat.le_refl _))
    have HB5 := Lib.hid (HB4.out.trans (bC.mono HB4.out.size))
    have z5 := (bC).size
    clear HB4 rA0_4 rX0_4
    clear bC
    go_wp2_with fail
    refine (toPasses_any _ A0 n0 c0 zs0 rA0_5.out hn0).mono ?_
    rintro e w6 ⟨AZ, cZ, rfl, RM, bT⟩
    have HQZ : Hid (0 < n0 → ∀ b, blk AZ = some b → w5.heap.size ≤ b ∧ b < w6.heap.size) := Lib.hid (fun hn b hb => ⟨RM.blk_ge hn b hb, RM.row.blk_lt hn b hb⟩)
    have rA0_6 := Lib.hid (rA0_5.out.below bT (Nat.le_refl _))
    have rX0_6 := Lib.hid (rX0_5.out.below bT (Nat.le_refl _))
    have HB6 := Lib.hid (HB5.out.trans (bT.mono HB5.out.size))
    have z6 := (bT).size
    clear HB5 rA0_5 rX0_5
    clear bT
    have rZ_6 := Lib.hid RM
    clear RM
    go_wp2_with fail
    refine (eqPasses_same _ AX0 AZ n0 cX0 cZ zs0 rX0_6.out.row rZ_6.out.row).mono ?_
    rintro e w7 ⟨rfl, bE⟩
    have rA0_7 := Lib.hid (rA0_6.out.below bE (Nat.le_refl _))
    have rX0_7 := Lib.hid (rX0_6.out.below bE (Nat.le_refl _))
    have rZ_7 := Lib.hid (rZ_6.out.below bE (Nat.le_refl _))
    have HB7 := Lib.hid (HB6.out.trans (bE.mono HB6.out.size))
    have z7 := (bE).size
    clear HB6 rA0_6 rX0_6 rZ_6
    clear bE
    clear rZ_7
    go_wp2
    go_ret
    exact ⟨rfl, HB7.out⟩

theorem walk (w : World) (A0 : Option Addr) (n0 c0 : Nat) (zs0 : Nat → Int) (r0 : RowP w A0 n0 c0 zs0) :
    Calls Try.prog 8 #[.slice A0 n0 c0] w fun e w' => e = .returned (.bool true) ∧ Below w.heap.size w w' := by
  have hm0 : n0 ≤ 9223372036854775807 := by have := r0.1; have := r0.2.1; unfold maxLen at this; omega
  by_cases hs : (n0 : Int) ≤ 1048576
  · exact core w A0 n0 c0 zs0 (altB n0 zs0) r0 hs (Lib.hid fun w A c h => spec_alternates w A n0 c zs0 h) (Lib.hid fun w A c h => impl_alternates w A n0 c zs0 h)
  · skip
    go_enter Try.func8, Try.ntmps8
    have HB0 : Hid (Below w.heap.size w w) := Lib.hid (Below.refl w.heap.size w)
    go_wp2_with fail
    refine (szPasses_no _ A0 n0 c0 (1048576) (by omega) (by omega) hm0 (by omega)).mono ?_
    rintro e w1 ⟨rfl, bT⟩
    have HB1 := Lib.hid (HB0.out.trans (bT.mono HB0.out.size))
    clear HB0 bT
    go_wp2
    go_ret
    exact ⟨rfl, HB1.out⟩

set_option maxRecDepth 100000 in
theorem lifted (os : Os) (started : os.Started) (H : Type) (enc : TypeId × Value → H) :
    ReturnsInHanded {} Try.checked os 8 .any (Rows.fnExactAlternatesOnSpec.pre6 enc Try.prog Try.f8 Rows.fnExactAlternatesOnRow.domain false) (Rows.fnExactAlternatesOnSpec.post enc Try.prog Try.f8 false true false false) := by
  refine returnsInHanded_of_change (C := Try.checked) own started (by kernel_rfl) Try.func8
    (ChangeSpec.witness6 (enc := enc) (C := Try.checked) false ⟨#[], #[.slice none 0 0], []⟩ 8 (by kernel_rfl) (by kernel_rfl) (by kernel_rfl) (by kernel_rfl)) ?_
  intro W base args ds gs before hval0 hW hcnd _
  have hval : ∀ (j : Nat) t v, Try.f8.params[j]? = some t → args[j]? = some v → Value.okWide Try.prog W .any base t v := hval0
  have hW' := hW
  obtain ⟨p, q, hA0, hV, rfl, hfz, hnd⟩ := hW
  have hA : DataW.TrodAll enc Try.prog W 0 (fun _ => true) true Try.f8.params.toList args.toList ds p := hA0
  rw [Try.params8] at hA hval
  obtain ⟨v0, vs0, d0, ds0, p0, q0, hargs, rfl, rfl, h0, tl0⟩ := trodAll_cons hA
  obtain ⟨rfl, rfl, rfl⟩ := trodAll_nil tl0
  obtain rfl : args = #[v0] := by cases args; simp_all
  obtain ⟨rfl, rfl⟩ := trodVars_none hV
  have k0 := h0
  have lt0 : ∀ x ∈ p0, x.block < W.heap.size := by obtain ⟨m, hm⟩ := k0; exact DataW.trod_lt m _ _ _ hm
  obtain ⟨A0, n0, c0, rfl⟩ := okWide_slice Try.underlying51 (hval 0 51 v0 rfl rfl)
  obtain ⟨zs0, r0⟩ : ∃ zs, RowP W A0 n0 c0 zs := by
    obtain ⟨fuel, hf⟩ := h0
    obtain ⟨A', n', c', zs, e2, r⟩ := rowP_of Try.underlying51 Try.underlying92 (by kernel_rfl) rfl rfl (by kernel_rfl) (by kernel_rfl) Try.underlying2 Try.underlying4 hf
    simp [Value.cells] at e2
    obtain ⟨rfl, rfl, rfl⟩ := e2
    exact ⟨zs, r⟩
  clear hA0 hval0
  refine (walk W A0 n0 c0 zs0 r0).mono fun e W' ⟨he, bel⟩ => ?_
  subst he
  exact ⟨_, rfl, _, _, _, [], _, [], hW', trodAll_mk1 (shut_bool Try.underlying4 _), (trodAll_cons_mk (Below.trod laidOut (by kernel_rfl) (of_decide_eq_true (by kernel_rfl)) k0 bel lt0) trodAll_mk0), rfl, bel.frame _, fun h => by cases h⟩

theorem over : Rows.fnExactAlternatesOnRow.holds Try.pinned (OpenSpec.ofChange Rows.fnExactAlternatesOnSpec) :=
  OpenClaim.holds_of_wide 8 Try.f8 rfl rfl rfl rfl rfl rfl rfl ⟨rfl, rfl, rfl, rfl, rfl⟩ rfl rfl rfl rfl rfl (by kernel_rfl) Try.func8 (by kernel_rfl)
    (of_decide_eq_true (by kernel_rfl)) (by unfold Func.isWrapper; first | (rw [if_pos (by decide +kernel)]; kernel_rfl) | (rw [if_neg (by decide +kernel)]; exact ⟨rfl, rfl⟩))
    (fun os started H enc _ => lifted os started H enc)

theorem proved : Rows.FnExactAlternatesOnSaid := over
#print axioms proved
end Go.Proofs.Ytbpdjmjkjiddjaa.fnExactAlternatesOn
