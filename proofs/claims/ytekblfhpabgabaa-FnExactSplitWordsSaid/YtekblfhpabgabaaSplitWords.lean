/- Proved: whatever text (of at most 2^20 bytes; for longer ones the law answers true at once) SplitWords of the program is called with, valid UTF-8 or not, it answers as the model, every word; its list's memory is its own. No condition. -/
import Derived.Test.YtekblfhpabgabaaRows
import Derived.Test.YtekblfhpabgabaaBase
import Derived.Test.YtekblfhpabgabaaPan
import Derived.Test.YtekblfhpabgabaaMark
import Derived.Test.YtekblfhpabgabaaSpw
import Derived.Test.YtekblfhpabgabaaSpt
import Derived.Test.YtekblfhpabgabaaSpi
import Derived.Test.YtekblfhpabgabaaSps
import Derived.WalkKit
import Derived.ProofKit
import Derived.OpenShut
import Derived.ShutString
import Derived.ChangeOld
import Derived.Below
import Derived.Lib.SmallJoins
namespace Go.Proofs.Ytekblfhpabgabaa.fnExactSplitWords
open Go.ChangeShapes Go.WideShapes Go.ChangeAt Go.RowKit Go.Joins
open Go.ChangeMaps (open_string shut_string)
open Go.Proofs.Ytekblfhpabgabaa.Base
set_option linter.unusedVariables false
theorem own : ownKnob Try.prog.godebug = none := by kernel_rfl
theorem laidOut : laidOutB Try.prog = true := by kernel_rfl

/-- a list of texts, made from block base on -/
def TextsOut (N : Nat) (g : Nat → ByteArray) (base : Nat) (w : World) (e : Ending) (w' : World) : Prop :=
  ∃ A c, e = .returned (.slice A N c) ∧ VOwn w' base A N c (fun i => .string (g i)) ∧ Below base w w'
set_option maxHeartbeats 1000000 in
theorem core (w : World) (s0 : ByteArray) (hs : s0.size ≤ 1048576) (N : Nat) (g : Nat → ByteArray) (hN : N ≤ 1048577)
    (HS : Hid (∀ w : World, Calls Try.prog 4 #[.string s0] w (TextsOut N g w.heap.size w)))
    (HI : Hid (∀ w : World, Calls Try.prog 5 #[.string s0] w (TextsOut N g w.heap.size w))) :
    Calls Try.prog 3 #[.string s0] w fun e w' => e = .returned (.bool true) ∧ Below w.heap.size w w' := by
  have hmk : ((1 + (N : Int)) != (1 + (N : Int))) = false := by simp
  go_enter Try.func3, Try.ntmps3
  go_wp2_with fail
  refine (HS.out _).mono ?_
  rintro e w1 ⟨AM, cM, rfl, RM, b1⟩
  have HB1 := Lib.hid b1
  have rM1 := Lib.hid RM.row
  have HQM : Hid (0 < N → ∀ b, blk AM = some b → b < w1.heap.size) := Lib.hid RM.row.blk_lt
  clear RM b1
  go_wp2_with fail
  refine (HI.out _).mono ?_
  rintro e w2 ⟨AG, cG, rfl, RG, b2⟩
  have HQG : Hid (0 < N → ∀ b, blk AG = some b → w1.heap.size ≤ b) := Lib.hid RG.blk_ge
  have rM2 := Lib.hid (rM1.out.below b2 (Nat.le_refl _))
  have rG2 := Lib.hid RG
  have HB2 := Lib.hid (HB1.out.trans (b2.mono HB1.out.size))
  have z2 := b2.size
  clear RG b2
  go_wp2_with fail
  refine (eqStrings_same _ AG AM N cG cM g rG2.out.row rM2.out).mono ?_
  rintro e w3 ⟨rfl, b3⟩
  have rM3 := Lib.hid (rM2.out.below b3 (Nat.le_refl _))
  have rG3 := Lib.hid (rG2.out.below b3 (Nat.le_refl _))
  have HB3 := Lib.hid (HB2.out.trans (b3.mono HB2.out.size))
  have z3 := b3.size
  clear b3
  go_wp2_with fail
  refine (markS_any _ w1.heap.size AG N cG g 1 rG3.out (by omega) (by omega) (by omega)).mono ?_
  rintro e w4 ⟨rfl, R4, b4, r, g4, hr4⟩
  have rM4 := Lib.hid (rM3.out.grownR g4 (fun b hn hb e => by
    obtain ⟨hn9, hA⟩ := hr4 _ e
    have h1 := HQG.out hn9 _ hA
    have h2 := HQM.out hn b hb
    omega))
  have rG4 := Lib.hid R4
  have HB4 := Lib.hid (HB3.out.trans (b4.mono HB1.out.size))
  clear R4 b4 g4 hr4
  go_wp2_with fail
  refine (heldS_any _ AG N cG 1 rG4.out.row (by omega) (by omega)).mono ?_
  rintro e w5 ⟨rfl, b5⟩
  have rM5 := Lib.hid (rM4.out.below b5 (Nat.le_refl _))
  have rG5 := Lib.hid (rG4.out.below b5 (Nat.le_refl _))
  have HB5 := Lib.hid (HB4.out.trans (b5.mono HB4.out.size))
  clear b5
  go_wp2_with fail
  refine (HI.out _).mono ?_
  rintro e w6 ⟨AH, cH, rfl, RH, b6⟩
  have rM6 := Lib.hid (rM5.out.below b6 (Nat.le_refl _))
  have rG6 := Lib.hid (rG5.out.below b6 (Nat.le_refl _))
  have rH6 := Lib.hid RH.row
  have HB6 := Lib.hid (HB5.out.trans (b6.mono HB5.out.size))
  clear RH b6
  go_wp2_with fail
  refine (eqStrings_same _ AH AM N cH cM g rH6.out rM6.out).mono ?_
  rintro e w7 ⟨rfl, b7⟩
  have rG7 := Lib.hid (rG6.out.below b7 (Nat.le_refl _))
  have HB7 := Lib.hid (HB6.out.trans (b7.mono HB6.out.size))
  clear b7
  go_wp2_with fail
  refine (heldS_any _ AG N cG 1 rG7.out.row (by omega) (by omega)).mono ?_
  rintro e w8 ⟨rfl, b8⟩
  have HB8 := Lib.hid (HB7.out.trans (b8.mono HB7.out.size))
  clear b8
  go_wp2
  go_ret
  exact ⟨rfl, HB8.out⟩

theorem walk (w : World) (s0 : ByteArray) (hs0 : s0.size ≤ maxLen) :
    Calls Try.prog 3 #[.string s0] w fun e w' => e = .returned (.bool true) ∧ Below w.heap.size w w' := by
  unfold maxLen at hs0
  by_cases hs : s0.size ≤ 1048576
  · have hl := wrds_len s0
    exact core w s0 hs (wrds s0).length (fun i => (wrds s0).getD i ⟨#[]⟩) (by omega) (Lib.hid fun w => spec_splitWords w s0 hs) (Lib.hid fun w => impl_splitWords w s0 hs (by unfold maxLen; omega))
  · have hs2 : 1048576 < (s0.size : Int) := by omega
    go_enter Try.func3, Try.ntmps3
    go_wp2
    go_ret
    exact ⟨rfl, Below.refl _ _⟩

set_option maxRecDepth 100000 in
theorem lifted (os : Os) (started : os.Started) (H : Type) (enc : TypeId × Value → H) :
    ReturnsInHanded {} Try.checked os 3 .any (Rows.fnExactSplitWordsSpec.pre6 enc Try.prog Try.f3 Rows.fnExactSplitWordsRow.domain false) (Rows.fnExactSplitWordsSpec.post enc Try.prog Try.f3 false true false false) := by
  refine returnsInHanded_of_change (C := Try.checked) own started (by kernel_rfl) Try.func3
    (ChangeSpec.witness6 (enc := enc) (C := Try.checked) false ⟨#[], #[.string ByteArray.empty], []⟩ 8 (by kernel_rfl) (by kernel_rfl) (by kernel_rfl) (by kernel_rfl)) ?_
  intro W base args ds gs before hval0 hW hcnd _
  have hval : ∀ (j : Nat) t v, Try.f3.params[j]? = some t → args[j]? = some v → Value.okWide Try.prog W .any base t v := hval0
  have hW' := hW
  obtain ⟨p, q, hA0, hV, rfl, hfz, hnd⟩ := hW
  have hA : DataW.TrodAll enc Try.prog W 0 (fun _ => true) true Try.f3.params.toList args.toList ds p := hA0
  rw [Try.params3] at hA hval
  obtain ⟨v0, vs0, d0, ds0, p0, q0, hargs, rfl, rfl, h0, tl0⟩ := trodAll_cons hA
  obtain ⟨rfl, rfl, rfl⟩ := trodAll_nil tl0
  obtain rfl : args = #[v0] := by cases args; simp_all
  obtain ⟨rfl, rfl⟩ := trodVars_none hV
  have k0 := h0
  have lt0 : ∀ x ∈ p0, x.block < W.heap.size := by obtain ⟨m, hm⟩ := k0; exact DataW.trod_lt m _ _ _ hm
  obtain ⟨s0, rfl, rfl, rfl, hs0⟩ := open_string Try.underlying9 (hval 0 9 v0 rfl rfl) h0
  clear hA0 hval0
  refine (walk W s0 hs0).mono fun e W' ⟨he, bel⟩ => ?_
  subst he
  exact ⟨_, rfl, _, _, _, [], _, [], hW', trodAll_mk1 (shut_bool Try.underlying4 _), (trodAll_cons_mk (Below.trod laidOut (by kernel_rfl) (of_decide_eq_true (by kernel_rfl)) k0 bel lt0) trodAll_mk0), rfl, bel.frame _, fun h => by cases h⟩

theorem over : Rows.fnExactSplitWordsRow.holds Try.pinned (OpenSpec.ofChange Rows.fnExactSplitWordsSpec) :=
  OpenClaim.holds_of_wide 3 Try.f3 rfl rfl rfl rfl rfl rfl rfl ⟨rfl, rfl, rfl, rfl, rfl⟩ rfl rfl rfl rfl rfl (by kernel_rfl) Try.func3 (by kernel_rfl)
    (of_decide_eq_true (by kernel_rfl)) (by unfold Func.isWrapper; first | (rw [if_pos (by decide +kernel)]; kernel_rfl) | (rw [if_neg (by decide +kernel)]; exact ⟨rfl, rfl⟩))
    (fun os started H enc _ => lifted os started H enc)

theorem proved : Rows.FnExactSplitWordsSaid := over
#print axioms proved
end Go.Proofs.Ytekblfhpabgabaa.fnExactSplitWords
