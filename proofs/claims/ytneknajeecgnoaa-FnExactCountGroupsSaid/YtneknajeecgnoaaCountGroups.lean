/- Proved: whatever joined elements (of at most 2^20 numbers; for more the law answers true at once), valid or not, CountGroups of the program is called with, it answers as the model and changes nothing. No condition. -/
import Derived.Test.YtneknajeecgnoaaRows
import Derived.Test.YtneknajeecgnoaaBase
import Derived.Test.YtneknajeecgnoaaJn
import Derived.Test.YtneknajeecgnoaaVj
import Derived.Test.YtneknajeecgnoaaCgr
import Derived.Test.YtneknajeecgnoaaCgs
import Derived.WalkKit
import Derived.ProofKit
import Derived.OpenShut
import Derived.ShutString
import Derived.ChangeOld
import Derived.Below
import Derived.Lib.SmallJoins
namespace Go.Proofs.Ytneknajeecgnoaa.fnExactCountGroups
open Go.ChangeShapes Go.WideShapes Go.ChangeAt Go.RowKit Go.Joins
open Go.ChangeMaps (open_string shut_string)
open Go.Proofs.Ytneknajeecgnoaa.Base
set_option linter.unusedVariables false
theorem own : ownKnob Try.prog.godebug = none := by kernel_rfl
theorem laidOut : laidOutB Try.prog = true := by kernel_rfl

theorem walk (w : World) (PA0 : Option Addr) (pn0 pc0 : Nat) (pz0 : Nat → Int) (LA0 : Option Addr) (ln0 lc0 : Nat) (lz0 : Nat → Int) (pr0 : Row .i64 w PA0 pn0 pc0 pz0) (lr0 : Row .i64 w LA0 ln0 lc0 lz0) :
    Calls Try.prog 5 #[.agg #[.slice PA0 pn0 pc0, .slice LA0 ln0 lc0]] w fun e w' => e = .returned (.bool true) ∧ Below w.heap.size w w' := by
  have hnp : pn0 ≤ 9223372036854775807 := by have := pr0.1; have := pr0.2.1; unfold maxLen at this; omega
  have hnl : ln0 ≤ 9223372036854775807 := by have := lr0.1; have := lr0.2.1; unfold maxLen at this; omega
  by_cases hs : (pn0 : Int) + ln0 ≤ 1048576
  · have HP := Lib.hid pr0
    have HL := Lib.hid lr0
    clear pr0 lr0
    have hn20 : pn0 ≤ 1048576 := by omega
    have hm20 : ln0 ≤ 1048576 := by omega
    go_enter Try.func5, Try.ntmps5
    go_wp2_with fail
    refine (szJ_yes _ PA0 LA0 pn0 pc0 ln0 lc0 1048576 (by omega) (by omega) hs).mono ?_
    rintro e w1 ⟨rfl, b1⟩
    have HB1 := Lib.hid (Below.trans (show Below w.heap.size w (w.alloc (.cells #[.slice PA0 pn0 pc0, .slice LA0 ln0 lc0] 40)) from ((Below.refl w.heap.size w).alloc (by simp) _)) (b1.mono (by first | (simp; done) | (simp; omega))))
    have HX1 : Hid (Cel w1 (w.heap.size) [.slice PA0 pn0 pc0, .slice LA0 ln0 lc0]) := Lib.hid (by have h := ((Cel.new w [.slice PA0 pn0 pc0, .slice LA0 ln0 lc0] 40).below b1 (by first | (simp; done) | (simp; omega))); simpa using h)
    have rP1 := Lib.hid (HP.out.below HB1.out (Nat.le_refl _))
    have rL1 := Lib.hid (HL.out.below HB1.out (Nat.le_refl _))
    have z1 := HX1.out.1
    clear b1 HP HL
    have kX_z := HX1.out.1
    have kX_0 := HX1.out.2 0 _ rfl
    have kX_1 := HX1.out.2 1 _ rfl
    go_wp2_with fail
    clear kX_z kX_0 kX_1
    refine (toJ_any _ PA0 pn0 pc0 pz0 LA0 ln0 lc0 lz0 rP1.out rL1.out hn20 hm20).mono ?_
    rintro e w2 ⟨AP, cP, AL, cL, rfl, HJ, bT⟩
    have HX2 := Lib.hid (HX1.out.below bT HX1.out.1)
    have rP2 := Lib.hid (rP1.out.below bT (Nat.le_refl _))
    have rL2 := Lib.hid (rL1.out.below bT (Nat.le_refl _))
    have HB2 := Lib.hid (HB1.out.trans (bT.mono HB1.out.size))
    have z2 := (bT).size
    clear HB1 HX1 rP1 rL1
    clear bT
    have rM2 := Lib.hid HJ.1.row
    have rN2 := Lib.hid HJ.2.1.row
    clear HJ
    go_wp2_with fail
    refine (spec_countGroups _ AP pn0 cP pz0 AL ln0 cL lz0 rM2.out rN2.out).mono ?_
    rintro e w3 ⟨rfl, bT⟩
    clear rM2 rN2
    have HX3 := Lib.hid (HX2.out.below bT HX2.out.1)
    have rP3 := Lib.hid (rP2.out.below bT (Nat.le_refl _))
    have rL3 := Lib.hid (rL2.out.below bT (Nat.le_refl _))
    have HB3 := Lib.hid (HB2.out.trans (bT.mono HB2.out.size))
    have z3 := (bT).size
    clear HB2 HX2 rP2 rL2
    clear bT
    have kX_z := HX3.out.1
    have kX_0 := HX3.out.2 0 _ rfl
    have kX_1 := HX3.out.2 1 _ rfl
    go_wp2_with fail
    clear kX_z kX_0 kX_1
    refine (toJ_any _ PA0 pn0 pc0 pz0 LA0 ln0 lc0 lz0 rP3.out rL3.out hn20 hm20).mono ?_
    rintro e w4 ⟨AX, cX, AY, cY, rfl, HJ, bT⟩
    have HX4 := Lib.hid (HX3.out.below bT HX3.out.1)
    have rP4 := Lib.hid (rP3.out.below bT (Nat.le_refl _))
    have rL4 := Lib.hid (rL3.out.below bT (Nat.le_refl _))
    have HB4 := Lib.hid (HB3.out.trans (bT.mono HB3.out.size))
    have z4 := (bT).size
    clear HB3 HX3 rP3 rL3
    clear bT
    have rM4 := Lib.hid HJ.1.row
    have rN4 := Lib.hid HJ.2.1.row
    clear HJ
    have bN := (Below.refl w4.heap.size w4).alloc (Nat.le_refl _) (.cells #[.slice AX pn0 cX, .slice AY ln0 cY] 26)
    have HY5 := Lib.hid (Cel.new w4 [.slice AX pn0 cX, .slice AY ln0 cY] 26)
    have HX5 := Lib.hid (HX4.out.below bN HX4.out.1)
    have rP5 := Lib.hid (rP4.out.below bN (Nat.le_refl _))
    have rL5 := Lib.hid (rL4.out.below bN (Nat.le_refl _))
    have rM5 := Lib.hid (rM4.out.below bN (Nat.le_refl _))
    have rN5 := Lib.hid (rN4.out.below bN (Nat.le_refl _))
    have HB5 := Lib.hid (HB4.out.trans (bN.mono HB4.out.size))
    have z5 := (bN).size
    clear HB4 HX4 rP4 rL4 rM4 rN4
    clear bN
    go_wp2_with fail
    generalize w4.alloc (.cells #[.slice AX pn0 cX, .slice AY ln0 cY] 26) = w5 at *
    generalize w4.heap.size = bY at *
    refine (impl_countGroups _ AX pn0 cX pz0 AY ln0 cY lz0 rM5.out rN5.out).mono ?_
    rintro e w6 ⟨rfl, bT⟩
    have HX6 := Lib.hid (HX5.out.below bT HX5.out.1)
    have HY6 := Lib.hid (HY5.out.below bT HY5.out.1)
    have rP6 := Lib.hid (rP5.out.below bT (Nat.le_refl _))
    have rL6 := Lib.hid (rL5.out.below bT (Nat.le_refl _))
    have rM6 := Lib.hid (rM5.out.below bT (Nat.le_refl _))
    have rN6 := Lib.hid (rN5.out.below bT (Nat.le_refl _))
    have HB6 := Lib.hid (HB5.out.trans (bT.mono HB5.out.size))
    have z6 := (bT).size
    clear HB5 HX5 HY5 rP5 rL5 rM5 rN5
    clear bT
    have kX_z := HX6.out.1
    have kX_0 := HX6.out.2 0 _ rfl
    have kX_1 := HX6.out.2 1 _ rfl
    have kY_z := HY6.out.1
    have kY_0 := HY6.out.2 0 _ rfl
    have kY_1 := HY6.out.2 1 _ rfl
    have OL := Lib.hid (Old.mk_ (Below.refl w6.heap.size w6).drew)
    go_wp2_with fail
    go_region_held3 (fun w' => (∀ b o, b < (w6).heap.size → w'.cell? ⟨b, o, none⟩ = (w6).cell? ⟨b, o, none⟩) ∧ Below (w6).heap.size (w6) w')
      (first | assumption | exact OL.out | exact Old.trans (by assumption) (by assumption))
      (first | (go_at_call 24; refine (toJ_any _ PA0 pn0 pc0 pz0 LA0 ln0 lc0 lz0 ?_ ?_ hn20 hm20).mono ?_; exact rP6.out.old (by assumption); exact rL6.out.old (by assumption); rintro e w6a ⟨AZ, cZ, AW, cW, rfl, HJ, b7⟩) | (go_at_call 25; refine (eqJ_same _ _ _ _ _ pn0 _ _ ln0 _ _ pz0 lz0 ?_ ?_ ?_ ?_).mono ?_; exact rM6.out.old (by assumption); exact HJ.1.row; exact rN6.out.old (by assumption); exact HJ.2.1.row; rintro e w6b ⟨rfl, b8⟩))
    clear kX_z kX_0 kX_1
    clear kY_z kY_0 kY_1
    rename_i hS
    have b8x := hS.2
    have HF := Lib.hid (HB6.out.trans (b8x.mono HB6.out.size))
    clear hS OL HJ b7 b8 b8x
    go_wp2
    go_ret
    exact ⟨rfl, HF.out⟩
  · have hs : 1048576 < (pn0 : Int) + ln0 := by omega
    go_enter Try.func5, Try.ntmps5
    go_wp2_with fail
    refine (szJ_no _ PA0 LA0 pn0 pc0 ln0 lc0 1048576 (by omega) (by omega) hnp hnl hs).mono ?_
    rintro e w1 ⟨rfl, b1⟩
    go_wp2
    go_ret
    exact ⟨rfl, Below.trans (show Below w.heap.size w (w.alloc (.cells #[.slice PA0 pn0 pc0, .slice LA0 ln0 lc0] 40)) from ((Below.refl w.heap.size w).alloc (by simp) _)) (b1.mono (by first | (simp; done) | (simp; omega)))⟩

set_option maxRecDepth 100000 in
theorem lifted (os : Os) (started : os.Started) (H : Type) (enc : TypeId × Value → H) :
    ReturnsInHanded {} Try.checked os 5 .any (Rows.fnExactCountGroupsSpec.pre6 enc Try.prog Try.f5 Rows.fnExactCountGroupsRow.domain false) (Rows.fnExactCountGroupsSpec.post enc Try.prog Try.f5 false true false false) := by
  refine returnsInHanded_of_change (C := Try.checked) own started (by kernel_rfl) Try.func5
    (ChangeSpec.witness6 (enc := enc) (C := Try.checked) false ⟨#[], #[.agg #[.slice none 0 0, .slice none 0 0]], []⟩ 8 (by kernel_rfl) (by kernel_rfl) (by kernel_rfl) (by kernel_rfl)) ?_
  intro W base args ds gs before hval0 hW hcnd _
  have hval : ∀ (j : Nat) t v, Try.f5.params[j]? = some t → args[j]? = some v → Value.okWide Try.prog W .any base t v := hval0
  have hW' := hW
  obtain ⟨p, q, hA0, hV, rfl, hfz, hnd⟩ := hW
  have hA : DataW.TrodAll enc Try.prog W 0 (fun _ => true) true Try.f5.params.toList args.toList ds p := hA0
  rw [Try.params5] at hA hval
  obtain ⟨v0, vs0, d0, ds0, p0, q0, hargs, rfl, rfl, h0, tl0⟩ := trodAll_cons hA
  obtain ⟨rfl, rfl, rfl⟩ := trodAll_nil tl0
  obtain rfl : args = #[v0] := by cases args; simp_all
  obtain ⟨rfl, rfl⟩ := trodVars_none hV
  have k0 := h0
  have lt0 : ∀ x ∈ p0, x.block < W.heap.size := by obtain ⟨m, hm⟩ := k0; exact DataW.trod_lt m _ _ _ hm
  obtain ⟨u00, u01, y00, y01, m0, rfl, rfl, hp0, g00, g01⟩ := open_agg2 Try.underlying40 (by kernel_rfl) (by kernel_rfl) (hval 0 40 v0 rfl rfl) h0
  obtain ⟨PA0, pn0, pc0, pz0, e00, pr0⟩ := row_of Try.underlying24 Try.underlying2 (by kernel_rfl) g00 (fun x hx => lt0 x (by rw [hp0]; simp [hx]))
  simp at e00
  subst e00
  obtain ⟨LA0, ln0, lc0, lz0, e01, lr0⟩ := row_of Try.underlying24 Try.underlying2 (by kernel_rfl) g01 (fun x hx => lt0 x (by rw [hp0]; simp [hx]))
  simp at e01
  subst e01
  clear hA0 hval0
  refine (walk W PA0 pn0 pc0 pz0 LA0 ln0 lc0 lz0 pr0 lr0).mono fun e W' ⟨he, bel⟩ => ?_
  subst he
  exact ⟨_, rfl, _, _, _, [], _, [], hW', trodAll_mk1 (shut_bool Try.underlying4 _), (trodAll_cons_mk (Below.trod laidOut (by kernel_rfl) (of_decide_eq_true (by kernel_rfl)) k0 bel lt0) trodAll_mk0), rfl, bel.frame _, fun h => by cases h⟩

theorem over : Rows.fnExactCountGroupsRow.holds Try.pinned (OpenSpec.ofChange Rows.fnExactCountGroupsSpec) :=
  OpenClaim.holds_of_wide 5 Try.f5 rfl rfl rfl rfl rfl rfl rfl ⟨rfl, rfl, rfl, rfl, rfl⟩ rfl rfl rfl rfl rfl (by kernel_rfl) Try.func5 (by kernel_rfl)
    (of_decide_eq_true (by kernel_rfl)) (by unfold Func.isWrapper; first | (rw [if_pos (by decide +kernel)]; kernel_rfl) | (rw [if_neg (by decide +kernel)]; exact ⟨rfl, rfl⟩))
    (fun os started H enc _ => lifted os started H enc)

theorem proved : Rows.FnExactCountGroupsSaid := over
#print axioms proved
end Go.Proofs.Ytneknajeecgnoaa.fnExactCountGroups
