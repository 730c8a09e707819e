/- Proved: whatever panel and list of edits (of at most 2^20 numbers together; for larger ones the law answers true at once) ValidEdits of the program is called with, it answers as the model, every field, and changes nothing; what it makes is its own. No condition. -/
import Derived.Test.YtgdmojkfpghmnaaRows
import Derived.Test.YtgdmojkfpghmnaaBase
import Derived.Test.YtgdmojkfpghmnaaPan
import Derived.Test.YtgdmojkfpghmnaaMark
import Derived.Test.YtgdmojkfpghmnaaNew
import Derived.Test.YtgdmojkfpghmnaaHeap
import Derived.Test.YtgdmojkfpghmnaaShape
import Derived.Test.YtgdmojkfpghmnaaWls
import Derived.Test.YtgdmojkfpghmnaaEds
import Derived.Test.YtgdmojkfpghmnaaEdw
import Derived.Test.YtgdmojkfpghmnaaEdv
import Derived.WalkKit
import Derived.ProofKit
import Derived.OpenShut
import Derived.ShutString
import Derived.ChangeOld
import Derived.Below
import Derived.Lib.SmallJoins
namespace Go.Proofs.Ytgdmojkfpghmnaa.fnExactValidEdits
open Go.ChangeShapes Go.WideShapes Go.ChangeAt Go.RowKit Go.Joins
open Go.ChangeMaps (open_string shut_string)
open Go.Proofs.Ytgdmojkfpghmnaa.Base
set_option linter.unusedVariables false
theorem own : ownKnob Try.prog.godebug = none := by kernel_rfl
theorem laidOut : laidOutB Try.prog = true := by kernel_rfl

set_option maxHeartbeats 4000000 in
theorem core (w : World) (W0 H0 : Int) (A0 : Option Addr) (n0 c0 : Nat) (zs0 : Nat → Int) (E0 : Option Addr) (m0 d0 : Nat) (g0 : Nat → Int) (rv : Bool) (r0 : Row .i64 w A0 n0 c0 zs0) (r1 : RowS 2 w E0 m0 d0 g0) (hs : (n0 : Int) + m0 ≤ 1048576)
    (HS : Hid (∀ (w : World) (A : Option Addr) (c : Nat) (E : Option Addr) (d : Nat), Row .i64 w A n0 c zs0 → RowS 2 w E m0 d g0 → Calls Try.prog 9 #[.agg #[.int .i64 W0, .int .i64 H0, .slice A n0 c], .slice E m0 d] w (Gives (.bool rv) w)))
    (HI : Hid (∀ (w : World) (A : Option Addr) (c : Nat) (E : Option Addr) (d : Nat), Row .i64 w A n0 c zs0 → RowS 2 w E m0 d g0 → Calls Try.prog 12 #[.agg #[.int .i64 W0, .int .i64 H0, .slice A n0 c], .slice E m0 d] w (Gives (.bool rv) w))) :
    Calls Try.prog 3 #[.agg #[.int .i64 W0, .int .i64 H0, .slice A0 n0 c0], .slice E0 m0 d0] w fun e w' => e = .returned (.bool true) ∧ Below w.heap.size w w' := by
    have HR := Lib.hid r0
    have HRE := Lib.hid r1
    have HQA : Hid (0 < n0 → ∀ b, blk A0 = some b → b < w.heap.size) := Lib.hid (row_blk r0)
    have HQE : Hid (0 < m0 → ∀ b, blk E0 = some b → b < w.heap.size) := Lib.hid (r1.blk_lt)
    clear r0 r1
    have hn20 : n0 ≤ 1048576 := by omega
    have hm20 : m0 ≤ 1048576 := by omega
    have hn63 : n0 ≤ maxLen := by unfold maxLen; omega
    have HW := Lib.hid HR.out.2.2.1
    have hrv : (rv != rv) = false := by simp
    go_enter Try.func3, Try.ntmps3
    go_wp2_with fail
    refine (sz_yes _ W0 H0 A0 n0 c0 1048576 (by omega) (by omega) (by omega)).mono ?_
    rintro e w1 ⟨rfl, b1⟩
    have HB1 := Lib.hid (Below.trans (show Below w.heap.size w (w.alloc (.cells #[.int .i64 W0, .int .i64 H0, .slice A0 n0 c0] 24)) from ((Below.refl w.heap.size w).alloc (by simp) _)) (b1.mono (by first | (simp; done) | (simp; omega))))
    have HX1 : Hid (Cel w1 (w.heap.size) [.int .i64 W0, .int .i64 H0, .slice A0 n0 c0]) := Lib.hid (by have h := ((Cel.new w [.int .i64 W0, .int .i64 H0, .slice A0 n0 c0] 24).below b1 (by first | (simp; done) | (simp; omega))); simpa using h)
    have rA1 := Lib.hid (HR.out.below HB1.out (Nat.le_refl _))
    have rE1 := Lib.hid (HRE.out.below HB1.out (Nat.le_refl _))
    have z1 := HX1.out.1
    clear b1 HR HRE
    have kX_z := HX1.out.1
    have kX_0 := HX1.out.2 0 _ rfl
    have kX_1 := HX1.out.2 1 _ rfl
    have kX_2 := HX1.out.2 2 _ rfl
    go_wp2_with fail
    clear kX_z kX_0 kX_1 kX_2
    refine (szEdits_yes _ E0 m0 d0 (1048576 - (n0 : Int)) (by omega) (by omega) (by omega)).mono ?_
    rintro e w2 ⟨rfl, bT⟩
    have HX2 := Lib.hid (HX1.out.below bT HX1.out.1)
    have rA2 := Lib.hid (rA1.out.below bT (Nat.le_refl _))
    have rE2 := Lib.hid (rE1.out.below bT (Nat.le_refl _))
    have HB2 := Lib.hid (HB1.out.trans (bT.mono HB1.out.size))
    have z2 := (bT).size
    clear HB1 HX1 rA1 rE1
    clear bT
    have kX_z := HX2.out.1
    have kX_0 := HX2.out.2 0 _ rfl
    have kX_1 := HX2.out.2 1 _ rfl
    have kX_2 := HX2.out.2 2 _ rfl
    go_wp2_with fail
    clear kX_z kX_0 kX_1 kX_2
    refine (toPanel_any _ W0 H0 A0 n0 c0 zs0 rA2.out hn20).mono ?_
    rintro e w3 ⟨bp, rfl, hbbp, hrowbp, bT⟩
    have HX3 := Lib.hid (HX2.out.below bT HX2.out.1)
    have rA3 := Lib.hid (rA2.out.below bT (Nat.le_refl _))
    have rE3 := Lib.hid (rE2.out.below bT (Nat.le_refl _))
    have HB3 := Lib.hid (HB2.out.trans (bT.mono HB2.out.size))
    have z3 := (bT).size
    clear HB2 HX2 rA2 rE2
    clear bT
    have rP3 := Lib.hid (Row.of_rowIs hrowbp hn63 HW.out)
    clear hrowbp
    have kX_z := HX3.out.1
    have kX_0 := HX3.out.2 0 _ rfl
    have kX_1 := HX3.out.2 1 _ rfl
    have kX_2 := HX3.out.2 2 _ rfl
    go_wp2_with fail
    clear kX_z kX_0 kX_1 kX_2
    refine (toEdits_any _ E0 m0 d0 g0 rE3.out hm20).mono ?_
    rintro e w4 ⟨ES, dS, rfl, RM, bT⟩
    have HQS : Hid (0 < m0 → ∀ b, blk ES = some b → w3.heap.size ≤ b ∧ b < w4.heap.size) := Lib.hid (fun hn b hb => ⟨RM.blk_ge hn b hb, RM.row.blk_lt hn b hb⟩)
    have HX4 := Lib.hid (HX3.out.below bT HX3.out.1)
    have rA4 := Lib.hid (rA3.out.below bT (Nat.le_refl _))
    have rE4 := Lib.hid (rE3.out.below bT (Nat.le_refl _))
    have rP4 := Lib.hid (rP3.out.below bT (Nat.le_refl _))
    have HB4 := Lib.hid (HB3.out.trans (bT.mono HB3.out.size))
    have z4 := (bT).size
    clear HB3 HX3 rA3 rE3 rP3
    clear bT
    have rS4 := Lib.hid RM
    clear RM
    have kX_z := HX4.out.1
    have kX_0 := HX4.out.2 0 _ rfl
    have kX_1 := HX4.out.2 1 _ rfl
    have kX_2 := HX4.out.2 2 _ rfl
    go_wp2_with fail
    clear kX_z kX_0 kX_1 kX_2
    refine (HS.out _ _ _ _ _ rP4.out rS4.out.row).mono ?_
    rintro e w5 ⟨rfl, bT⟩
    have HX5 := Lib.hid (HX4.out.below bT HX4.out.1)
    have rA5 := Lib.hid (rA4.out.below bT (Nat.le_refl _))
    have rE5 := Lib.hid (rE4.out.below bT (Nat.le_refl _))
    have rP5 := Lib.hid (rP4.out.below bT (Nat.le_refl _))
    have rS5 := Lib.hid (rS4.out.below bT (Nat.le_refl _))
    have HB5 := Lib.hid (HB4.out.trans (bT.mono HB4.out.size))
    have z5 := (bT).size
    clear HB4 HX4 rA4 rE4 rP4 rS4
    clear bT
    clear rP5
    clear rS5
    have kX_z := HX5.out.1
    have kX_0 := HX5.out.2 0 _ rfl
    have kX_1 := HX5.out.2 1 _ rfl
    have kX_2 := HX5.out.2 2 _ rfl
    go_wp2_with fail
    clear kX_z kX_0 kX_1 kX_2
    refine (toPanel_any _ W0 H0 A0 n0 c0 zs0 rA5.out hn20).mono ?_
    rintro e w6 ⟨bq, rfl, hbbq, hrowbq, bT⟩
    have HX6 := Lib.hid (HX5.out.below bT HX5.out.1)
    have rA6 := Lib.hid (rA5.out.below bT (Nat.le_refl _))
    have rE6 := Lib.hid (rE5.out.below bT (Nat.le_refl _))
    have HB6 := Lib.hid (HB5.out.trans (bT.mono HB5.out.size))
    have z6 := (bT).size
    clear HB5 HX5 rA5 rE5
    clear bT
    have rX6 := Lib.hid (ownRow_of hrowbq (by unfold maxLen; omega) HW.out hbbq)
    have hbq2 : bq < w6.heap.size := hrowbq.lt
    clear hrowbq
    have kX_z := HX6.out.1
    have kX_0 := HX6.out.2 0 _ rfl
    have kX_1 := HX6.out.2 1 _ rfl
    have kX_2 := HX6.out.2 2 _ rfl
    go_wp2_with fail
    clear kX_z kX_0 kX_1 kX_2
    have bN := (Below.refl w6.heap.size w6).alloc (Nat.le_refl _) (.cells #[.int .i64 W0, .int .i64 H0, .slice (some ⟨bq, 0, none⟩) n0 n0] 29)
    have HB_Y := Lib.hid (Cel.new w6 [.int .i64 W0, .int .i64 H0, .slice (some ⟨bq, 0, none⟩) n0 n0] 29)
    have HX7 := Lib.hid (HX6.out.below bN HX6.out.1)
    have rA7 := Lib.hid (rA6.out.below bN (Nat.le_refl _))
    have rE7 := Lib.hid (rE6.out.below bN (Nat.le_refl _))
    have rX7 := Lib.hid (rX6.out.below bN (Nat.le_refl _))
    have HB7 := Lib.hid (HB6.out.trans (bN.mono HB6.out.size))
    have z7 := (bN).size
    clear HB6 HX6 rA6 rE6 rX6
    have z7e : w6.heap.size + 1 ≤ (w6.alloc (.cells #[.int .i64 W0, .int .i64 H0, .slice (some ⟨bq, 0, none⟩) n0 n0] 29)).heap.size := by simp
    clear bN
    generalize w6.alloc (.cells #[.int .i64 W0, .int .i64 H0, .slice (some ⟨bq, 0, none⟩) n0 n0] 29) = w7 at *
    generalize w6.heap.size = bY at *
    have HCY7 := HB_Y
    clear HB_Y
    have kX_z := HX7.out.1
    have kX_0 := HX7.out.2 0 _ rfl
    have kX_1 := HX7.out.2 1 _ rfl
    have kX_2 := HX7.out.2 2 _ rfl
    have kCY_z := HCY7.out.1
    have kCY_0 := HCY7.out.2 0 _ rfl
    have kCY_1 := HCY7.out.2 1 _ rfl
    have kCY_2 := HCY7.out.2 2 _ rfl
    go_wp2_with fail
    clear kX_z kX_0 kX_1 kX_2
    clear kCY_z kCY_0 kCY_1 kCY_2
    refine (toEdits_any _ E0 m0 d0 g0 rE7.out hm20).mono ?_
    rintro e w8 ⟨EF, dF, rfl, RM, bT⟩
    have HQF : Hid (0 < m0 → ∀ b, blk EF = some b → w7.heap.size ≤ b ∧ b < w8.heap.size) := Lib.hid (fun hn b hb => ⟨RM.blk_ge hn b hb, RM.row.blk_lt hn b hb⟩)
    have HX8 := Lib.hid (HX7.out.below bT HX7.out.1)
    have HCY8 := Lib.hid (HCY7.out.below bT HCY7.out.1)
    have rA8 := Lib.hid (rA7.out.below bT (Nat.le_refl _))
    have rE8 := Lib.hid (rE7.out.below bT (Nat.le_refl _))
    have rX8 := Lib.hid (rX7.out.below bT (Nat.le_refl _))
    have HB8 := Lib.hid (HB7.out.trans (bT.mono HB7.out.size))
    have z8 := (bT).size
    clear HB7 HX7 HCY7 rA7 rE7 rX7
    clear bT
    have rF8 := Lib.hid RM
    clear RM
    have kX_z := HX8.out.1
    have kX_0 := HX8.out.2 0 _ rfl
    have kX_1 := HX8.out.2 1 _ rfl
    have kX_2 := HX8.out.2 2 _ rfl
    have kCY_z := HCY8.out.1
    have kCY_0 := HCY8.out.2 0 _ rfl
    have kCY_1 := HCY8.out.2 1 _ rfl
    have kCY_2 := HCY8.out.2 2 _ rfl
    go_wp2_with fail
    clear kX_z kX_0 kX_1 kX_2
    clear kCY_z kCY_0 kCY_1 kCY_2
    refine (HI.out _ _ _ _ _ rX8.out.row rF8.out.row).mono ?_
    rintro e w9 ⟨rfl, bT⟩
    have HX9 := Lib.hid (HX8.out.below bT HX8.out.1)
    have HCY9 := Lib.hid (HCY8.out.below bT HCY8.out.1)
    have rA9 := Lib.hid (rA8.out.below bT (Nat.le_refl _))
    have rE9 := Lib.hid (rE8.out.below bT (Nat.le_refl _))
    have rX9 := Lib.hid (rX8.out.below bT (Nat.le_refl _))
    have rF9 := Lib.hid (rF8.out.below bT (Nat.le_refl _))
    have HB9 := Lib.hid (HB8.out.trans (bT.mono HB8.out.size))
    have z9 := (bT).size
    clear HB8 HX8 HCY8 rA8 rE8 rX8 rF8
    clear bT
    have kX_z := HX9.out.1
    have kX_0 := HX9.out.2 0 _ rfl
    have kX_1 := HX9.out.2 1 _ rfl
    have kX_2 := HX9.out.2 2 _ rfl
    have kCY_z := HCY9.out.1
    have kCY_0 := HCY9.out.2 0 _ rfl
    have kCY_1 := HCY9.out.2 1 _ rfl
    have kCY_2 := HCY9.out.2 2 _ rfl
    have OL := Lib.hid (Old.mk_ (Below.refl w9.heap.size w9).drew)
    go_wp2_with fail
    go_region_held3 (fun w' => (∀ b o, b < (w9).heap.size → w'.cell? ⟨b, o, none⟩ = (w9).cell? ⟨b, o, none⟩) ∧ Below (w9).heap.size (w9) w')
      (first | assumption | exact OL.out | exact Old.trans (by assumption) (by assumption))
      (first | (go_at_call 10; refine (toPanel_any _ W0 H0 A0 n0 c0 zs0 ?_ hn20).mono ?_; exact rA9.out.old (by assumption); rintro e wqa ⟨bz, rfl, hbz, hrow7, b7⟩) | (go_at_call 13; refine (eqPanel_same _ W0 H0 _ _ n0 n0 n0 zs0 ?_ ?_).mono ?_; exact rX9.out.row.old (by assumption); exact Row.of_rowIs hrow7 hn63 HW.out; rintro e wqb ⟨rfl, b8⟩))
    clear kX_z kX_0 kX_1 kX_2
    clear kCY_z kCY_0 kCY_1 kCY_2
    rename_i hS
    have b8x := hS.2
    clear hS OL hrow7 hbz b7 b8
    obtain ⟨w10, rfl⟩ : ∃ w' : World, w' = wqb := ⟨_, rfl⟩
    have HX10 := Lib.hid (HX9.out.below b8x HX9.out.1)
    have HCY10 := Lib.hid (HCY9.out.below b8x HCY9.out.1)
    have rA10 := Lib.hid (rA9.out.below b8x (Nat.le_refl _))
    have rE10 := Lib.hid (rE9.out.below b8x (Nat.le_refl _))
    have rX10 := Lib.hid (rX9.out.below b8x (Nat.le_refl _))
    have rF10 := Lib.hid (rF9.out.below b8x (Nat.le_refl _))
    have HB10 := Lib.hid (HB9.out.trans (b8x.mono HB9.out.size))
    have z10 := (b8x).size
    clear HB9 HX9 HCY9 rA9 rE9 rX9 rF9
    clear b8x
    have kX_z := HX10.out.1
    have kX_0 := HX10.out.2 0 _ rfl
    have kX_1 := HX10.out.2 1 _ rfl
    have kX_2 := HX10.out.2 2 _ rfl
    have kCY_z := HCY10.out.1
    have kCY_0 := HCY10.out.2 0 _ rfl
    have kCY_1 := HCY10.out.2 1 _ rfl
    have kCY_2 := HCY10.out.2 2 _ rfl
    go_wp2_with fail
    clear kX_z kX_0 kX_1 kX_2
    clear kCY_z kCY_0 kCY_1 kCY_2
    refine (toEdits_any _ E0 m0 d0 g0 rE10.out hm20).mono ?_
    rintro e w11 ⟨EZ, dZ, rfl, RM, bT⟩
    have HQZ : Hid (0 < m0 → ∀ b, blk EZ = some b → w10.heap.size ≤ b ∧ b < w11.heap.size) := Lib.hid (fun hn b hb => ⟨RM.blk_ge hn b hb, RM.row.blk_lt hn b hb⟩)
    have HX11 := Lib.hid (HX10.out.below bT HX10.out.1)
    have HCY11 := Lib.hid (HCY10.out.below bT HCY10.out.1)
    have rA11 := Lib.hid (rA10.out.below bT (Nat.le_refl _))
    have rE11 := Lib.hid (rE10.out.below bT (Nat.le_refl _))
    have rX11 := Lib.hid (rX10.out.below bT (Nat.le_refl _))
    have rF11 := Lib.hid (rF10.out.below bT (Nat.le_refl _))
    have HB11 := Lib.hid (HB10.out.trans (bT.mono HB10.out.size))
    have z11 := (bT).size
    clear HB10 HX10 HCY10 rA10 rE10 rX10 rF10
    clear bT
    have rZ11 := Lib.hid RM
    clear RM
    have kX_z := HX11.out.1
    have kX_0 := HX11.out.2 0 _ rfl
    have kX_1 := HX11.out.2 1 _ rfl
    have kX_2 := HX11.out.2 2 _ rfl
    have kCY_z := HCY11.out.1
    have kCY_0 := HCY11.out.2 0 _ rfl
    have kCY_1 := HCY11.out.2 1 _ rfl
    have kCY_2 := HCY11.out.2 2 _ rfl
    go_wp2_with fail
    clear kX_z kX_0 kX_1 kX_2
    clear kCY_z kCY_0 kCY_1 kCY_2
    refine (eqEdits_same _ EF EZ m0 dF dZ g0 rF11.out.row rZ11.out.row).mono ?_
    rintro e w12 ⟨rfl, bE⟩
    have HX12 := Lib.hid (HX11.out.below bE HX11.out.1)
    have HCY12 := Lib.hid (HCY11.out.below bE HCY11.out.1)
    have rA12 := Lib.hid (rA11.out.below bE (Nat.le_refl _))
    have rE12 := Lib.hid (rE11.out.below bE (Nat.le_refl _))
    have rX12 := Lib.hid (rX11.out.below bE (Nat.le_refl _))
    have rF12 := Lib.hid (rF11.out.below bE (Nat.le_refl _))
    have rZ12 := Lib.hid (rZ11.out.below bE (Nat.le_refl _))
    have HB12 := Lib.hid (HB11.out.trans (bE.mono HB11.out.size))
    have z12 := (bE).size
    clear HB11 HX11 HCY11 rA11 rE11 rX11 rF11 rZ11
    clear bE
    clear rZ12
    have kX_z := HX12.out.1
    have kX_0 := HX12.out.2 0 _ rfl
    have kX_1 := HX12.out.2 1 _ rfl
    have kX_2 := HX12.out.2 2 _ rfl
    have kCY_z := HCY12.out.1
    have kCY_0 := HCY12.out.2 0 _ rfl
    have kCY_1 := HCY12.out.2 1 _ rfl
    have kCY_2 := HCY12.out.2 2 _ rfl
    go_wp2
    go_ret
    exact ⟨rfl, HB12.out⟩

theorem walk (w : World) (W0 H0 : Int) (A0 : Option Addr) (n0 c0 : Nat) (zs0 : Nat → Int) (wW0 : (Lit.int .i64 W0).wf = true) (wH0 : (Lit.int .i64 H0).wf = true) (r0 : Row .i64 w A0 n0 c0 zs0) (A1 : Option Addr) (n1 c1 : Nat) (zs1 : Nat → Int) (r1 : RowS 2 w A1 n1 c1 zs1) :
    Calls Try.prog 3 #[.agg #[.int .i64 W0, .int .i64 H0, .slice A0 n0 c0], .slice A1 n1 c1] w fun e w' => e = .returned (.bool true) ∧ Below w.heap.size w w' := by
  have hnm : n0 ≤ 9223372036854775807 := by have := r0.1; have := r0.2.1; unfold maxLen at this; omega
  have hmm : n1 ≤ 9223372036854775807 := by have := r1.1; have := r1.2.1; unfold maxLen at this; omega
  by_cases hs : (n0 : Int) + n1 ≤ 1048576
  · exact core w W0 H0 A0 n0 c0 zs0 A1 n1 c1 zs1 (edV W0 H0 n0 zs0 zs1 n1) r0 r1 hs (Lib.hid fun w A c E d hr he => spec_validEdits w W0 H0 A n0 c zs0 E n1 d zs1 hr he) (Lib.hid fun w A c E d hr he => impl_validEdits w W0 H0 A n0 c zs0 E n1 d zs1 hr he)
  · by_cases hs0 : (n0 : Int) ≤ 1048576
    · go_enter Try.func3, Try.ntmps3
      go_wp2_with fail
      refine (sz_yes _ W0 H0 A0 n0 c0 1048576 (by omega) (by omega) hs0).mono ?_
      rintro e w1 ⟨rfl, b1⟩
      have HB1 := Lib.hid (Below.trans (show Below w.heap.size w (w.alloc (.cells #[.int .i64 W0, .int .i64 H0, .slice A0 n0 c0] 24)) from ((Below.refl w.heap.size w).alloc (by simp) _)) (b1.mono (by first | (simp; done) | (simp; omega))))
      clear b1
      go_wp2_with fail
      refine (szEdits_no _ A1 n1 c1 (1048576 - (n0 : Int)) (by omega) (by omega) hmm (by omega)).mono ?_
      rintro e w2 ⟨rfl, b2⟩
      go_wp2
      go_ret
      exact ⟨rfl, HB1.out.trans (b2.mono HB1.out.size)⟩
    · go_enter Try.func3, Try.ntmps3
      go_wp2_with fail
      refine (sz_no _ W0 H0 A0 n0 c0 1048576 (by omega) (by omega) hnm (by omega)).mono ?_
      rintro e w1 ⟨rfl, b1⟩
      go_wp2
      go_ret
      exact ⟨rfl, (Below.trans (show Below w.heap.size w (w.alloc (.cells #[.int .i64 W0, .int .i64 H0, .slice A0 n0 c0] 24)) from ((Below.refl w.heap.size w).alloc (by simp) _)) (b1.mono (by first | (simp; done) | (simp; omega))))⟩

set_option maxRecDepth 100000 in
theorem lifted (os : Os) (started : os.Started) (H : Type) (enc : TypeId × Value → H) :
    ReturnsInHanded {} Try.checked os 3 .any (Rows.fnExactValidEditsSpec.pre6 enc Try.prog Try.f3 Rows.fnExactValidEditsRow.domain false) (Rows.fnExactValidEditsSpec.post enc Try.prog Try.f3 false true false false) := by
  refine returnsInHanded_of_change (C := Try.checked) own started (by kernel_rfl) Try.func3
    (ChangeSpec.witness6 (enc := enc) (C := Try.checked) false ⟨#[], #[.agg #[.int .i64 0, .int .i64 0, .slice none 0 0], .slice none 0 0], []⟩ 8 (by kernel_rfl) (by kernel_rfl) (by kernel_rfl) (by kernel_rfl)) ?_
  intro W base args ds gs before hval0 hW hcnd _
  have hval : ∀ (j : Nat) t v, Try.f3.params[j]? = some t → args[j]? = some v → Value.okWide Try.prog W .any base t v := hval0
  have hW' := hW
  obtain ⟨p, q, hA0, hV, rfl, hfz, hnd⟩ := hW
  have hA : DataW.TrodAll enc Try.prog W 0 (fun _ => true) true Try.f3.params.toList args.toList ds p := hA0
  rw [Try.params3] at hA hval
  obtain ⟨v0, vs0, d0, ds0, p0, q0, hargs, rfl, rfl, h0, tl0⟩ := trodAll_cons hA
  obtain ⟨v1, vs1, d1, ds1, p1, q1, rfl, rfl, rfl, h1, tl1⟩ := trodAll_cons tl0
  obtain ⟨rfl, rfl, rfl⟩ := trodAll_nil tl1
  obtain rfl : args = #[v0, v1] := by cases args; simp_all
  obtain ⟨rfl, rfl⟩ := trodVars_none hV
  have k0 := h0
  have lt0 : ∀ x ∈ p0, x.block < W.heap.size := by obtain ⟨m, hm⟩ := k0; exact DataW.trod_lt m _ _ _ hm
  have k1 := h1
  have lt1 : ∀ x ∈ p1, x.block < W.heap.size := by obtain ⟨m, hm⟩ := k1; exact DataW.trod_lt m _ _ _ hm
  obtain ⟨u00, u01, u02, y00, y01, y02, m0, rfl, rfl, hp0, g00, g01, g02⟩ := open_agg3 Try.underlying24 (by kernel_rfl) (by kernel_rfl) (hval 0 24 v0 rfl rfl) h0
  obtain ⟨W0, e00, -, wW0⟩ := DataW.trod_int Try.underlying2 g00
  obtain ⟨H0, e01, -, wH0⟩ := DataW.trod_int Try.underlying2 g01
  simp at e00 e01
  subst e00 e01
  obtain ⟨A0, n0, c0, zs0, e02, r0⟩ := row_of Try.underlying22 Try.underlying2 (by kernel_rfl) g02 (fun x hx => lt0 x (by rw [hp0]; simp [hx]))
  simp at e02
  subst e02
  obtain ⟨A1, n1, c1, rfl⟩ := okWide_slice Try.underlying25 (hval 1 25 v1 rfl rfl)
  obtain ⟨zs1, r1⟩ : ∃ zs, RowS 2 W A1 n1 c1 zs := by
    obtain ⟨fuel, hf⟩ := h1
    obtain ⟨A', n', c', zs, e2, r⟩ := rowE_of Try.underlying25 Try.underlying52 (by kernel_rfl) rfl rfl (by kernel_rfl) (by kernel_rfl) Try.underlying2 Try.underlying2 hf
    simp [Value.cells] at e2
    obtain ⟨rfl, rfl, rfl⟩ := e2
    exact ⟨zs, r⟩
  clear hA0 hval0
  refine (walk W W0 H0 A0 n0 c0 zs0 wW0 wH0 r0 A1 n1 c1 zs1 r1).mono fun e W' ⟨he, bel⟩ => ?_
  subst he
  exact ⟨_, rfl, _, _, _, [], _, [], hW', trodAll_mk1 (shut_bool Try.underlying4 _), (trodAll_cons_mk (Below.trod laidOut (by kernel_rfl) (of_decide_eq_true (by kernel_rfl)) k0 bel lt0) (trodAll_cons_mk (Below.trod laidOut (by kernel_rfl) (of_decide_eq_true (by kernel_rfl)) k1 bel lt1) trodAll_mk0)), rfl, bel.frame _, fun h => by cases h⟩

theorem over : Rows.fnExactValidEditsRow.holds Try.pinned (OpenSpec.ofChange Rows.fnExactValidEditsSpec) :=
  OpenClaim.holds_of_wide 3 Try.f3 rfl rfl rfl rfl rfl rfl rfl ⟨rfl, rfl, rfl, rfl, rfl⟩ rfl rfl rfl rfl rfl (by kernel_rfl) Try.func3 (by kernel_rfl)
    (of_decide_eq_true (by kernel_rfl)) (by unfold Func.isWrapper; first | (rw [if_pos (by decide +kernel)]; kernel_rfl) | (rw [if_neg (by decide +kernel)]; exact ⟨rfl, rfl⟩))
    (fun os started H enc _ => lifted os started H enc)

theorem proved : Rows.FnExactValidEditsSaid := over
#print axioms proved
end Go.Proofs.Ytgdmojkfpghmnaa.fnExactValidEdits
