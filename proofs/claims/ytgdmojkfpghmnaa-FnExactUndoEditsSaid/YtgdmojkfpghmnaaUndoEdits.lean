/- Proved: whatever arguments UndoEdits of the program is called with (of at most 2^20 numbers together; for larger ones the law answers true at once), it answers as the model, every field, and changes nothing; what it makes is its own. No condition. -/
import Derived.Test.YtgdmojkfpghmnaaRows
import Derived.Test.YtgdmojkfpghmnaaBase
import Derived.Test.YtgdmojkfpghmnaaPan
import Derived.Test.YtgdmojkfpghmnaaMark
import Derived.Test.YtgdmojkfpghmnaaNew
import Derived.Test.YtgdmojkfpghmnaaHeap
import Derived.Test.YtgdmojkfpghmnaaShape
import Derived.Test.YtgdmojkfpghmnaaWls
import Derived.Test.YtgdmojkfpghmnaaEds
import Derived.Test.YtgdmojkfpghmnaaEdw
import Derived.Test.YtgdmojkfpghmnaaEdv
import Derived.Test.YtgdmojkfpghmnaaEda
import Derived.Test.YtgdmojkfpghmnaaEdb
import Derived.Test.YtgdmojkfpghmnaaEdu
import Derived.WalkKit
import Derived.ProofKit
import Derived.OpenShut
import Derived.ShutString
import Derived.ChangeOld
import Derived.Below
import Derived.Lib.SmallJoins
namespace Go.Proofs.Ytgdmojkfpghmnaa.fnExactUndoEdits
open Go.ChangeShapes Go.WideShapes Go.ChangeAt Go.RowKit Go.Joins
open Go.ChangeMaps (open_string shut_string)
open Go.Proofs.Ytgdmojkfpghmnaa.Base
set_option linter.unusedVariables false
theorem own : ownKnob Try.prog.godebug = none := by kernel_rfl
theorem laidOut : laidOutB Try.prog = true := by kernel_rfl

set_option maxHeartbeats 4000000 in
theorem core (w : World) (W0 H0 : Int) (A0 : Option Addr) (n0 c0 : Nat) (zs0 : Nat → Int) (A1 : Option Addr) (n1 c1 : Nat) (zs1 : Nat → Int) (N : Nat) (F : Nat → Int) (code : Int) (hN : N ≤ 1048576) (r0 : Row .i64 w A0 n0 c0 zs0) (r1 : RowS 2 w A1 n1 c1 zs1) (hs : (n0 : Int) + (n1 : Int) ≤ 1048576)
    (HS : Hid (∀ (w : World) (A0 : Option Addr) (c0 : Nat) (A1 : Option Addr) (c1 : Nat), Row .i64 w A0 n0 c0 zs0 → RowS 2 w A1 n1 c1 zs1 → Calls Try.prog 23 #[.agg #[.int .i64 W0, .int .i64 H0, .slice A0 n0 c0], .slice A1 n1 c1] w (ListOut 2 N F code w.heap.size w)))
    (HI : Hid (∀ (w : World) (A0 : Option Addr) (c0 : Nat) (A1 : Option Addr) (c1 : Nat), Row .i64 w A0 n0 c0 zs0 → RowS 2 w A1 n1 c1 zs1 → Calls Try.prog 24 #[.agg #[.int .i64 W0, .int .i64 H0, .slice A0 n0 c0], .slice A1 n1 c1] w (ListOut 2 N F code w.heap.size w))) :
    Calls Try.prog 6 #[.agg #[.int .i64 W0, .int .i64 H0, .slice A0 n0 c0], .slice A1 n1 c1] w fun e w' => e = .returned (.bool true) ∧ Below w.heap.size w w' := by
    have HR0 := Lib.hid r0
    have HQA0 : Hid (0 < n0 → ∀ b, blk A0 = some b → b < w.heap.size) := Lib.hid (row_blk r0)
    have hn0 : n0 ≤ 1048576 := by omega
    clear r0
    have HR1 := Lib.hid r1
    have HQA1 : Hid (0 < n1 → ∀ b, blk A1 = some b → b < w.heap.size) := Lib.hid (r1.blk_lt)
    have hn1 : n1 ≤ 1048576 := by omega
    clear r1
    have hcd : (code != code) = false := by simp
    have hmk : ((1 + 2 * (N : Int)) != (1 + 2 * (N : Int))) = false := by simp
    go_enter Try.func6, Try.ntmps6
    have HB0 : Hid (Below w.heap.size w (w.alloc (.cells #[.int .i64 W0, .int .i64 H0, .slice A0 n0 c0] 24))) := Lib.hid ((Below.refl w.heap.size w).alloc (by simp) _)
    have HX0_0 : Hid (Cel (w.alloc (.cells #[.int .i64 W0, .int .i64 H0, .slice A0 n0 c0] 24)) (w.heap.size) [.int .i64 W0, .int .i64 H0, .slice A0 n0 c0]) := Lib.hid (by have h := (Cel.new w [.int .i64 W0, .int .i64 H0, .slice A0 n0 c0] 24); simpa using h)
    have rA0_0 := Lib.hid (HR0.out.below HB0.out (Nat.le_refl _))
    clear HR0
    have rA1_0 := Lib.hid (HR1.out.below HB0.out (Nat.le_refl _))
    clear HR1
    have z0 := HB0.out.size
    have z0e : ((w.alloc (.cells #[.int .i64 W0, .int .i64 H0, .slice A0 n0 c0] 24))).heap.size = w.heap.size + 1 := by simp
    go_wp2_with fail
    refine (sz_yes _ W0 H0 A0 n0 c0 (1048576) (by omega) (by omega) (by omega)).mono ?_
    rintro e w1 ⟨rfl, bT⟩
    have HX0_1 := Lib.hid (HX0_0.out.below bT HX0_0.out.1)
    have rA0_1 := Lib.hid (rA0_0.out.below bT (Nat.le_refl _))
    have rA1_1 := Lib.hid (rA1_0.out.below bT (Nat.le_refl _))
    have HB1 := Lib.hid (HB0.out.trans (bT.mono HB0.out.size))
    have z1 := (bT).size
    clear HB0 HX0_0 rA0_0 rA1_0
    clear bT
    have kX0_z := HX0_1.out.1
    have kX0_0 := HX0_1.out.2 0 _ rfl
    have kX0_1 := HX0_1.out.2 1 _ rfl
    have kX0_2 := HX0_1.out.2 2 _ rfl
    go_wp2_with fail
    clear kX0_z kX0_0 kX0_1 kX0_2
    refine (szEdits_yes _ A1 n1 c1 (1048576 - (n0 : Int)) (by omega) (by omega) (by omega)).mono ?_
    rintro e w2 ⟨rfl, bT⟩
    have HX0_2 := Lib.hid (HX0_1.out.below bT HX0_1.out.1)
    have rA0_2 := Lib.hid (rA0_1.out.below bT (Nat.le_refl _))
    have rA1_2 := Lib.hid (rA1_1.out.below bT (Nat.le_refl _))
    have HB2 := Lib.hid (HB1.out.trans (bT.mono HB1.out.size))
    have z2 := (bT).size
    clear HB1 HX0_1 rA0_1 rA1_1
    clear bT
    have kX0_z := HX0_2.out.1
    have kX0_0 := HX0_2.out.2 0 _ rfl
    have kX0_1 := HX0_2.out.2 1 _ rfl
    have kX0_2 := HX0_2.out.2 2 _ rfl
    go_wp2_with fail
    clear kX0_z kX0_0 kX0_1 kX0_2
    refine (toPanel_own _ W0 H0 A0 n0 c0 zs0 rA0_2.out hn0).mono ?_
    rintro e w3 ⟨AP0, cP0, rfl, RM, bT⟩
    have HQP0 : Hid (0 < n0 → ∀ b, blk AP0 = some b → w2.heap.size ≤ b ∧ b < w3.heap.size) := Lib.hid (fun hn b hb => by obtain ⟨b', h1, h2, h3⟩ := RM.base_le hn; rw [hb] at h1; injection h1 with h1; subst h1; exact ⟨h2, h3⟩)
    have HX0_3 := Lib.hid (HX0_2.out.below bT HX0_2.out.1)
    have rA0_3 := Lib.hid (rA0_2.out.below bT (Nat.le_refl _))
    have rA1_3 := Lib.hid (rA1_2.out.below bT (Nat.le_refl _))
    have HB3 := Lib.hid (HB2.out.trans (bT.mono HB2.out.size))
    have z3 := (bT).size
    clear HB2 HX0_2 rA0_2 rA1_2
    clear bT
    have rP0_3 := Lib.hid RM
    clear RM
    have kX0_z := HX0_3.out.1
    have kX0_0 := HX0_3.out.2 0 _ rfl
    have kX0_1 := HX0_3.out.2 1 _ rfl
    have kX0_2 := HX0_3.out.2 2 _ rfl
    go_wp2_with fail
    clear kX0_z kX0_0 kX0_1 kX0_2
    refine (toEdits_any _ A1 n1 c1 zs1 rA1_3.out hn1).mono ?_
    rintro e w4 ⟨AP1, cP1, rfl, RM, bT⟩
    have HQP1 : Hid (0 < n1 → ∀ b, blk AP1 = some b → w3.heap.size ≤ b ∧ b < w4.heap.size) := Lib.hid (fun hn b hb => ⟨RM.blk_ge hn b hb, RM.row.blk_lt hn b hb⟩)
    have HX0_4 := Lib.hid (HX0_3.out.below bT HX0_3.out.1)
    have rA0_4 := Lib.hid (rA0_3.out.below bT (Nat.le_refl _))
    have rA1_4 := Lib.hid (rA1_3.out.below bT (Nat.le_refl _))
    have rP0_4 := Lib.hid (rP0_3.out.below bT (Nat.le_refl _))
    have HB4 := Lib.hid (HB3.out.trans (bT.mono HB3.out.size))
    have z4 := (bT).size
    clear HB3 HX0_3 rA0_3 rA1_3 rP0_3
    clear bT
    have rP1_4 := Lib.hid RM
    clear RM
    have kX0_z := HX0_4.out.1
    have kX0_0 := HX0_4.out.2 0 _ rfl
    have kX0_1 := HX0_4.out.2 1 _ rfl
    have kX0_2 := HX0_4.out.2 2 _ rfl
    go_wp2_with fail
    clear kX0_z kX0_0 kX0_1 kX0_2
    refine (HS.out _ _ _ _ _ rP0_4.out.row rP1_4.out.row).mono ?_
    rintro e w5 ⟨AM, cM, rfl, RM, bC⟩
    have HQM : Hid (0 < N → ∀ b, blk AM = some b → w4.heap.size ≤ b ∧ b < w5.heap.size) := Lib.hid (fun hn b hb => ⟨RM.blk_ge hn b hb, RM.row.blk_lt hn b hb⟩)
    clear rP0_4
    clear rP1_4
    have HX0_5 := Lib.hid (HX0_4.out.below bC HX0_4.out.1)
    have rA0_5 := Lib.hid (rA0_4.out.below bC (Nat.le_refl _))
    have rA1_5 := Lib.hid (rA1_4.out.below bC (Nat.le_refl _))
    have HB5 := Lib.hid (HB4.out.trans (bC.mono HB4.out.size))
    have z5 := (bC).size
    clear HB4 HX0_4 rA0_4 rA1_4
    clear bC
    have rM_5 := Lib.hid RM
    clear RM
    have kX0_z := HX0_5.out.1
    have kX0_0 := HX0_5.out.2 0 _ rfl
    have kX0_1 := HX0_5.out.2 1 _ rfl
    have kX0_2 := HX0_5.out.2 2 _ rfl
    go_wp2_with fail
    clear kX0_z kX0_0 kX0_1 kX0_2
    refine (toPanel_own _ W0 H0 A0 n0 c0 zs0 rA0_5.out hn0).mono ?_
    rintro e w6 ⟨AX0, cX0, rfl, RM, bT⟩
    have HQX0 : Hid (0 < n0 → ∀ b, blk AX0 = some b → w5.heap.size ≤ b ∧ b < w6.heap.size) := Lib.hid (fun hn b hb => by obtain ⟨b', h1, h2, h3⟩ := RM.base_le hn; rw [hb] at h1; injection h1 with h1; subst h1; exact ⟨h2, h3⟩)
    have HX0_6 := Lib.hid (HX0_5.out.below bT HX0_5.out.1)
    have rA0_6 := Lib.hid (rA0_5.out.below bT (Nat.le_refl _))
    have rA1_6 := Lib.hid (rA1_5.out.below bT (Nat.le_refl _))
    have rM_6 := Lib.hid (rM_5.out.below bT (Nat.le_refl _))
    have HB6 := Lib.hid (HB5.out.trans (bT.mono HB5.out.size))
    have z6 := (bT).size
    clear HB5 HX0_5 rA0_5 rA1_5 rM_5
    clear bT
    have rX0_6 := Lib.hid RM
    clear RM
    have kX0_z := HX0_6.out.1
    have kX0_0 := HX0_6.out.2 0 _ rfl
    have kX0_1 := HX0_6.out.2 1 _ rfl
    have kX0_2 := HX0_6.out.2 2 _ rfl
    go_wp2_with fail
    clear kX0_z kX0_0 kX0_1 kX0_2
    have bN := (Below.refl w6.heap.size w6).alloc (Nat.le_refl _) (.cells #[.int .i64 W0, .int .i64 H0, .slice AX0 n0 cX0] 29)
    have HCY0_7 := Lib.hid (Cel.new w6 [.int .i64 W0, .int .i64 H0, .slice AX0 n0 cX0] 29)
    have HX0_7 := Lib.hid (HX0_6.out.below bN HX0_6.out.1)
    have rA0_7 := Lib.hid (rA0_6.out.below bN (Nat.le_refl _))
    have rA1_7 := Lib.hid (rA1_6.out.below bN (Nat.le_refl _))
    have rM_7 := Lib.hid (rM_6.out.below bN (Nat.le_refl _))
    have rX0_7 := Lib.hid (rX0_6.out.below bN (Nat.le_refl _))
    have HB7 := Lib.hid (HB6.out.trans (bN.mono HB6.out.size))
    have z7 := (bN).size
    clear HB6 HX0_6 rA0_6 rA1_6 rM_6 rX0_6
    have z7e : w6.heap.size + 1 ≤ (w6.alloc (.cells #[.int .i64 W0, .int .i64 H0, .slice AX0 n0 cX0] 29)).heap.size := by simp
    clear bN
    generalize w6.alloc (.cells #[.int .i64 W0, .int .i64 H0, .slice AX0 n0 cX0] 29) = w7 at *
    generalize w6.heap.size = bY0 at *
    have kX0_z := HX0_7.out.1
    have kX0_0 := HX0_7.out.2 0 _ rfl
    have kX0_1 := HX0_7.out.2 1 _ rfl
    have kX0_2 := HX0_7.out.2 2 _ rfl
    have kCY0_z := HCY0_7.out.1
    have kCY0_0 := HCY0_7.out.2 0 _ rfl
    have kCY0_1 := HCY0_7.out.2 1 _ rfl
    have kCY0_2 := HCY0_7.out.2 2 _ rfl
    go_wp2_with fail
    clear kX0_z kX0_0 kX0_1 kX0_2
    clear kCY0_z kCY0_0 kCY0_1 kCY0_2
    refine (toEdits_any _ A1 n1 c1 zs1 rA1_7.out hn1).mono ?_
    rintro e w8 ⟨AX1, cX1, rfl, RM, bT⟩
    have HQX1 : Hid (0 < n1 → ∀ b, blk AX1 = some b → w7.heap.size ≤ b ∧ b < w8.heap.size) := Lib.hid (fun hn b hb => ⟨RM.blk_ge hn b hb, RM.row.blk_lt hn b hb⟩)
    have HX0_8 := Lib.hid (HX0_7.out.below bT HX0_7.out.1)
    have HCY0_8 := Lib.hid (HCY0_7.out.below bT HCY0_7.out.1)
    have rA0_8 := Lib.hid (rA0_7.out.below bT (Nat.le_refl _))
    have rA1_8 := Lib.hid (rA1_7.out.below bT (Nat.le_refl _))
    have rM_8 := Lib.hid (rM_7.out.below bT (Nat.le_refl _))
    have rX0_8 := Lib.hid (rX0_7.out.below bT (Nat.le_refl _))
    have HB8 := Lib.hid (HB7.out.trans (bT.mono HB7.out.size))
    have z8 := (bT).size
    clear HB7 HX0_7 HCY0_7 rA0_7 rA1_7 rM_7 rX0_7
    clear bT
    have rX1_8 := Lib.hid RM
    clear RM
    have kX0_z := HX0_8.out.1
    have kX0_0 := HX0_8.out.2 0 _ rfl
    have kX0_1 := HX0_8.out.2 1 _ rfl
    have kX0_2 := HX0_8.out.2 2 _ rfl
    have kCY0_z := HCY0_8.out.1
    have kCY0_0 := HCY0_8.out.2 0 _ rfl
    have kCY0_1 := HCY0_8.out.2 1 _ rfl
    have kCY0_2 := HCY0_8.out.2 2 _ rfl
    go_wp2_with fail
    clear kX0_z kX0_0 kX0_1 kX0_2
    clear kCY0_z kCY0_0 kCY0_1 kCY0_2
    refine (HI.out _ _ _ _ _ rX0_8.out.row rX1_8.out.row).mono ?_
    rintro e w9 ⟨AG, cG, rfl, RM, bC⟩
    have HQG : Hid (0 < N → ∀ b, blk AG = some b → w8.heap.size ≤ b ∧ b < w9.heap.size) := Lib.hid (fun hn b hb => ⟨RM.blk_ge hn b hb, RM.row.blk_lt hn b hb⟩)
    have HX0_9 := Lib.hid (HX0_8.out.below bC HX0_8.out.1)
    have HCY0_9 := Lib.hid (HCY0_8.out.below bC HCY0_8.out.1)
    have rA0_9 := Lib.hid (rA0_8.out.below bC (Nat.le_refl _))
    have rA1_9 := Lib.hid (rA1_8.out.below bC (Nat.le_refl _))
    have rM_9 := Lib.hid (rM_8.out.below bC (Nat.le_refl _))
    have rX0_9 := Lib.hid (rX0_8.out.below bC (Nat.le_refl _))
    have rX1_9 := Lib.hid (rX1_8.out.below bC (Nat.le_refl _))
    have HB9 := Lib.hid (HB8.out.trans (bC.mono HB8.out.size))
    have z9 := (bC).size
    clear HB8 HX0_8 HCY0_8 rA0_8 rA1_8 rM_8 rX0_8 rX1_8
    clear bC
    have rG_9 := Lib.hid RM
    clear RM
    have kX0_z := HX0_9.out.1
    have kX0_0 := HX0_9.out.2 0 _ rfl
    have kX0_1 := HX0_9.out.2 1 _ rfl
    have kX0_2 := HX0_9.out.2 2 _ rfl
    have kCY0_z := HCY0_9.out.1
    have kCY0_0 := HCY0_9.out.2 0 _ rfl
    have kCY0_1 := HCY0_9.out.2 1 _ rfl
    have kCY0_2 := HCY0_9.out.2 2 _ rfl
    go_wp2_with fail
    clear kX0_z kX0_0 kX0_1 kX0_2
    clear kCY0_z kCY0_0 kCY0_1 kCY0_2
    refine (eqEdits_same _ AG AM N cG cM F rG_9.out.row rM_9.out.row).mono ?_
    rintro e w10 ⟨rfl, bE⟩
    have HX0_10 := Lib.hid (HX0_9.out.below bE HX0_9.out.1)
    have HCY0_10 := Lib.hid (HCY0_9.out.below bE HCY0_9.out.1)
    have rA0_10 := Lib.hid (rA0_9.out.below bE (Nat.le_refl _))
    have rA1_10 := Lib.hid (rA1_9.out.below bE (Nat.le_refl _))
    have rM_10 := Lib.hid (rM_9.out.below bE (Nat.le_refl _))
    have rX0_10 := Lib.hid (rX0_9.out.below bE (Nat.le_refl _))
    have rX1_10 := Lib.hid (rX1_9.out.below bE (Nat.le_refl _))
    have rG_10 := Lib.hid (rG_9.out.below bE (Nat.le_refl _))
    have HB10 := Lib.hid (HB9.out.trans (bE.mono HB9.out.size))
    have z10 := (bE).size
    clear HB9 HX0_9 HCY0_9 rA0_9 rA1_9 rM_9 rX0_9 rX1_9 rG_9
    clear bE
    have kX0_z := HX0_10.out.1
    have kX0_0 := HX0_10.out.2 0 _ rfl
    have kX0_1 := HX0_10.out.2 1 _ rfl
    have kX0_2 := HX0_10.out.2 2 _ rfl
    have kCY0_z := HCY0_10.out.1
    have kCY0_0 := HCY0_10.out.2 0 _ rfl
    have kCY0_1 := HCY0_10.out.2 1 _ rfl
    have kCY0_2 := HCY0_10.out.2 2 _ rfl
    have OL := Lib.hid (Old.mk_ (Below.refl w10.heap.size w10).drew)
    go_wp2_with fail
    go_region_held3 (fun w' => (∀ b o, b < (w10).heap.size → w'.cell? ⟨b, o, none⟩ = (w10).cell? ⟨b, o, none⟩) ∧ Below (w10).heap.size (w10) w')
      (first | assumption | exact OL.out | exact Old.trans (by assumption) (by assumption))
      (first | (go_at_call 10; refine (toPanel_own _ W0 H0 A0 n0 c0 zs0 ?_ hn0).mono ?_; exact rA0_10.out.old (by assumption); rintro e wqa ⟨Az, cz, rfl, RZ, b7⟩) | (go_at_call 13; refine (eqPanel_same _ W0 H0 _ _ n0 _ _ zs0 ?_ ?_).mono ?_; exact rX0_10.out.row.old (by assumption); exact RZ.row; rintro e wqb ⟨rfl, b8⟩))
    clear kX0_z kX0_0 kX0_1 kX0_2
    clear kCY0_z kCY0_0 kCY0_1 kCY0_2
    rename_i hS
    have b8x := hS.2
    clear hS OL RZ b7 b8
    obtain ⟨w11, rfl⟩ : ∃ w' : World, w' = wqb := ⟨_, rfl⟩
    have HX0_11 := Lib.hid (HX0_10.out.below b8x HX0_10.out.1)
    have HCY0_11 := Lib.hid (HCY0_10.out.below b8x HCY0_10.out.1)
    have rA0_11 := Lib.hid (rA0_10.out.below b8x (Nat.le_refl _))
    have rA1_11 := Lib.hid (rA1_10.out.below b8x (Nat.le_refl _))
    have rM_11 := Lib.hid (rM_10.out.below b8x (Nat.le_refl _))
    have rX0_11 := Lib.hid (rX0_10.out.below b8x (Nat.le_refl _))
    have rX1_11 := Lib.hid (rX1_10.out.below b8x (Nat.le_refl _))
    have rG_11 := Lib.hid (rG_10.out.below b8x (Nat.le_refl _))
    have HB11 := Lib.hid (HB10.out.trans (b8x.mono HB10.out.size))
    have z11 := (b8x).size
    clear HB10 HX0_10 HCY0_10 rA0_10 rA1_10 rM_10 rX0_10 rX1_10 rG_10
    clear b8x
    have kX0_z := HX0_11.out.1
    have kX0_0 := HX0_11.out.2 0 _ rfl
    have kX0_1 := HX0_11.out.2 1 _ rfl
    have kX0_2 := HX0_11.out.2 2 _ rfl
    have kCY0_z := HCY0_11.out.1
    have kCY0_0 := HCY0_11.out.2 0 _ rfl
    have kCY0_1 := HCY0_11.out.2 1 _ rfl
    have kCY0_2 := HCY0_11.out.2 2 _ rfl
    go_wp2_with fail
    clear kX0_z kX0_0 kX0_1 kX0_2
    clear kCY0_z kCY0_0 kCY0_1 kCY0_2
    refine (toEdits_any _ A1 n1 c1 zs1 rA1_11.out hn1).mono ?_
    rintro e w12 ⟨AZ, cZ, rfl, RM, bT⟩
    have HQZ : Hid (0 < n1 → ∀ b, blk AZ = some b → w11.heap.size ≤ b ∧ b < w12.heap.size) := Lib.hid (fun hn b hb => ⟨RM.blk_ge hn b hb, RM.row.blk_lt hn b hb⟩)
    have HX0_12 := Lib.hid (HX0_11.out.below bT HX0_11.out.1)
    have HCY0_12 := Lib.hid (HCY0_11.out.below bT HCY0_11.out.1)
    have rA0_12 := Lib.hid (rA0_11.out.below bT (Nat.le_refl _))
    have rA1_12 := Lib.hid (rA1_11.out.below bT (Nat.le_refl _))
    have rM_12 := Lib.hid (rM_11.out.below bT (Nat.le_refl _))
    have rX0_12 := Lib.hid (rX0_11.out.below bT (Nat.le_refl _))
    have rX1_12 := Lib.hid (rX1_11.out.below bT (Nat.le_refl _))
    have rG_12 := Lib.hid (rG_11.out.below bT (Nat.le_refl _))
    have HB12 := Lib.hid (HB11.out.trans (bT.mono HB11.out.size))
    have z12 := (bT).size
    clear HB11 HX0_11 HCY0_11 rA0_11 rA1_11 rM_11 rX0_11 rX1_11 rG_11
    clear bT
    have rZ_12 := Lib.hid RM
    clear RM
    have kX0_z := HX0_12.out.1
    have kX0_0 := HX0_12.out.2 0 _ rfl
    have kX0_1 := HX0_12.out.2 1 _ rfl
    have kX0_2 := HX0_12.out.2 2 _ rfl
    have kCY0_z := HCY0_12.out.1
    have kCY0_0 := HCY0_12.out.2 0 _ rfl
    have kCY0_1 := HCY0_12.out.2 1 _ rfl
    have kCY0_2 := HCY0_12.out.2 2 _ rfl
    go_wp2_with fail
    clear kX0_z kX0_0 kX0_1 kX0_2
    clear kCY0_z kCY0_0 kCY0_1 kCY0_2
    refine (eqEdits_same _ AX1 AZ n1 cX1 cZ zs1 rX1_12.out.row rZ_12.out.row).mono ?_
    rintro e w13 ⟨rfl, bE⟩
    have HX0_13 := Lib.hid (HX0_12.out.below bE HX0_12.out.1)
    have HCY0_13 := Lib.hid (HCY0_12.out.below bE HCY0_12.out.1)
    have rA0_13 := Lib.hid (rA0_12.out.below bE (Nat.le_refl _))
    have rA1_13 := Lib.hid (rA1_12.out.below bE (Nat.le_refl _))
    have rM_13 := Lib.hid (rM_12.out.below bE (Nat.le_refl _))
    have rX0_13 := Lib.hid (rX0_12.out.below bE (Nat.le_refl _))
    have rX1_13 := Lib.hid (rX1_12.out.below bE (Nat.le_refl _))
    have rG_13 := Lib.hid (rG_12.out.below bE (Nat.le_refl _))
    have rZ_13 := Lib.hid (rZ_12.out.below bE (Nat.le_refl _))
    have HB13 := Lib.hid (HB12.out.trans (bE.mono HB12.out.size))
    have z13 := (bE).size
    clear HB12 HX0_12 HCY0_12 rA0_12 rA1_12 rM_12 rX0_12 rX1_12 rG_12 rZ_12
    clear bE
    clear rZ_13
    have kX0_z := HX0_13.out.1
    have kX0_0 := HX0_13.out.2 0 _ rfl
    have kX0_1 := HX0_13.out.2 1 _ rfl
    have kX0_2 := HX0_13.out.2 2 _ rfl
    have kCY0_z := HCY0_13.out.1
    have kCY0_0 := HCY0_13.out.2 0 _ rfl
    have kCY0_1 := HCY0_13.out.2 1 _ rfl
    have kCY0_2 := HCY0_13.out.2 2 _ rfl
    go_wp2_with fail
    clear kX0_z kX0_0 kX0_1 kX0_2
    clear kCY0_z kCY0_0 kCY0_1 kCY0_2
    refine (markPanel_any _ w5.heap.size W0 H0 AX0 n0 cX0 zs0 (1) rX0_13.out (by omega) (by omega)).mono ?_
    rintro e w14 ⟨rfl, R5, r, g5, hr5⟩
    have HBm := Lib.hid (Below.mono (Marked.below g5 hr5 rX0_13.out (by omega)) (show w.heap.size ≤ w5.heap.size by omega))
    have HX0_14 := Lib.hid (HX0_13.out.grownR g5 (fun e => by obtain ⟨hn9, hA⟩ := hr5 _ e; have h1 := HQX0.out hn9 _ hA; omega))
    have HCY0_14 := Lib.hid (HCY0_13.out.grownR g5 (fun e => by obtain ⟨hn9, hA⟩ := hr5 _ e; have h1 := HQX0.out hn9 _ hA; omega))
    have rA0_14 := Lib.hid (rA0_13.out.grownR g5 (fun b hn hb e => by obtain ⟨hn9, hA⟩ := hr5 _ e; have h1 := HQX0.out hn9 _ hA; have := HQA0.out hn b hb; omega))
    have rA1_14 := Lib.hid (rA1_13.out.grownR g5 (fun b hn hb e => by obtain ⟨hn9, hA⟩ := hr5 _ e; have h1 := HQX0.out hn9 _ hA; have := HQA1.out hn b hb; omega))
    have rM_14 := Lib.hid (rM_13.out.grownR g5 (fun b hn hb e => by obtain ⟨hn9, hA⟩ := hr5 _ e; have h1 := HQX0.out hn9 _ hA; have := HQM.out hn b hb; omega))
    have rX1_14 := Lib.hid (rX1_13.out.grownR g5 (fun b hn hb e => by obtain ⟨hn9, hA⟩ := hr5 _ e; have h1 := HQX0.out hn9 _ hA; have := HQX1.out hn b hb; omega))
    have rG_14 := Lib.hid (rG_13.out.grownR g5 (fun b hn hb e => by obtain ⟨hn9, hA⟩ := hr5 _ e; have h1 := HQX0.out hn9 _ hA; have := HQG.out hn b hb; omega))
    have rX0_14 := Lib.hid R5
    have z14 := g5.size
    have HB14 := Lib.hid (HB13.out.trans HBm.out)
    clear R5 g5 hr5 HBm HB13 HX0_13 HCY0_13 rA0_13 rA1_13 rM_13 rX0_13 rX1_13 rG_13
    have kX0_z := HX0_14.out.1
    have kX0_0 := HX0_14.out.2 0 _ rfl
    have kX0_1 := HX0_14.out.2 1 _ rfl
    have kX0_2 := HX0_14.out.2 2 _ rfl
    have kCY0_z := HCY0_14.out.1
    have kCY0_0 := HCY0_14.out.2 0 _ rfl
    have kCY0_1 := HCY0_14.out.2 1 _ rfl
    have kCY0_2 := HCY0_14.out.2 2 _ rfl
    go_wp2_with fail
    clear kX0_z kX0_0 kX0_1 kX0_2
    clear kCY0_z kCY0_0 kCY0_1 kCY0_2
    refine (markEdits_any _ w7.heap.size AX1 n1 cX1 zs1 (1 + (n0 : Int)) rX1_14.out (by omega) (by omega)).mono ?_
    rintro e w15 ⟨rfl, R5, r, g5, hr5⟩
    have HBm := Lib.hid (markedS_below (B := w.heap.size) g5 hr5 rX1_14.out (by omega) (by omega))
    have HX0_15 := Lib.hid (HX0_14.out.grownR g5 (fun e => by obtain ⟨hn9, hA⟩ := hr5 _ e; have h1 := HQX1.out hn9 _ hA; omega))
    have HCY0_15 := Lib.hid (HCY0_14.out.grownR g5 (fun e => by obtain ⟨hn9, hA⟩ := hr5 _ e; have h1 := HQX1.out hn9 _ hA; omega))
    have rA0_15 := Lib.hid (rA0_14.out.grownR g5 (fun b hn hb e => by obtain ⟨hn9, hA⟩ := hr5 _ e; have h1 := HQX1.out hn9 _ hA; have := HQA0.out hn b hb; omega))
    have rA1_15 := Lib.hid (rA1_14.out.grownR g5 (fun b hn hb e => by obtain ⟨hn9, hA⟩ := hr5 _ e; have h1 := HQX1.out hn9 _ hA; have := HQA1.out hn b hb; omega))
    have rM_15 := Lib.hid (rM_14.out.grownR g5 (fun b hn hb e => by obtain ⟨hn9, hA⟩ := hr5 _ e; have h1 := HQX1.out hn9 _ hA; have := HQM.out hn b hb; omega))
    have rX0_15 := Lib.hid (rX0_14.out.grownR g5 (fun b hn hb e => by obtain ⟨hn9, hA⟩ := hr5 _ e; have h1 := HQX1.out hn9 _ hA; have := HQX0.out hn b hb; omega))
    have rG_15 := Lib.hid (rG_14.out.grownR g5 (fun b hn hb e => by obtain ⟨hn9, hA⟩ := hr5 _ e; have h1 := HQX1.out hn9 _ hA; have := HQG.out hn b hb; omega))
    have rX1_15 := Lib.hid R5
    have z15 := g5.size
    have HB15 := Lib.hid (HB14.out.trans HBm.out)
    clear R5 g5 hr5 HBm HB14 HX0_14 HCY0_14 rA0_14 rA1_14 rM_14 rX0_14 rX1_14 rG_14
    have kX0_z := HX0_15.out.1
    have kX0_0 := HX0_15.out.2 0 _ rfl
    have kX0_1 := HX0_15.out.2 1 _ rfl
    have kX0_2 := HX0_15.out.2 2 _ rfl
    have kCY0_z := HCY0_15.out.1
    have kCY0_0 := HCY0_15.out.2 0 _ rfl
    have kCY0_1 := HCY0_15.out.2 1 _ rfl
    have kCY0_2 := HCY0_15.out.2 2 _ rfl
    go_wp2_with fail
    clear kX0_z kX0_0 kX0_1 kX0_2
    clear kCY0_z kCY0_0 kCY0_1 kCY0_2
    refine (eqEdits_same _ AG AM N cG cM F rG_15.out.row rM_15.out.row).mono ?_
    rintro e w16 ⟨rfl, bE⟩
    have HX0_16 := Lib.hid (HX0_15.out.below bE HX0_15.out.1)
    have HCY0_16 := Lib.hid (HCY0_15.out.below bE HCY0_15.out.1)
    have rA0_16 := Lib.hid (rA0_15.out.below bE (Nat.le_refl _))
    have rA1_16 := Lib.hid (rA1_15.out.below bE (Nat.le_refl _))
    have rM_16 := Lib.hid (rM_15.out.below bE (Nat.le_refl _))
    have rX0_16 := Lib.hid (rX0_15.out.below bE (Nat.le_refl _))
    have rX1_16 := Lib.hid (rX1_15.out.below bE (Nat.le_refl _))
    have rG_16 := Lib.hid (rG_15.out.below bE (Nat.le_refl _))
    have HB16 := Lib.hid (HB15.out.trans (bE.mono HB15.out.size))
    have z16 := (bE).size
    clear HB15 HX0_15 HCY0_15 rA0_15 rA1_15 rM_15 rX0_15 rX1_15 rG_15
    clear bE
    clear rX0_16
    clear rX1_16
    have kX0_z := HX0_16.out.1
    have kX0_0 := HX0_16.out.2 0 _ rfl
    have kX0_1 := HX0_16.out.2 1 _ rfl
    have kX0_2 := HX0_16.out.2 2 _ rfl
    have kCY0_z := HCY0_16.out.1
    have kCY0_0 := HCY0_16.out.2 0 _ rfl
    have kCY0_1 := HCY0_16.out.2 1 _ rfl
    have kCY0_2 := HCY0_16.out.2 2 _ rfl
    go_wp2_with fail
    clear kX0_z kX0_0 kX0_1 kX0_2
    clear kCY0_z kCY0_0 kCY0_1 kCY0_2
    refine (markEdits_any _ w8.heap.size AG N cG F 1 rG_16.out (by omega) (by omega)).mono ?_
    rintro e w17 ⟨rfl, R5, r, g5, hr5⟩
    have HBm := Lib.hid (markedS_below (B := w.heap.size) g5 hr5 rG_16.out (by omega) (by omega))
    have HX0_17 := Lib.hid (HX0_16.out.grownR g5 (fun e => by obtain ⟨hn9, hA⟩ := hr5 _ e; have h1 := HQG.out hn9 _ hA; omega))
    have HCY0_17 := Lib.hid (HCY0_16.out.grownR g5 (fun e => by obtain ⟨hn9, hA⟩ := hr5 _ e; have h1 := HQG.out hn9 _ hA; omega))
    have rA0_17 := Lib.hid (rA0_16.out.grownR g5 (fun b hn hb e => by obtain ⟨hn9, hA⟩ := hr5 _ e; have h1 := HQG.out hn9 _ hA; have := HQA0.out hn b hb; omega))
    have rA1_17 := Lib.hid (rA1_16.out.grownR g5 (fun b hn hb e => by obtain ⟨hn9, hA⟩ := hr5 _ e; have h1 := HQG.out hn9 _ hA; have := HQA1.out hn b hb; omega))
    have rM_17 := Lib.hid (rM_16.out.grownR g5 (fun b hn hb e => by obtain ⟨hn9, hA⟩ := hr5 _ e; have h1 := HQG.out hn9 _ hA; have := HQM.out hn b hb; omega))
    have rG_17 := Lib.hid R5
    have z17 := g5.size
    have HB17 := Lib.hid (HB16.out.trans HBm.out)
    clear R5 g5 hr5 HBm HB16 HX0_16 HCY0_16 rA0_16 rA1_16 rM_16 rG_16
    have kX0_z := HX0_17.out.1
    have kX0_0 := HX0_17.out.2 0 _ rfl
    have kX0_1 := HX0_17.out.2 1 _ rfl
    have kX0_2 := HX0_17.out.2 2 _ rfl
    have kCY0_z := HCY0_17.out.1
    have kCY0_0 := HCY0_17.out.2 0 _ rfl
    have kCY0_1 := HCY0_17.out.2 1 _ rfl
    have kCY0_2 := HCY0_17.out.2 2 _ rfl
    go_wp2_with fail
    clear kX0_z kX0_0 kX0_1 kX0_2
    clear kCY0_z kCY0_0 kCY0_1 kCY0_2
    refine (heldEdits_any _ AG N cG 1 rG_17.out.row (by omega) (by omega)).mono ?_
    rintro e w18 ⟨rfl, bH⟩
    have HX0_18 := Lib.hid (HX0_17.out.below bH HX0_17.out.1)
    have HCY0_18 := Lib.hid (HCY0_17.out.below bH HCY0_17.out.1)
    have rA0_18 := Lib.hid (rA0_17.out.below bH (Nat.le_refl _))
    have rA1_18 := Lib.hid (rA1_17.out.below bH (Nat.le_refl _))
    have rM_18 := Lib.hid (rM_17.out.below bH (Nat.le_refl _))
    have rG_18 := Lib.hid (rG_17.out.below bH (Nat.le_refl _))
    have HB18 := Lib.hid (HB17.out.trans (bH.mono HB17.out.size))
    have z18 := (bH).size
    clear HB17 HX0_17 HCY0_17 rA0_17 rA1_17 rM_17 rG_17
    clear bH
    have kX0_z := HX0_18.out.1
    have kX0_0 := HX0_18.out.2 0 _ rfl
    have kX0_1 := HX0_18.out.2 1 _ rfl
    have kX0_2 := HX0_18.out.2 2 _ rfl
    have kCY0_z := HCY0_18.out.1
    have kCY0_0 := HCY0_18.out.2 0 _ rfl
    have kCY0_1 := HCY0_18.out.2 1 _ rfl
    have kCY0_2 := HCY0_18.out.2 2 _ rfl
    go_wp2_with fail
    clear kX0_z kX0_0 kX0_1 kX0_2
    clear kCY0_z kCY0_0 kCY0_1 kCY0_2
    refine (toPanel_own _ W0 H0 A0 n0 c0 zs0 rA0_18.out hn0).mono ?_
    rintro e w19 ⟨AP0, cP0, rfl, RM, bT⟩
    have HQP0 : Hid (0 < n0 → ∀ b, blk AP0 = some b → w18.heap.size ≤ b ∧ b < w19.heap.size) := Lib.hid (fun hn b hb => by obtain ⟨b', h1, h2, h3⟩ := RM.base_le hn; rw [hb] at h1; injection h1 with h1; subst h1; exact ⟨h2, h3⟩)
    have HX0_19 := Lib.hid (HX0_18.out.below bT HX0_18.out.1)
    have HCY0_19 := Lib.hid (HCY0_18.out.below bT HCY0_18.out.1)
    have rA0_19 := Lib.hid (rA0_18.out.below bT (Nat.le_refl _))
    have rA1_19 := Lib.hid (rA1_18.out.below bT (Nat.le_refl _))
    have rM_19 := Lib.hid (rM_18.out.below bT (Nat.le_refl _))
    have rG_19 := Lib.hid (rG_18.out.below bT (Nat.le_refl _))
    have HB19 := Lib.hid (HB18.out.trans (bT.mono HB18.out.size))
    have z19 := (bT).size
    clear HB18 HX0_18 HCY0_18 rA0_18 rA1_18 rM_18 rG_18
    clear bT
    have rP0_19 := Lib.hid RM
    clear RM
    have kX0_z := HX0_19.out.1
    have kX0_0 := HX0_19.out.2 0 _ rfl
    have kX0_1 := HX0_19.out.2 1 _ rfl
    have kX0_2 := HX0_19.out.2 2 _ rfl
    have kCY0_z := HCY0_19.out.1
    have kCY0_0 := HCY0_19.out.2 0 _ rfl
    have kCY0_1 := HCY0_19.out.2 1 _ rfl
    have kCY0_2 := HCY0_19.out.2 2 _ rfl
    go_wp2_with fail
    clear kX0_z kX0_0 kX0_1 kX0_2
    clear kCY0_z kCY0_0 kCY0_1 kCY0_2
    refine (toEdits_any _ A1 n1 c1 zs1 rA1_19.out hn1).mono ?_
    rintro e w20 ⟨AP1, cP1, rfl, RM, bT⟩
    have HQP1 : Hid (0 < n1 → ∀ b, blk AP1 = some b → w19.heap.size ≤ b ∧ b < w20.heap.size) := Lib.hid (fun hn b hb => ⟨RM.blk_ge hn b hb, RM.row.blk_lt hn b hb⟩)
    have HX0_20 := Lib.hid (HX0_19.out.below bT HX0_19.out.1)
    have HCY0_20 := Lib.hid (HCY0_19.out.below bT HCY0_19.out.1)
    have rA0_20 := Lib.hid (rA0_19.out.below bT (Nat.le_refl _))
    have rA1_20 := Lib.hid (rA1_19.out.below bT (Nat.le_refl _))
    have rM_20 := Lib.hid (rM_19.out.below bT (Nat.le_refl _))
    have rG_20 := Lib.hid (rG_19.out.below bT (Nat.le_refl _))
    have rP0_20 := Lib.hid (rP0_19.out.below bT (Nat.le_refl _))
    have HB20 := Lib.hid (HB19.out.trans (bT.mono HB19.out.size))
    have z20 := (bT).size
    clear HB19 HX0_19 HCY0_19 rA0_19 rA1_19 rM_19 rG_19 rP0_19
    clear bT
    have rP1_20 := Lib.hid RM
    clear RM
    have kX0_z := HX0_20.out.1
    have kX0_0 := HX0_20.out.2 0 _ rfl
    have kX0_1 := HX0_20.out.2 1 _ rfl
    have kX0_2 := HX0_20.out.2 2 _ rfl
    have kCY0_z := HCY0_20.out.1
    have kCY0_0 := HCY0_20.out.2 0 _ rfl
    have kCY0_1 := HCY0_20.out.2 1 _ rfl
    have kCY0_2 := HCY0_20.out.2 2 _ rfl
    go_wp2_with fail
    clear kX0_z kX0_0 kX0_1 kX0_2
    clear kCY0_z kCY0_0 kCY0_1 kCY0_2
    refine (HI.out _ _ _ _ _ rP0_20.out.row rP1_20.out.row).mono ?_
    rintro e w21 ⟨AH, cH, rfl, RM, bC⟩
    have HQH : Hid (0 < N → ∀ b, blk AH = some b → w20.heap.size ≤ b ∧ b < w21.heap.size) := Lib.hid (fun hn b hb => ⟨RM.blk_ge hn b hb, RM.row.blk_lt hn b hb⟩)
    clear rP0_20
    clear rP1_20
    have HX0_21 := Lib.hid (HX0_20.out.below bC HX0_20.out.1)
    have HCY0_21 := Lib.hid (HCY0_20.out.below bC HCY0_20.out.1)
    have rA0_21 := Lib.hid (rA0_20.out.below bC (Nat.le_refl _))
    have rA1_21 := Lib.hid (rA1_20.out.below bC (Nat.le_refl _))
    have rM_21 := Lib.hid (rM_20.out.below bC (Nat.le_refl _))
    have rG_21 := Lib.hid (rG_20.out.below bC (Nat.le_refl _))
    have HB21 := Lib.hid (HB20.out.trans (bC.mono HB20.out.size))
    have z21 := (bC).size
    clear HB20 HX0_20 HCY0_20 rA0_20 rA1_20 rM_20 rG_20
    clear bC
    have rH_21 := Lib.hid RM
    clear RM
    have kX0_z := HX0_21.out.1
    have kX0_0 := HX0_21.out.2 0 _ rfl
    have kX0_1 := HX0_21.out.2 1 _ rfl
    have kX0_2 := HX0_21.out.2 2 _ rfl
    have kCY0_z := HCY0_21.out.1
    have kCY0_0 := HCY0_21.out.2 0 _ rfl
    have kCY0_1 := HCY0_21.out.2 1 _ rfl
    have kCY0_2 := HCY0_21.out.2 2 _ rfl
    go_wp2_with fail
    clear kX0_z kX0_0 kX0_1 kX0_2
    clear kCY0_z kCY0_0 kCY0_1 kCY0_2
    refine (eqEdits_same _ AH AM N cH cM F rH_21.out.row rM_21.out.row).mono ?_
    rintro e w22 ⟨rfl, bE⟩
    have HX0_22 := Lib.hid (HX0_21.out.below bE HX0_21.out.1)
    have HCY0_22 := Lib.hid (HCY0_21.out.below bE HCY0_21.out.1)
    have rA0_22 := Lib.hid (rA0_21.out.below bE (Nat.le_refl _))
    have rA1_22 := Lib.hid (rA1_21.out.below bE (Nat.le_refl _))
    have rM_22 := Lib.hid (rM_21.out.below bE (Nat.le_refl _))
    have rG_22 := Lib.hid (rG_21.out.below bE (Nat.le_refl _))
    have rH_22 := Lib.hid (rH_21.out.below bE (Nat.le_refl _))
    have HB22 := Lib.hid (HB21.out.trans (bE.mono HB21.out.size))
    have z22 := (bE).size
    clear HB21 HX0_21 HCY0_21 rA0_21 rA1_21 rM_21 rG_21 rH_21
    clear bE
    have kX0_z := HX0_22.out.1
    have kX0_0 := HX0_22.out.2 0 _ rfl
    have kX0_1 := HX0_22.out.2 1 _ rfl
    have kX0_2 := HX0_22.out.2 2 _ rfl
    have kCY0_z := HCY0_22.out.1
    have kCY0_0 := HCY0_22.out.2 0 _ rfl
    have kCY0_1 := HCY0_22.out.2 1 _ rfl
    have kCY0_2 := HCY0_22.out.2 2 _ rfl
    go_wp2_with fail
    clear kX0_z kX0_0 kX0_1 kX0_2
    clear kCY0_z kCY0_0 kCY0_1 kCY0_2
    refine (heldEdits_any _ AG N cG 1 rG_22.out.row (by omega) (by omega)).mono ?_
    rintro e w23 ⟨rfl, bH⟩
    have HX0_23 := Lib.hid (HX0_22.out.below bH HX0_22.out.1)
    have HCY0_23 := Lib.hid (HCY0_22.out.below bH HCY0_22.out.1)
    have rA0_23 := Lib.hid (rA0_22.out.below bH (Nat.le_refl _))
    have rA1_23 := Lib.hid (rA1_22.out.below bH (Nat.le_refl _))
    have rM_23 := Lib.hid (rM_22.out.below bH (Nat.le_refl _))
    have rG_23 := Lib.hid (rG_22.out.below bH (Nat.le_refl _))
    have rH_23 := Lib.hid (rH_22.out.below bH (Nat.le_refl _))
    have HB23 := Lib.hid (HB22.out.trans (bH.mono HB22.out.size))
    have z23 := (bH).size
    clear HB22 HX0_22 HCY0_22 rA0_22 rA1_22 rM_22 rG_22 rH_22
    clear bH
    have kX0_z := HX0_23.out.1
    have kX0_0 := HX0_23.out.2 0 _ rfl
    have kX0_1 := HX0_23.out.2 1 _ rfl
    have kX0_2 := HX0_23.out.2 2 _ rfl
    have kCY0_z := HCY0_23.out.1
    have kCY0_0 := HCY0_23.out.2 0 _ rfl
    have kCY0_1 := HCY0_23.out.2 1 _ rfl
    have kCY0_2 := HCY0_23.out.2 2 _ rfl
    go_wp2
    go_ret
    exact ⟨rfl, HB23.out⟩

theorem walk (w : World) (W0 H0 : Int) (A0 : Option Addr) (n0 c0 : Nat) (zs0 : Nat → Int) (wW0 : (Lit.int .i64 W0).wf = true) (wH0 : (Lit.int .i64 H0).wf = true) (r0 : Row .i64 w A0 n0 c0 zs0) (A1 : Option Addr) (n1 c1 : Nat) (zs1 : Nat → Int) (r1 : RowS 2 w A1 n1 c1 zs1) :
    Calls Try.prog 6 #[.agg #[.int .i64 W0, .int .i64 H0, .slice A0 n0 c0], .slice A1 n1 c1] w fun e w' => e = .returned (.bool true) ∧ Below w.heap.size w w' := by
  have hm0 : n0 ≤ 9223372036854775807 := by have := r0.1; have := r0.2.1; unfold maxLen at this; omega
  have hm1 : n1 ≤ 9223372036854775807 := by have := r1.1; have := r1.2.1; unfold maxLen at this; omega
  by_cases hs : (n0 : Int) + (n1 : Int) ≤ 1048576
  · cases hv : edV W0 H0 n0 zs0 zs1 n1
    · exact core w W0 H0 A0 n0 c0 zs0 A1 n1 c1 zs1 0 (fun _ => 0) 1 (by omega) r0 r1 hs (Lib.hid fun w A c E d hr he => spec_undoE_bad w W0 H0 A n0 c zs0 E n1 d zs1 hr he hv _) (Lib.hid fun w A c E d hr he => impl_undoE_bad w W0 H0 A n0 c zs0 E n1 d zs1 hr he hv _)
    · exact core w W0 H0 A0 n0 c0 zs0 A1 n1 c1 zs1 n1 (fun i => (unL zs1 zs0 n1).getD i 0) 0 (by omega) r0 r1 hs (Lib.hid fun w A c E d hr he => spec_undoE_ok w W0 H0 A n0 c zs0 E n1 d zs1 hr he hv) (Lib.hid fun w A c E d hr he => impl_undoE_ok w W0 H0 A n0 c zs0 E n1 d zs1 hr he hv)
  · by_cases hs0 : (n0 : Int) ≤ 1048576
    · skip
      go_enter Try.func6, Try.ntmps6
      have HB0 : Hid (Below w.heap.size w (w.alloc (.cells #[.int .i64 W0, .int .i64 H0, .slice A0 n0 c0] 24))) := Lib.hid ((Below.refl w.heap.size w).alloc (by simp) _)
      have HX0_0 : Hid (Cel (w.alloc (.cells #[.int .i64 W0, .int .i64 H0, .slice A0 n0 c0] 24)) (w.heap.size) [.int .i64 W0, .int .i64 H0, .slice A0 n0 c0]) := Lib.hid (by have h := (Cel.new w [.int .i64 W0, .int .i64 H0, .slice A0 n0 c0] 24); simpa using h)
      go_wp2_with fail
      refine (sz_yes _ W0 H0 A0 n0 c0 (1048576) (by omega) (by omega) (by omega)).mono ?_
      rintro e w1 ⟨rfl, bT⟩
      have HX0_1 := Lib.hid (HX0_0.out.below bT HX0_0.out.1)
      clear HX0_0
      have HB1 := Lib.hid (HB0.out.trans (bT.mono HB0.out.size))
      clear HB0 bT
      have kX0_z := HX0_1.out.1
      have kX0_0 := HX0_1.out.2 0 _ rfl
      have kX0_1 := HX0_1.out.2 1 _ rfl
      have kX0_2 := HX0_1.out.2 2 _ rfl
      go_wp2_with fail
      refine (szEdits_no _ A1 n1 c1 (1048576 - (n0 : Int)) (by omega) (by omega) hm1 (by omega)).mono ?_
      rintro e w2 ⟨rfl, bT⟩
      clear kX0_z kX0_0 kX0_1 kX0_2
      have HX0_2 := Lib.hid (HX0_1.out.below bT HX0_1.out.1)
      clear HX0_1
      have HB2 := Lib.hid (HB1.out.trans (bT.mono HB1.out.size))
      clear HB1 bT
      go_wp2
      go_ret
      exact ⟨rfl, HB2.out⟩
    · skip
      go_enter Try.func6, Try.ntmps6
      have HB0 : Hid (Below w.heap.size w (w.alloc (.cells #[.int .i64 W0, .int .i64 H0, .slice A0 n0 c0] 24))) := Lib.hid ((Below.refl w.heap.size w).alloc (by simp) _)
      have HX0_0 : Hid (Cel (w.alloc (.cells #[.int .i64 W0, .int .i64 H0, .slice A0 n0 c0] 24)) (w.heap.size) [.int .i64 W0, .int .i64 H0, .slice A0 n0 c0]) := Lib.hid (by have h := (Cel.new w [.int .i64 W0, .int .i64 H0, .slice A0 n0 c0] 24); simpa using h)
      go_wp2_with fail
      refine (sz_no _ W0 H0 A0 n0 c0 (1048576) (by omega) (by omega) hm0 (by omega)).mono ?_
      rintro e w1 ⟨rfl, bT⟩
      have HX0_1 := Lib.hid (HX0_0.out.below bT HX0_0.out.1)
      clear HX0_0
      have HB1 := Lib.hid (HB0.out.trans (bT.mono HB0.out.size))
      clear HB0 bT
      go_wp2
      go_ret
      exact ⟨rfl, HB1.out⟩

set_option maxRecDepth 100000 in
theorem lifted (os : Os) (started : os.Started) (H : Type) (enc : TypeId × Value → H) :
    ReturnsInHanded {} Try.checked os 6 .any (Rows.fnExactUndoEditsSpec.pre6 enc Try.prog Try.f6 Rows.fnExactUndoEditsRow.domain false) (Rows.fnExactUndoEditsSpec.post enc Try.prog Try.f6 false true false false) := by
  refine returnsInHanded_of_change (C := Try.checked) own started (by kernel_rfl) Try.func6
    (ChangeSpec.witness6 (enc := enc) (C := Try.checked) false ⟨#[], #[.agg #[.int .i64 0, .int .i64 0, .slice none 0 0], .slice none 0 0], []⟩ 8 (by kernel_rfl) (by kernel_rfl) (by kernel_rfl) (by kernel_rfl)) ?_
  intro W base args ds gs before hval0 hW hcnd _
  have hval : ∀ (j : Nat) t v, Try.f6.params[j]? = some t → args[j]? = some v → Value.okWide Try.prog W .any base t v := hval0
  have hW' := hW
  obtain ⟨p, q, hA0, hV, rfl, hfz, hnd⟩ := hW
  have hA : DataW.TrodAll enc Try.prog W 0 (fun _ => true) true Try.f6.params.toList args.toList ds p := hA0
  rw [Try.params6] at hA hval
  obtain ⟨v0, vs0, d0, ds0, p0, q0, hargs, rfl, rfl, h0, tl0⟩ := trodAll_cons hA
  obtain ⟨v1, vs1, d1, ds1, p1, q1, rfl, rfl, rfl, h1, tl1⟩ := trodAll_cons tl0
  obtain ⟨rfl, rfl, rfl⟩ := trodAll_nil tl1
  obtain rfl : args = #[v0, v1] := by cases args; simp_all
  obtain ⟨rfl, rfl⟩ := trodVars_none hV
  have k0 := h0
  have lt0 : ∀ x ∈ p0, x.block < W.heap.size := by obtain ⟨m, hm⟩ := k0; exact DataW.trod_lt m _ _ _ hm
  have k1 := h1
  have lt1 : ∀ x ∈ p1, x.block < W.heap.size := by obtain ⟨m, hm⟩ := k1; exact DataW.trod_lt m _ _ _ hm
  obtain ⟨u00, u01, u02, y00, y01, y02, m0, rfl, rfl, hp0, g00, g01, g02⟩ := open_agg3 Try.underlying24 (by kernel_rfl) (by kernel_rfl) (hval 0 24 v0 rfl rfl) h0
  obtain ⟨W0, e00, -, wW0⟩ := DataW.trod_int Try.underlying2 g00
  obtain ⟨H0, e01, -, wH0⟩ := DataW.trod_int Try.underlying2 g01
  simp at e00 e01
  subst e00 e01
  obtain ⟨A0, n0, c0, zs0, e02, r0⟩ := row_of Try.underlying22 Try.underlying2 (by kernel_rfl) g02 (fun x hx => lt0 x (by rw [hp0]; simp [hx]))
  simp at e02
  subst e02
  obtain ⟨A1, n1, c1, rfl⟩ := okWide_slice Try.underlying25 (hval 1 25 v1 rfl rfl)
  obtain ⟨zs1, r1⟩ : ∃ zs, RowS 2 W A1 n1 c1 zs := by
    obtain ⟨fuel, hf⟩ := h1
    obtain ⟨A', n', c', zs, e2, r⟩ := rowE_of Try.underlying25 Try.underlying52 (by kernel_rfl) rfl rfl (by kernel_rfl) (by kernel_rfl) Try.underlying2 Try.underlying2 hf
    simp [Value.cells] at e2
    obtain ⟨rfl, rfl, rfl⟩ := e2
    exact ⟨zs, r⟩
  clear hA0 hval0
  refine (walk W W0 H0 A0 n0 c0 zs0 wW0 wH0 r0 A1 n1 c1 zs1 r1).mono fun e W' ⟨he, bel⟩ => ?_
  subst he
  exact ⟨_, rfl, _, _, _, [], _, [], hW', trodAll_mk1 (shut_bool Try.underlying4 _), (trodAll_cons_mk (Below.trod laidOut (by kernel_rfl) (of_decide_eq_true (by kernel_rfl)) k0 bel lt0) (trodAll_cons_mk (Below.trod laidOut (by kernel_rfl) (of_decide_eq_true (by kernel_rfl)) k1 bel lt1) trodAll_mk0)), rfl, bel.frame _, fun h => by cases h⟩

theorem over : Rows.fnExactUndoEditsRow.holds Try.pinned (OpenSpec.ofChange Rows.fnExactUndoEditsSpec) :=
  OpenClaim.holds_of_wide 6 Try.f6 rfl rfl rfl rfl rfl rfl rfl ⟨rfl, rfl, rfl, rfl, rfl⟩ rfl rfl rfl rfl rfl (by kernel_rfl) Try.func6 (by kernel_rfl)
    (of_decide_eq_true (by kernel_rfl)) (by unfold Func.isWrapper; first | (rw [if_pos (by decide +kernel)]; kernel_rfl) | (rw [if_neg (by decide +kernel)]; exact ⟨rfl, rfl⟩))
    (fun os started H enc _ => lifted os started H enc)

theorem proved : Rows.FnExactUndoEditsSaid := over
#print axioms proved
end Go.Proofs.Ytgdmojkfpghmnaa.fnExactUndoEdits
