/- Proved: whatever panel and list of edits (of at most 2^20 numbers together; for larger ones the law answers true at once) ApplyEdits of the program is called with, it answers as the model, every field, and changes nothing; what it makes is its own. No condition. -/
import Derived.Test.YtgdmojkfpghmnaaRows
import Derived.Test.YtgdmojkfpghmnaaBase
import Derived.Test.YtgdmojkfpghmnaaPan
import Derived.Test.YtgdmojkfpghmnaaMark
import Derived.Test.YtgdmojkfpghmnaaNew
import Derived.Test.YtgdmojkfpghmnaaHeap
import Derived.Test.YtgdmojkfpghmnaaShape
import Derived.Test.YtgdmojkfpghmnaaWls
import Derived.Test.YtgdmojkfpghmnaaEds
import Derived.Test.YtgdmojkfpghmnaaEdw
import Derived.Test.YtgdmojkfpghmnaaEdv
import Derived.Test.YtgdmojkfpghmnaaEda
import Derived.Test.YtgdmojkfpghmnaaEdp
import Derived.WalkKit
import Derived.ProofKit
import Derived.OpenShut
import Derived.ShutString
import Derived.ChangeOld
import Derived.Below
import Derived.Lib.SmallJoins
namespace Go.Proofs.Ytgdmojkfpghmnaa.fnExactApplyEdits
open Go.ChangeShapes Go.WideShapes Go.ChangeAt Go.RowKit Go.Joins
open Go.ChangeMaps (open_string shut_string)
open Go.Proofs.Ytgdmojkfpghmnaa.Base
set_option linter.unusedVariables false
theorem own : ownKnob Try.prog.godebug = none := by kernel_rfl
theorem laidOut : laidOutB Try.prog = true := by kernel_rfl

set_option maxHeartbeats 4000000 in
theorem core (w : World) (W0 H0 : Int) (A0 : Option Addr) (n0 c0 : Nat) (zs0 : Nat → Int) (E0 : Option Addr) (m0 d0 : Nat) (g0 : Nat → Int) (W H code : Int) (n : Nat) (f : Nat → Int) (hn2 : n ≤ 1048576) (r0 : Row .i64 w A0 n0 c0 zs0) (r1 : RowS 2 w E0 m0 d0 g0) (hs : (n0 : Int) + m0 ≤ 1048576)
    (HS : Hid (∀ (w : World) (A : Option Addr) (c : Nat) (E : Option Addr) (d : Nat), Row .i64 w A n0 c zs0 → RowS 2 w E m0 d g0 → Calls Try.prog 15 #[.agg #[.int .i64 W0, .int .i64 H0, .slice A n0 c], .slice E m0 d] w (PanelOut W H n f code w)))
    (HI : Hid (∀ (w : World) (A : Option Addr) (c : Nat) (E : Option Addr) (d : Nat), Row .i64 w A n0 c zs0 → RowS 2 w E m0 d g0 → Calls Try.prog 16 #[.agg #[.int .i64 W0, .int .i64 H0, .slice A n0 c], .slice E m0 d] w (PanelOut W H n f code w))) :
    Calls Try.prog 4 #[.agg #[.int .i64 W0, .int .i64 H0, .slice A0 n0 c0], .slice E0 m0 d0] w fun e w' => e = .returned (.bool true) ∧ Below w.heap.size w w' := by
    have HR := Lib.hid r0
    have HRE := Lib.hid r1
    have HQA : Hid (0 < n0 → ∀ b, blk A0 = some b → b < w.heap.size) := Lib.hid (row_blk r0)
    have HQE : Hid (0 < m0 → ∀ b, blk E0 = some b → b < w.heap.size) := Lib.hid (r1.blk_lt)
    clear r0 r1
    have hn20 : n0 ≤ 1048576 := by omega
    have hm20 : m0 ≤ 1048576 := by omega
    have hn63 : n0 ≤ maxLen := by unfold maxLen; omega
    have HW := Lib.hid HR.out.2.2.1
    have hcd : (code != code) = false := by simp
    have hmk : ((1 + (n : Int)) != 1 + (n : Int)) = false := by simp
    go_enter Try.func4, Try.ntmps4
    go_wp2_with fail
    refine (sz_yes _ W0 H0 A0 n0 c0 1048576 (by omega) (by omega) (by omega)).mono ?_
    rintro e w1 ⟨rfl, b1⟩
    have HB1 := Lib.hid (Below.trans (show Below w.heap.size w (w.alloc (.cells #[.int .i64 W0, .int .i64 H0, .slice A0 n0 c0] 24)) from ((Below.refl w.heap.size w).alloc (by simp) _)) (b1.mono (by first | (simp; done) | (simp; omega))))
    have HX1 : Hid (Cel w1 (w.heap.size) [.int .i64 W0, .int .i64 H0, .slice A0 n0 c0]) := Lib.hid (by have h := ((Cel.new w [.int .i64 W0, .int .i64 H0, .slice A0 n0 c0] 24).below b1 (by first | (simp; done) | (simp; omega))); simpa using h)
    have rA1 := Lib.hid (HR.out.below HB1.out (Nat.le_refl _))
    have rE1 := Lib.hid (HRE.out.below HB1.out (Nat.le_refl _))
    have z1 := HX1.out.1
    clear b1 HR HRE
    have kX_z := HX1.out.1
    have kX_0 := HX1.out.2 0 _ rfl
    have kX_1 := HX1.out.2 1 _ rfl
    have kX_2 := HX1.out.2 2 _ rfl
    go_wp2_with fail
    clear kX_z kX_0 kX_1 kX_2
    refine (szEdits_yes _ E0 m0 d0 (1048576 - (n0 : Int)) (by omega) (by omega) (by omega)).mono ?_
    rintro e w2 ⟨rfl, bT⟩
    have HX2 := Lib.hid (HX1.out.below bT HX1.out.1)
    have rA2 := Lib.hid (rA1.out.below bT (Nat.le_refl _))
    have rE2 := Lib.hid (rE1.out.below bT (Nat.le_refl _))
    have HB2 := Lib.hid (HB1.out.trans (bT.mono HB1.out.size))
    have z2 := (bT).size
    clear HB1 HX1 rA1 rE1
    clear bT
    have kX_z := HX2.out.1
    have kX_0 := HX2.out.2 0 _ rfl
    have kX_1 := HX2.out.2 1 _ rfl
    have kX_2 := HX2.out.2 2 _ rfl
    go_wp2_with fail
    clear kX_z kX_0 kX_1 kX_2
    refine (toPanel_any _ W0 H0 A0 n0 c0 zs0 rA2.out hn20).mono ?_
    rintro e w3 ⟨bp, rfl, hbbp, hrowbp, bT⟩
    have HX3 := Lib.hid (HX2.out.below bT HX2.out.1)
    have rA3 := Lib.hid (rA2.out.below bT (Nat.le_refl _))
    have rE3 := Lib.hid (rE2.out.below bT (Nat.le_refl _))
    have HB3 := Lib.hid (HB2.out.trans (bT.mono HB2.out.size))
    have z3 := (bT).size
    clear HB2 HX2 rA2 rE2
    clear bT
    have rP3 := Lib.hid (Row.of_rowIs hrowbp hn63 HW.out)
    clear hrowbp
    have kX_z := HX3.out.1
    have kX_0 := HX3.out.2 0 _ rfl
    have kX_1 := HX3.out.2 1 _ rfl
    have kX_2 := HX3.out.2 2 _ rfl
    go_wp2_with fail
    clear kX_z kX_0 kX_1 kX_2
    refine (toEdits_any _ E0 m0 d0 g0 rE3.out hm20).mono ?_
    rintro e w4 ⟨ES, dS, rfl, RM, bT⟩
    have HQS : Hid (0 < m0 → ∀ b, blk ES = some b → w3.heap.size ≤ b ∧ b < w4.heap.size) := Lib.hid (fun hn b hb => ⟨RM.blk_ge hn b hb, RM.row.blk_lt hn b hb⟩)
    have HX4 := Lib.hid (HX3.out.below bT HX3.out.1)
    have rA4 := Lib.hid (rA3.out.below bT (Nat.le_refl _))
    have rE4 := Lib.hid (rE3.out.below bT (Nat.le_refl _))
    have rP4 := Lib.hid (rP3.out.below bT (Nat.le_refl _))
    have HB4 := Lib.hid (HB3.out.trans (bT.mono HB3.out.size))
    have z4 := (bT).size
    clear HB3 HX3 rA3 rE3 rP3
    clear bT
    have rS4 := Lib.hid RM
    clear RM
    have kX_z := HX4.out.1
    have kX_0 := HX4.out.2 0 _ rfl
    have kX_1 := HX4.out.2 1 _ rfl
    have kX_2 := HX4.out.2 2 _ rfl
    go_wp2_with fail
    clear kX_z kX_0 kX_1 kX_2
    refine (HS.out _ _ _ _ _ rP4.out rS4.out.row).mono ?_
    rintro e w5 ⟨AM, cM, rfl, RM, bT⟩
    have HQM : Hid (0 < n → ∀ b, blk AM = some b → w4.heap.size ≤ b ∧ b < w5.heap.size) := Lib.hid (fun hn b hb => by obtain ⟨b', h1, h2, h3⟩ := RM.base_le hn; rw [hb] at h1; injection h1 with h1; subst h1; exact ⟨h2, h3⟩)
    have HX5 := Lib.hid (HX4.out.below bT HX4.out.1)
    have rA5 := Lib.hid (rA4.out.below bT (Nat.le_refl _))
    have rE5 := Lib.hid (rE4.out.below bT (Nat.le_refl _))
    have rP5 := Lib.hid (rP4.out.below bT (Nat.le_refl _))
    have rS5 := Lib.hid (rS4.out.below bT (Nat.le_refl _))
    have HB5 := Lib.hid (HB4.out.trans (bT.mono HB4.out.size))
    have z5 := (bT).size
    clear HB4 HX4 rA4 rE4 rP4 rS4
    clear bT
    have rM5 := Lib.hid RM
    clear RM
    have kX_z := HX5.out.1
    have kX_0 := HX5.out.2 0 _ rfl
    have kX_1 := HX5.out.2 1 _ rfl
    have kX_2 := HX5.out.2 2 _ rfl
    go_wp2_with fail
    clear kX_z kX_0 kX_1 kX_2
    have bN := (Below.refl w5.heap.size w5).alloc (Nat.le_refl _) (.cells #[.int .i64 W, .int .i64 H, .slice AM n cM] 29)
    have HB_M := Lib.hid (Cel.new w5 [.int .i64 W, .int .i64 H, .slice AM n cM] 29)
    have HX6 := Lib.hid (HX5.out.below bN HX5.out.1)
    have rA6 := Lib.hid (rA5.out.below bN (Nat.le_refl _))
    have rE6 := Lib.hid (rE5.out.below bN (Nat.le_refl _))
    have rP6 := Lib.hid (rP5.out.below bN (Nat.le_refl _))
    have rS6 := Lib.hid (rS5.out.below bN (Nat.le_refl _))
    have rM6 := Lib.hid (rM5.out.below bN (Nat.le_refl _))
    have HB6 := Lib.hid (HB5.out.trans (bN.mono HB5.out.size))
    have z6 := (bN).size
    clear HB5 HX5 rA5 rE5 rP5 rS5 rM5
    have z6e : w5.heap.size + 1 ≤ (w5.alloc (.cells #[.int .i64 W, .int .i64 H, .slice AM n cM] 29)).heap.size := by simp
    clear bN
    generalize w5.alloc (.cells #[.int .i64 W, .int .i64 H, .slice AM n cM] 29) = w6 at *
    generalize w5.heap.size = bM at *
    have HCM6 := HB_M
    clear HB_M
    clear rP6
    clear rS6
    have kX_z := HX6.out.1
    have kX_0 := HX6.out.2 0 _ rfl
    have kX_1 := HX6.out.2 1 _ rfl
    have kX_2 := HX6.out.2 2 _ rfl
    have kCM_z := HCM6.out.1
    have kCM_0 := HCM6.out.2 0 _ rfl
    have kCM_1 := HCM6.out.2 1 _ rfl
    have kCM_2 := HCM6.out.2 2 _ rfl
    go_wp2_with fail
    clear kX_z kX_0 kX_1 kX_2
    clear kCM_z kCM_0 kCM_1 kCM_2
    refine (toPanel_any _ W0 H0 A0 n0 c0 zs0 rA6.out hn20).mono ?_
    rintro e w7 ⟨bq, rfl, hbbq, hrowbq, bT⟩
    have HX7 := Lib.hid (HX6.out.below bT HX6.out.1)
    have HCM7 := Lib.hid (HCM6.out.below bT HCM6.out.1)
    have rA7 := Lib.hid (rA6.out.below bT (Nat.le_refl _))
    have rE7 := Lib.hid (rE6.out.below bT (Nat.le_refl _))
    have rM7 := Lib.hid (rM6.out.below bT (Nat.le_refl _))
    have HB7 := Lib.hid (HB6.out.trans (bT.mono HB6.out.size))
    have z7 := (bT).size
    clear HB6 HX6 HCM6 rA6 rE6 rM6
    clear bT
    have rX7 := Lib.hid (ownRow_of hrowbq (by unfold maxLen; omega) HW.out hbbq)
    have hbq2 : bq < w7.heap.size := hrowbq.lt
    clear hrowbq
    have kX_z := HX7.out.1
    have kX_0 := HX7.out.2 0 _ rfl
    have kX_1 := HX7.out.2 1 _ rfl
    have kX_2 := HX7.out.2 2 _ rfl
    have kCM_z := HCM7.out.1
    have kCM_0 := HCM7.out.2 0 _ rfl
    have kCM_1 := HCM7.out.2 1 _ rfl
    have kCM_2 := HCM7.out.2 2 _ rfl
    go_wp2_with fail
    clear kX_z kX_0 kX_1 kX_2
    clear kCM_z kCM_0 kCM_1 kCM_2
    have bN := (Below.refl w7.heap.size w7).alloc (Nat.le_refl _) (.cells #[.int .i64 W0, .int .i64 H0, .slice (some ⟨bq, 0, none⟩) n0 n0] 29)
    have HB_Y := Lib.hid (Cel.new w7 [.int .i64 W0, .int .i64 H0, .slice (some ⟨bq, 0, none⟩) n0 n0] 29)
    have HX8 := Lib.hid (HX7.out.below bN HX7.out.1)
    have HCM8 := Lib.hid (HCM7.out.below bN HCM7.out.1)
    have rA8 := Lib.hid (rA7.out.below bN (Nat.le_refl _))
    have rE8 := Lib.hid (rE7.out.below bN (Nat.le_refl _))
    have rM8 := Lib.hid (rM7.out.below bN (Nat.le_refl _))
    have rX8 := Lib.hid (rX7.out.below bN (Nat.le_refl _))
    have HB8 := Lib.hid (HB7.out.trans (bN.mono HB7.out.size))
    have z8 := (bN).size
    clear HB7 HX7 HCM7 rA7 rE7 rM7 rX7
    have z8e : w7.heap.size + 1 ≤ (w7.alloc (.cells #[.int .i64 W0, .int .i64 H0, .slice (some ⟨bq, 0, none⟩) n0 n0] 29)).heap.size := by simp
    clear bN
    generalize w7.alloc (.cells #[.int .i64 W0, .int .i64 H0, .slice (some ⟨bq, 0, none⟩) n0 n0] 29) = w8 at *
    generalize w7.heap.size = bY at *
    have HCY8 := HB_Y
    clear HB_Y
    have kX_z := HX8.out.1
    have kX_0 := HX8.out.2 0 _ rfl
    have kX_1 := HX8.out.2 1 _ rfl
    have kX_2 := HX8.out.2 2 _ rfl
    have kCM_z := HCM8.out.1
    have kCM_0 := HCM8.out.2 0 _ rfl
    have kCM_1 := HCM8.out.2 1 _ rfl
    have kCM_2 := HCM8.out.2 2 _ rfl
    have kCY_z := HCY8.out.1
    have kCY_0 := HCY8.out.2 0 _ rfl
    have kCY_1 := HCY8.out.2 1 _ rfl
    have kCY_2 := HCY8.out.2 2 _ rfl
    go_wp2_with fail
    clear kX_z kX_0 kX_1 kX_2
    clear kCM_z kCM_0 kCM_1 kCM_2
    clear kCY_z kCY_0 kCY_1 kCY_2
    refine (toEdits_any _ E0 m0 d0 g0 rE8.out hm20).mono ?_
    rintro e w9 ⟨EF, dF, rfl, RM, bT⟩
    have HQF : Hid (0 < m0 → ∀ b, blk EF = some b → w8.heap.size ≤ b ∧ b < w9.heap.size) := Lib.hid (fun hn b hb => ⟨RM.blk_ge hn b hb, RM.row.blk_lt hn b hb⟩)
    have HX9 := Lib.hid (HX8.out.below bT HX8.out.1)
    have HCM9 := Lib.hid (HCM8.out.below bT HCM8.out.1)
    have HCY9 := Lib.hid (HCY8.out.below bT HCY8.out.1)
    have rA9 := Lib.hid (rA8.out.below bT (Nat.le_refl _))
    have rE9 := Lib.hid (rE8.out.below bT (Nat.le_refl _))
    have rM9 := Lib.hid (rM8.out.below bT (Nat.le_refl _))
    have rX9 := Lib.hid (rX8.out.below bT (Nat.le_refl _))
    have HB9 := Lib.hid (HB8.out.trans (bT.mono HB8.out.size))
    have z9 := (bT).size
    clear HB8 HX8 HCM8 HCY8 rA8 rE8 rM8 rX8
    clear bT
    have rF9 := Lib.hid RM
    clear RM
    have kX_z := HX9.out.1
    have kX_0 := HX9.out.2 0 _ rfl
    have kX_1 := HX9.out.2 1 _ rfl
    have kX_2 := HX9.out.2 2 _ rfl
    have kCM_z := HCM9.out.1
    have kCM_0 := HCM9.out.2 0 _ rfl
    have kCM_1 := HCM9.out.2 1 _ rfl
    have kCM_2 := HCM9.out.2 2 _ rfl
    have kCY_z := HCY9.out.1
    have kCY_0 := HCY9.out.2 0 _ rfl
    have kCY_1 := HCY9.out.2 1 _ rfl
    have kCY_2 := HCY9.out.2 2 _ rfl
    go_wp2_with fail
    clear kX_z kX_0 kX_1 kX_2
    clear kCM_z kCM_0 kCM_1 kCM_2
    clear kCY_z kCY_0 kCY_1 kCY_2
    refine (HI.out _ _ _ _ _ rX9.out.row rF9.out.row).mono ?_
    rintro e w10 ⟨AG, cG, rfl, RM, bT⟩
    have HQG : Hid (0 < n → ∀ b, blk AG = some b → w9.heap.size ≤ b ∧ b < w10.heap.size) := Lib.hid (fun hn b hb => by obtain ⟨b', h1, h2, h3⟩ := RM.base_le hn; rw [hb] at h1; injection h1 with h1; subst h1; exact ⟨h2, h3⟩)
    have HX10 := Lib.hid (HX9.out.below bT HX9.out.1)
    have HCM10 := Lib.hid (HCM9.out.below bT HCM9.out.1)
    have HCY10 := Lib.hid (HCY9.out.below bT HCY9.out.1)
    have rA10 := Lib.hid (rA9.out.below bT (Nat.le_refl _))
    have rE10 := Lib.hid (rE9.out.below bT (Nat.le_refl _))
    have rM10 := Lib.hid (rM9.out.below bT (Nat.le_refl _))
    have rX10 := Lib.hid (rX9.out.below bT (Nat.le_refl _))
    have rF10 := Lib.hid (rF9.out.below bT (Nat.le_refl _))
    have HB10 := Lib.hid (HB9.out.trans (bT.mono HB9.out.size))
    have z10 := (bT).size
    clear HB9 HX9 HCM9 HCY9 rA9 rE9 rM9 rX9 rF9
    clear bT
    have rG10 := Lib.hid RM
    clear RM
    have kX_z := HX10.out.1
    have kX_0 := HX10.out.2 0 _ rfl
    have kX_1 := HX10.out.2 1 _ rfl
    have kX_2 := HX10.out.2 2 _ rfl
    have kCM_z := HCM10.out.1
    have kCM_0 := HCM10.out.2 0 _ rfl
    have kCM_1 := HCM10.out.2 1 _ rfl
    have kCM_2 := HCM10.out.2 2 _ rfl
    have kCY_z := HCY10.out.1
    have kCY_0 := HCY10.out.2 0 _ rfl
    have kCY_1 := HCY10.out.2 1 _ rfl
    have kCY_2 := HCY10.out.2 2 _ rfl
    go_wp2_with fail
    clear kX_z kX_0 kX_1 kX_2
    clear kCM_z kCM_0 kCM_1 kCM_2
    clear kCY_z kCY_0 kCY_1 kCY_2
    have bN := (Below.refl w10.heap.size w10).alloc (Nat.le_refl _) (.cells #[.int .i64 W, .int .i64 H, .slice AG n cG] 29)
    have HB_G := Lib.hid (Cel.new w10 [.int .i64 W, .int .i64 H, .slice AG n cG] 29)
    have HX11 := Lib.hid (HX10.out.below bN HX10.out.1)
    have HCM11 := Lib.hid (HCM10.out.below bN HCM10.out.1)
    have HCY11 := Lib.hid (HCY10.out.below bN HCY10.out.1)
    have rA11 := Lib.hid (rA10.out.below bN (Nat.le_refl _))
    have rE11 := Lib.hid (rE10.out.below bN (Nat.le_refl _))
    have rM11 := Lib.hid (rM10.out.below bN (Nat.le_refl _))
    have rX11 := Lib.hid (rX10.out.below bN (Nat.le_refl _))
    have rF11 := Lib.hid (rF10.out.below bN (Nat.le_refl _))
    have rG11 := Lib.hid (rG10.out.below bN (Nat.le_refl _))
    have HB11 := Lib.hid (HB10.out.trans (bN.mono HB10.out.size))
    have z11 := (bN).size
    clear HB10 HX10 HCM10 HCY10 rA10 rE10 rM10 rX10 rF10 rG10
    have z11e : w10.heap.size + 1 ≤ (w10.alloc (.cells #[.int .i64 W, .int .i64 H, .slice AG n cG] 29)).heap.size := by simp
    clear bN
    generalize w10.alloc (.cells #[.int .i64 W, .int .i64 H, .slice AG n cG] 29) = w11 at *
    generalize w10.heap.size = bG at *
    have HCG11 := HB_G
    clear HB_G
    have kX_z := HX11.out.1
    have kX_0 := HX11.out.2 0 _ rfl
    have kX_1 := HX11.out.2 1 _ rfl
    have kX_2 := HX11.out.2 2 _ rfl
    have kCM_z := HCM11.out.1
    have kCM_0 := HCM11.out.2 0 _ rfl
    have kCM_1 := HCM11.out.2 1 _ rfl
    have kCM_2 := HCM11.out.2 2 _ rfl
    have kCY_z := HCY11.out.1
    have kCY_0 := HCY11.out.2 0 _ rfl
    have kCY_1 := HCY11.out.2 1 _ rfl
    have kCY_2 := HCY11.out.2 2 _ rfl
    have kCG_z := HCG11.out.1
    have kCG_0 := HCG11.out.2 0 _ rfl
    have kCG_1 := HCG11.out.2 1 _ rfl
    have kCG_2 := HCG11.out.2 2 _ rfl
    go_wp2_with fail
    clear kX_z kX_0 kX_1 kX_2
    clear kCM_z kCM_0 kCM_1 kCM_2
    clear kCY_z kCY_0 kCY_1 kCY_2
    clear kCG_z kCG_0 kCG_1 kCG_2
    refine (eqPanel_same _ W H AG AM n cG cM f rG11.out.row rM11.out.row).mono ?_
    rintro e w12 ⟨rfl, bE⟩
    have HX12 := Lib.hid (HX11.out.below bE HX11.out.1)
    have HCM12 := Lib.hid (HCM11.out.below bE HCM11.out.1)
    have HCY12 := Lib.hid (HCY11.out.below bE HCY11.out.1)
    have HCG12 := Lib.hid (HCG11.out.below bE HCG11.out.1)
    have rA12 := Lib.hid (rA11.out.below bE (Nat.le_refl _))
    have rE12 := Lib.hid (rE11.out.below bE (Nat.le_refl _))
    have rM12 := Lib.hid (rM11.out.below bE (Nat.le_refl _))
    have rX12 := Lib.hid (rX11.out.below bE (Nat.le_refl _))
    have rF12 := Lib.hid (rF11.out.below bE (Nat.le_refl _))
    have rG12 := Lib.hid (rG11.out.below bE (Nat.le_refl _))
    have HB12 := Lib.hid (HB11.out.trans (bE.mono HB11.out.size))
    have z12 := (bE).size
    clear HB11 HX11 HCM11 HCY11 HCG11 rA11 rE11 rM11 rX11 rF11 rG11
    clear bE
    have kX_z := HX12.out.1
    have kX_0 := HX12.out.2 0 _ rfl
    have kX_1 := HX12.out.2 1 _ rfl
    have kX_2 := HX12.out.2 2 _ rfl
    have kCM_z := HCM12.out.1
    have kCM_0 := HCM12.out.2 0 _ rfl
    have kCM_1 := HCM12.out.2 1 _ rfl
    have kCM_2 := HCM12.out.2 2 _ rfl
    have kCY_z := HCY12.out.1
    have kCY_0 := HCY12.out.2 0 _ rfl
    have kCY_1 := HCY12.out.2 1 _ rfl
    have kCY_2 := HCY12.out.2 2 _ rfl
    have kCG_z := HCG12.out.1
    have kCG_0 := HCG12.out.2 0 _ rfl
    have kCG_1 := HCG12.out.2 1 _ rfl
    have kCG_2 := HCG12.out.2 2 _ rfl
    have OL := Lib.hid (Old.mk_ (Below.refl w12.heap.size w12).drew)
    go_wp2_with fail
    go_region_held3 (fun w' => (∀ b o, b < (w12).heap.size → w'.cell? ⟨b, o, none⟩ = (w12).cell? ⟨b, o, none⟩) ∧ Below (w12).heap.size (w12) w')
      (first | assumption | exact OL.out | exact Old.trans (by assumption) (by assumption))
      (first | (go_at_call 10; refine (toPanel_any _ W0 H0 A0 n0 c0 zs0 ?_ hn20).mono ?_; exact rA12.out.old (by assumption); rintro e wqa ⟨bz, rfl, hbz, hrow7, b7⟩) | (go_at_call 13; refine (eqPanel_same _ W0 H0 _ _ n0 n0 n0 zs0 ?_ ?_).mono ?_; exact rX12.out.row.old (by assumption); exact Row.of_rowIs hrow7 hn63 HW.out; rintro e wqb ⟨rfl, b8⟩))
    clear kX_z kX_0 kX_1 kX_2
    clear kCM_z kCM_0 kCM_1 kCM_2
    clear kCY_z kCY_0 kCY_1 kCY_2
    clear kCG_z kCG_0 kCG_1 kCG_2
    rename_i hS
    have b8x := hS.2
    clear hS OL hrow7 hbz b7 b8
    obtain ⟨w13, rfl⟩ : ∃ w' : World, w' = wqb := ⟨_, rfl⟩
    have HX13 := Lib.hid (HX12.out.below b8x HX12.out.1)
    have HCM13 := Lib.hid (HCM12.out.below b8x HCM12.out.1)
    have HCY13 := Lib.hid (HCY12.out.below b8x HCY12.out.1)
    have HCG13 := Lib.hid (HCG12.out.below b8x HCG12.out.1)
    have rA13 := Lib.hid (rA12.out.below b8x (Nat.le_refl _))
    have rE13 := Lib.hid (rE12.out.below b8x (Nat.le_refl _))
    have rM13 := Lib.hid (rM12.out.below b8x (Nat.le_refl _))
    have rX13 := Lib.hid (rX12.out.below b8x (Nat.le_refl _))
    have rF13 := Lib.hid (rF12.out.below b8x (Nat.le_refl _))
    have rG13 := Lib.hid (rG12.out.below b8x (Nat.le_refl _))
    have HB13 := Lib.hid (HB12.out.trans (b8x.mono HB12.out.size))
    have z13 := (b8x).size
    clear HB12 HX12 HCM12 HCY12 HCG12 rA12 rE12 rM12 rX12 rF12 rG12
    clear b8x
    have kX_z := HX13.out.1
    have kX_0 := HX13.out.2 0 _ rfl
    have kX_1 := HX13.out.2 1 _ rfl
    have kX_2 := HX13.out.2 2 _ rfl
    have kCM_z := HCM13.out.1
    have kCM_0 := HCM13.out.2 0 _ rfl
    have kCM_1 := HCM13.out.2 1 _ rfl
    have kCM_2 := HCM13.out.2 2 _ rfl
    have kCY_z := HCY13.out.1
    have kCY_0 := HCY13.out.2 0 _ rfl
    have kCY_1 := HCY13.out.2 1 _ rfl
    have kCY_2 := HCY13.out.2 2 _ rfl
    have kCG_z := HCG13.out.1
    have kCG_0 := HCG13.out.2 0 _ rfl
    have kCG_1 := HCG13.out.2 1 _ rfl
    have kCG_2 := HCG13.out.2 2 _ rfl
    go_wp2_with fail
    clear kX_z kX_0 kX_1 kX_2
    clear kCM_z kCM_0 kCM_1 kCM_2
    clear kCY_z kCY_0 kCY_1 kCY_2
    clear kCG_z kCG_0 kCG_1 kCG_2
    refine (toEdits_any _ E0 m0 d0 g0 rE13.out hm20).mono ?_
    rintro e w14 ⟨EZ, dZ, rfl, RM, bT⟩
    have HQZ : Hid (0 < m0 → ∀ b, blk EZ = some b → w13.heap.size ≤ b ∧ b < w14.heap.size) := Lib.hid (fun hn b hb => ⟨RM.blk_ge hn b hb, RM.row.blk_lt hn b hb⟩)
    have HX14 := Lib.hid (HX13.out.below bT HX13.out.1)
    have HCM14 := Lib.hid (HCM13.out.below bT HCM13.out.1)
    have HCY14 := Lib.hid (HCY13.out.below bT HCY13.out.1)
    have HCG14 := Lib.hid (HCG13.out.below bT HCG13.out.1)
    have rA14 := Lib.hid (rA13.out.below bT (Nat.le_refl _))
    have rE14 := Lib.hid (rE13.out.below bT (Nat.le_refl _))
    have rM14 := Lib.hid (rM13.out.below bT (Nat.le_refl _))
    have rX14 := Lib.hid (rX13.out.below bT (Nat.le_refl _))
    have rF14 := Lib.hid (rF13.out.below bT (Nat.le_refl _))
    have rG14 := Lib.hid (rG13.out.below bT (Nat.le_refl _))
    have HB14 := Lib.hid (HB13.out.trans (bT.mono HB13.out.size))
    have z14 := (bT).size
    clear HB13 HX13 HCM13 HCY13 HCG13 rA13 rE13 rM13 rX13 rF13 rG13
    clear bT
    have rZ14 := Lib.hid RM
    clear RM
    have kX_z := HX14.out.1
    have kX_0 := HX14.out.2 0 _ rfl
    have kX_1 := HX14.out.2 1 _ rfl
    have kX_2 := HX14.out.2 2 _ rfl
    have kCM_z := HCM14.out.1
    have kCM_0 := HCM14.out.2 0 _ rfl
    have kCM_1 := HCM14.out.2 1 _ rfl
    have kCM_2 := HCM14.out.2 2 _ rfl
    have kCY_z := HCY14.out.1
    have kCY_0 := HCY14.out.2 0 _ rfl
    have kCY_1 := HCY14.out.2 1 _ rfl
    have kCY_2 := HCY14.out.2 2 _ rfl
    have kCG_z := HCG14.out.1
    have kCG_0 := HCG14.out.2 0 _ rfl
    have kCG_1 := HCG14.out.2 1 _ rfl
    have kCG_2 := HCG14.out.2 2 _ rfl
    go_wp2_with fail
    clear kX_z kX_0 kX_1 kX_2
    clear kCM_z kCM_0 kCM_1 kCM_2
    clear kCY_z kCY_0 kCY_1 kCY_2
    clear kCG_z kCG_0 kCG_1 kCG_2
    refine (eqEdits_same _ EF EZ m0 dF dZ g0 rF14.out.row rZ14.out.row).mono ?_
    rintro e w15 ⟨rfl, bE⟩
    have HX15 := Lib.hid (HX14.out.below bE HX14.out.1)
    have HCM15 := Lib.hid (HCM14.out.below bE HCM14.out.1)
    have HCY15 := Lib.hid (HCY14.out.below bE HCY14.out.1)
    have HCG15 := Lib.hid (HCG14.out.below bE HCG14.out.1)
    have rA15 := Lib.hid (rA14.out.below bE (Nat.le_refl _))
    have rE15 := Lib.hid (rE14.out.below bE (Nat.le_refl _))
    have rM15 := Lib.hid (rM14.out.below bE (Nat.le_refl _))
    have rX15 := Lib.hid (rX14.out.below bE (Nat.le_refl _))
    have rF15 := Lib.hid (rF14.out.below bE (Nat.le_refl _))
    have rG15 := Lib.hid (rG14.out.below bE (Nat.le_refl _))
    have rZ15 := Lib.hid (rZ14.out.below bE (Nat.le_refl _))
    have HB15 := Lib.hid (HB14.out.trans (bE.mono HB14.out.size))
    have z15 := (bE).size
    clear HB14 HX14 HCM14 HCY14 HCG14 rA14 rE14 rM14 rX14 rF14 rG14 rZ14
    clear bE
    clear rZ15
    have kX_z := HX15.out.1
    have kX_0 := HX15.out.2 0 _ rfl
    have kX_1 := HX15.out.2 1 _ rfl
    have kX_2 := HX15.out.2 2 _ rfl
    have kCM_z := HCM15.out.1
    have kCM_0 := HCM15.out.2 0 _ rfl
    have kCM_1 := HCM15.out.2 1 _ rfl
    have kCM_2 := HCM15.out.2 2 _ rfl
    have kCY_z := HCY15.out.1
    have kCY_0 := HCY15.out.2 0 _ rfl
    have kCY_1 := HCY15.out.2 1 _ rfl
    have kCY_2 := HCY15.out.2 2 _ rfl
    have kCG_z := HCG15.out.1
    have kCG_0 := HCG15.out.2 0 _ rfl
    have kCG_1 := HCG15.out.2 1 _ rfl
    have kCG_2 := HCG15.out.2 2 _ rfl
    go_wp2_with fail
    clear kX_z kX_0 kX_1 kX_2
    clear kCM_z kCM_0 kCM_1 kCM_2
    clear kCY_z kCY_0 kCY_1 kCY_2
    clear kCG_z kCG_0 kCG_1 kCG_2
    refine (markPanel_any _ w6.heap.size W0 H0 (some ⟨bq, 0, none⟩) n0 n0 zs0 1 rX15.out (by omega) (by omega)).mono ?_
    rintro e w16 ⟨rfl, R5, r, g5, hr5⟩
    have HBm := Lib.hid (Below.mono (Marked.below g5 hr5 rX15.out (by omega)) (show w.heap.size ≤ w6.heap.size by omega))
    have HX16 := Lib.hid (HX15.out.grownR g5 (fun e => by obtain ⟨hn9, hA⟩ := hr5 _ e; simp [blk] at hA; omega))
    have HCM16 := Lib.hid (HCM15.out.grownR g5 (fun e => by obtain ⟨hn9, hA⟩ := hr5 _ e; simp [blk] at hA; omega))
    have HCY16 := Lib.hid (HCY15.out.grownR g5 (fun e => by obtain ⟨hn9, hA⟩ := hr5 _ e; simp [blk] at hA; omega))
    have HCG16 := Lib.hid (HCG15.out.grownR g5 (fun e => by obtain ⟨hn9, hA⟩ := hr5 _ e; simp [blk] at hA; omega))
    have rA16 := Lib.hid (rA15.out.grownR g5 (fun b hn hb e => by obtain ⟨hn9, hA⟩ := hr5 _ e; simp [blk] at hA; have := HQA.out hn b hb; omega))
    have rE16 := Lib.hid (rE15.out.grownR g5 (fun b hn hb e => by obtain ⟨hn9, hA⟩ := hr5 _ e; simp [blk] at hA; have := HQE.out hn b hb; omega))
    have rM16 := Lib.hid (rM15.out.grownR g5 (fun b hn hb e => by obtain ⟨hn9, hA⟩ := hr5 _ e; simp [blk] at hA; have := HQM.out hn b hb; omega))
    have rF16 := Lib.hid (rF15.out.grownR g5 (fun b hn hb e => by obtain ⟨hn9, hA⟩ := hr5 _ e; simp [blk] at hA; have := HQF.out hn b hb; omega))
    have rG16 := Lib.hid (rG15.out.grownR g5 (fun b hn hb e => by obtain ⟨hn9, hA⟩ := hr5 _ e; simp [blk] at hA; have := HQG.out hn b hb; omega))
    have rX16 := Lib.hid R5
    have z16 := g5.size
    have HB16 := Lib.hid (HB15.out.trans HBm.out)
    clear R5 g5 hr5 HBm HB15 HX15 HCM15 HCY15 HCG15 rA15 rE15 rM15 rX15 rF15 rG15
    have kX_z := HX16.out.1
    have kX_0 := HX16.out.2 0 _ rfl
    have kX_1 := HX16.out.2 1 _ rfl
    have kX_2 := HX16.out.2 2 _ rfl
    have kCM_z := HCM16.out.1
    have kCM_0 := HCM16.out.2 0 _ rfl
    have kCM_1 := HCM16.out.2 1 _ rfl
    have kCM_2 := HCM16.out.2 2 _ rfl
    have kCY_z := HCY16.out.1
    have kCY_0 := HCY16.out.2 0 _ rfl
    have kCY_1 := HCY16.out.2 1 _ rfl
    have kCY_2 := HCY16.out.2 2 _ rfl
    have kCG_z := HCG16.out.1
    have kCG_0 := HCG16.out.2 0 _ rfl
    have kCG_1 := HCG16.out.2 1 _ rfl
    have kCG_2 := HCG16.out.2 2 _ rfl
    go_wp2_with fail
    clear kX_z kX_0 kX_1 kX_2
    clear kCM_z kCM_0 kCM_1 kCM_2
    clear kCY_z kCY_0 kCY_1 kCY_2
    clear kCG_z kCG_0 kCG_1 kCG_2
    refine (markEdits_any _ w8.heap.size EF m0 dF g0 (1 + (n0 : Int)) rF16.out (by omega) (by omega)).mono ?_
    rintro e w17 ⟨rfl, R5, r, g5, hr5⟩
    have HBm := Lib.hid (markedS_below (B := w.heap.size) g5 hr5 rF16.out (by omega) (by omega))
    have HX17 := Lib.hid (HX16.out.grownR g5 (fun e => by obtain ⟨hn9, hA⟩ := hr5 _ e; have h1 := HQF.out hn9 _ hA; omega))
    have HCM17 := Lib.hid (HCM16.out.grownR g5 (fun e => by obtain ⟨hn9, hA⟩ := hr5 _ e; have h1 := HQF.out hn9 _ hA; omega))
    have HCY17 := Lib.hid (HCY16.out.grownR g5 (fun e => by obtain ⟨hn9, hA⟩ := hr5 _ e; have h1 := HQF.out hn9 _ hA; omega))
    have HCG17 := Lib.hid (HCG16.out.grownR g5 (fun e => by obtain ⟨hn9, hA⟩ := hr5 _ e; have h1 := HQF.out hn9 _ hA; omega))
    have rA17 := Lib.hid (rA16.out.grownR g5 (fun b hn hb e => by obtain ⟨hn9, hA⟩ := hr5 _ e; have h1 := HQF.out hn9 _ hA; have := HQA.out hn b hb; omega))
    have rE17 := Lib.hid (rE16.out.grownR g5 (fun b hn hb e => by obtain ⟨hn9, hA⟩ := hr5 _ e; have h1 := HQF.out hn9 _ hA; have := HQE.out hn b hb; omega))
    have rM17 := Lib.hid (rM16.out.grownR g5 (fun b hn hb e => by obtain ⟨hn9, hA⟩ := hr5 _ e; have h1 := HQF.out hn9 _ hA; have := HQM.out hn b hb; omega))
    have rX17 := Lib.hid (rX16.out.grownR g5 (fun b hn hb e => by obtain ⟨hn9, hA⟩ := hr5 _ e; have h1 := HQF.out hn9 _ hA; simp [blk] at hb; omega))
    have rG17 := Lib.hid (rG16.out.grownR g5 (fun b hn hb e => by obtain ⟨hn9, hA⟩ := hr5 _ e; have h1 := HQF.out hn9 _ hA; have := HQG.out hn b hb; omega))
    have rF17 := Lib.hid R5
    have z17 := g5.size
    have HB17 := Lib.hid (HB16.out.trans HBm.out)
    clear R5 g5 hr5 HBm HB16 HX16 HCM16 HCY16 HCG16 rA16 rE16 rM16 rX16 rF16 rG16
    have kX_z := HX17.out.1
    have kX_0 := HX17.out.2 0 _ rfl
    have kX_1 := HX17.out.2 1 _ rfl
    have kX_2 := HX17.out.2 2 _ rfl
    have kCM_z := HCM17.out.1
    have kCM_0 := HCM17.out.2 0 _ rfl
    have kCM_1 := HCM17.out.2 1 _ rfl
    have kCM_2 := HCM17.out.2 2 _ rfl
    have kCY_z := HCY17.out.1
    have kCY_0 := HCY17.out.2 0 _ rfl
    have kCY_1 := HCY17.out.2 1 _ rfl
    have kCY_2 := HCY17.out.2 2 _ rfl
    have kCG_z := HCG17.out.1
    have kCG_0 := HCG17.out.2 0 _ rfl
    have kCG_1 := HCG17.out.2 1 _ rfl
    have kCG_2 := HCG17.out.2 2 _ rfl
    go_wp2_with fail
    clear kX_z kX_0 kX_1 kX_2
    clear kCM_z kCM_0 kCM_1 kCM_2
    clear kCY_z kCY_0 kCY_1 kCY_2
    clear kCG_z kCG_0 kCG_1 kCG_2
    refine (eqPanel_same _ W H AG AM n cG cM f rG17.out.row rM17.out.row).mono ?_
    rintro e w18 ⟨rfl, bE⟩
    have HX18 := Lib.hid (HX17.out.below bE HX17.out.1)
    have HCM18 := Lib.hid (HCM17.out.below bE HCM17.out.1)
    have HCY18 := Lib.hid (HCY17.out.below bE HCY17.out.1)
    have HCG18 := Lib.hid (HCG17.out.below bE HCG17.out.1)
    have rA18 := Lib.hid (rA17.out.below bE (Nat.le_refl _))
    have rE18 := Lib.hid (rE17.out.below bE (Nat.le_refl _))
    have rM18 := Lib.hid (rM17.out.below bE (Nat.le_refl _))
    have rX18 := Lib.hid (rX17.out.below bE (Nat.le_refl _))
    have rF18 := Lib.hid (rF17.out.below bE (Nat.le_refl _))
    have rG18 := Lib.hid (rG17.out.below bE (Nat.le_refl _))
    have HB18 := Lib.hid (HB17.out.trans (bE.mono HB17.out.size))
    have z18 := (bE).size
    clear HB17 HX17 HCM17 HCY17 HCG17 rA17 rE17 rM17 rX17 rF17 rG17
    clear bE
    clear rX18
    clear rF18
    have kX_z := HX18.out.1
    have kX_0 := HX18.out.2 0 _ rfl
    have kX_1 := HX18.out.2 1 _ rfl
    have kX_2 := HX18.out.2 2 _ rfl
    have kCM_z := HCM18.out.1
    have kCM_0 := HCM18.out.2 0 _ rfl
    have kCM_1 := HCM18.out.2 1 _ rfl
    have kCM_2 := HCM18.out.2 2 _ rfl
    have kCY_z := HCY18.out.1
    have kCY_0 := HCY18.out.2 0 _ rfl
    have kCY_1 := HCY18.out.2 1 _ rfl
    have kCY_2 := HCY18.out.2 2 _ rfl
    have kCG_z := HCG18.out.1
    have kCG_0 := HCG18.out.2 0 _ rfl
    have kCG_1 := HCG18.out.2 1 _ rfl
    have kCG_2 := HCG18.out.2 2 _ rfl
    go_wp2_with fail
    clear kX_z kX_0 kX_1 kX_2
    clear kCM_z kCM_0 kCM_1 kCM_2
    clear kCY_z kCY_0 kCY_1 kCY_2
    clear kCG_z kCG_0 kCG_1 kCG_2
    refine (markPanel_any _ w9.heap.size W H AG n cG f 1 rG18.out (by omega) (by omega)).mono ?_
    rintro e w19 ⟨rfl, R5, r, g5, hr5⟩
    have HBm := Lib.hid (Below.mono (Marked.below g5 hr5 rG18.out (by omega)) (show w.heap.size ≤ w9.heap.size by omega))
    have HX19 := Lib.hid (HX18.out.grownR g5 (fun e => by obtain ⟨hn9, hA⟩ := hr5 _ e; have h1 := HQG.out hn9 _ hA; omega))
    have HCM19 := Lib.hid (HCM18.out.grownR g5 (fun e => by obtain ⟨hn9, hA⟩ := hr5 _ e; have h1 := HQG.out hn9 _ hA; omega))
    have HCY19 := Lib.hid (HCY18.out.grownR g5 (fun e => by obtain ⟨hn9, hA⟩ := hr5 _ e; have h1 := HQG.out hn9 _ hA; omega))
    have HCG19 := Lib.hid (HCG18.out.grownR g5 (fun e => by obtain ⟨hn9, hA⟩ := hr5 _ e; have h1 := HQG.out hn9 _ hA; omega))
    have rA19 := Lib.hid (rA18.out.grownR g5 (fun b hn hb e => by obtain ⟨hn9, hA⟩ := hr5 _ e; have h1 := HQG.out hn9 _ hA; have := HQA.out hn b hb; omega))
    have rE19 := Lib.hid (rE18.out.grownR g5 (fun b hn hb e => by obtain ⟨hn9, hA⟩ := hr5 _ e; have h1 := HQG.out hn9 _ hA; have := HQE.out hn b hb; omega))
    have rM19 := Lib.hid (rM18.out.grownR g5 (fun b hn hb e => by obtain ⟨hn9, hA⟩ := hr5 _ e; have h1 := HQG.out hn9 _ hA; have := HQM.out hn b hb; omega))
    have rG19 := Lib.hid R5
    have z19 := g5.size
    have HB19 := Lib.hid (HB18.out.trans HBm.out)
    clear R5 g5 hr5 HBm HB18 HX18 HCM18 HCY18 HCG18 rA18 rE18 rM18 rG18
    have kX_z := HX19.out.1
    have kX_0 := HX19.out.2 0 _ rfl
    have kX_1 := HX19.out.2 1 _ rfl
    have kX_2 := HX19.out.2 2 _ rfl
    have kCM_z := HCM19.out.1
    have kCM_0 := HCM19.out.2 0 _ rfl
    have kCM_1 := HCM19.out.2 1 _ rfl
    have kCM_2 := HCM19.out.2 2 _ rfl
    have kCY_z := HCY19.out.1
    have kCY_0 := HCY19.out.2 0 _ rfl
    have kCY_1 := HCY19.out.2 1 _ rfl
    have kCY_2 := HCY19.out.2 2 _ rfl
    have kCG_z := HCG19.out.1
    have kCG_0 := HCG19.out.2 0 _ rfl
    have kCG_1 := HCG19.out.2 1 _ rfl
    have kCG_2 := HCG19.out.2 2 _ rfl
    go_wp2_with fail
    clear kX_z kX_0 kX_1 kX_2
    clear kCM_z kCM_0 kCM_1 kCM_2
    clear kCY_z kCY_0 kCY_1 kCY_2
    clear kCG_z kCG_0 kCG_1 kCG_2
    refine (heldPanel_any _ W H AG n cG 1 rG19.out.row (by omega) (by omega)).mono ?_
    rintro e w20 ⟨rfl, bH⟩
    have HX20 := Lib.hid (HX19.out.below bH HX19.out.1)
    have HCM20 := Lib.hid (HCM19.out.below bH HCM19.out.1)
    have HCY20 := Lib.hid (HCY19.out.below bH HCY19.out.1)
    have HCG20 := Lib.hid (HCG19.out.below bH HCG19.out.1)
    have rA20 := Lib.hid (rA19.out.below bH (Nat.le_refl _))
    have rE20 := Lib.hid (rE19.out.below bH (Nat.le_refl _))
    have rM20 := Lib.hid (rM19.out.below bH (Nat.le_refl _))
    have rG20 := Lib.hid (rG19.out.below bH (Nat.le_refl _))
    have HB20 := Lib.hid (HB19.out.trans (bH.mono HB19.out.size))
    have z20 := (bH).size
    clear HB19 HX19 HCM19 HCY19 HCG19 rA19 rE19 rM19 rG19
    clear bH
    have kX_z := HX20.out.1
    have kX_0 := HX20.out.2 0 _ rfl
    have kX_1 := HX20.out.2 1 _ rfl
    have kX_2 := HX20.out.2 2 _ rfl
    have kCM_z := HCM20.out.1
    have kCM_0 := HCM20.out.2 0 _ rfl
    have kCM_1 := HCM20.out.2 1 _ rfl
    have kCM_2 := HCM20.out.2 2 _ rfl
    have kCY_z := HCY20.out.1
    have kCY_0 := HCY20.out.2 0 _ rfl
    have kCY_1 := HCY20.out.2 1 _ rfl
    have kCY_2 := HCY20.out.2 2 _ rfl
    have kCG_z := HCG20.out.1
    have kCG_0 := HCG20.out.2 0 _ rfl
    have kCG_1 := HCG20.out.2 1 _ rfl
    have kCG_2 := HCG20.out.2 2 _ rfl
    go_wp2_with fail
    clear kX_z kX_0 kX_1 kX_2
    clear kCM_z kCM_0 kCM_1 kCM_2
    clear kCY_z kCY_0 kCY_1 kCY_2
    clear kCG_z kCG_0 kCG_1 kCG_2
    refine (toPanel_any _ W0 H0 A0 n0 c0 zs0 rA20.out hn20).mono ?_
    rintro e w21 ⟨br, rfl, hbbr, hrowbr, bT⟩
    have HX21 := Lib.hid (HX20.out.below bT HX20.out.1)
    have HCM21 := Lib.hid (HCM20.out.below bT HCM20.out.1)
    have HCY21 := Lib.hid (HCY20.out.below bT HCY20.out.1)
    have HCG21 := Lib.hid (HCG20.out.below bT HCG20.out.1)
    have rA21 := Lib.hid (rA20.out.below bT (Nat.le_refl _))
    have rE21 := Lib.hid (rE20.out.below bT (Nat.le_refl _))
    have rM21 := Lib.hid (rM20.out.below bT (Nat.le_refl _))
    have rG21 := Lib.hid (rG20.out.below bT (Nat.le_refl _))
    have HB21 := Lib.hid (HB20.out.trans (bT.mono HB20.out.size))
    have z21 := (bT).size
    clear HB20 HX20 HCM20 HCY20 HCG20 rA20 rE20 rM20 rG20
    clear bT
    have rR21 := Lib.hid (Row.of_rowIs hrowbr hn63 HW.out)
    clear hrowbr
    have kX_z := HX21.out.1
    have kX_0 := HX21.out.2 0 _ rfl
    have kX_1 := HX21.out.2 1 _ rfl
    have kX_2 := HX21.out.2 2 _ rfl
    have kCM_z := HCM21.out.1
    have kCM_0 := HCM21.out.2 0 _ rfl
    have kCM_1 := HCM21.out.2 1 _ rfl
    have kCM_2 := HCM21.out.2 2 _ rfl
    have kCY_z := HCY21.out.1
    have kCY_0 := HCY21.out.2 0 _ rfl
    have kCY_1 := HCY21.out.2 1 _ rfl
    have kCY_2 := HCY21.out.2 2 _ rfl
    have kCG_z := HCG21.out.1
    have kCG_0 := HCG21.out.2 0 _ rfl
    have kCG_1 := HCG21.out.2 1 _ rfl
    have kCG_2 := HCG21.out.2 2 _ rfl
    go_wp2_with fail
    clear kX_z kX_0 kX_1 kX_2
    clear kCM_z kCM_0 kCM_1 kCM_2
    clear kCY_z kCY_0 kCY_1 kCY_2
    clear kCG_z kCG_0 kCG_1 kCG_2
    refine (toEdits_any _ E0 m0 d0 g0 rE21.out hm20).mono ?_
    rintro e w22 ⟨EK, dK, rfl, RM, bT⟩
    have HQK : Hid (0 < m0 → ∀ b, blk EK = some b → w21.heap.size ≤ b ∧ b < w22.heap.size) := Lib.hid (fun hn b hb => ⟨RM.blk_ge hn b hb, RM.row.blk_lt hn b hb⟩)
    have HX22 := Lib.hid (HX21.out.below bT HX21.out.1)
    have HCM22 := Lib.hid (HCM21.out.below bT HCM21.out.1)
    have HCY22 := Lib.hid (HCY21.out.below bT HCY21.out.1)
    have HCG22 := Lib.hid (HCG21.out.below bT HCG21.out.1)
    have rA22 := Lib.hid (rA21.out.below bT (Nat.le_refl _))
    have rE22 := Lib.hid (rE21.out.below bT (Nat.le_refl _))
    have rM22 := Lib.hid (rM21.out.below bT (Nat.le_refl _))
    have rG22 := Lib.hid (rG21.out.below bT (Nat.le_refl _))
    have rR22 := Lib.hid (rR21.out.below bT (Nat.le_refl _))
    have HB22 := Lib.hid (HB21.out.trans (bT.mono HB21.out.size))
    have z22 := (bT).size
    clear HB21 HX21 HCM21 HCY21 HCG21 rA21 rE21 rM21 rG21 rR21
    clear bT
    have rK22 := Lib.hid RM
    clear RM
    have kX_z := HX22.out.1
    have kX_0 := HX22.out.2 0 _ rfl
    have kX_1 := HX22.out.2 1 _ rfl
    have kX_2 := HX22.out.2 2 _ rfl
    have kCM_z := HCM22.out.1
    have kCM_0 := HCM22.out.2 0 _ rfl
    have kCM_1 := HCM22.out.2 1 _ rfl
    have kCM_2 := HCM22.out.2 2 _ rfl
    have kCY_z := HCY22.out.1
    have kCY_0 := HCY22.out.2 0 _ rfl
    have kCY_1 := HCY22.out.2 1 _ rfl
    have kCY_2 := HCY22.out.2 2 _ rfl
    have kCG_z := HCG22.out.1
    have kCG_0 := HCG22.out.2 0 _ rfl
    have kCG_1 := HCG22.out.2 1 _ rfl
    have kCG_2 := HCG22.out.2 2 _ rfl
    go_wp2_with fail
    clear kX_z kX_0 kX_1 kX_2
    clear kCM_z kCM_0 kCM_1 kCM_2
    clear kCY_z kCY_0 kCY_1 kCY_2
    clear kCG_z kCG_0 kCG_1 kCG_2
    refine (HI.out _ _ _ _ _ rR22.out rK22.out.row).mono ?_
    rintro e w23 ⟨AH, cH, rfl, RM, bT⟩
    have HQH : Hid (0 < n → ∀ b, blk AH = some b → w22.heap.size ≤ b ∧ b < w23.heap.size) := Lib.hid (fun hn b hb => by obtain ⟨b', h1, h2, h3⟩ := RM.base_le hn; rw [hb] at h1; injection h1 with h1; subst h1; exact ⟨h2, h3⟩)
    have HX23 := Lib.hid (HX22.out.below bT HX22.out.1)
    have HCM23 := Lib.hid (HCM22.out.below bT HCM22.out.1)
    have HCY23 := Lib.hid (HCY22.out.below bT HCY22.out.1)
    have HCG23 := Lib.hid (HCG22.out.below bT HCG22.out.1)
    have rA23 := Lib.hid (rA22.out.below bT (Nat.le_refl _))
    have rE23 := Lib.hid (rE22.out.below bT (Nat.le_refl _))
    have rM23 := Lib.hid (rM22.out.below bT (Nat.le_refl _))
    have rG23 := Lib.hid (rG22.out.below bT (Nat.le_refl _))
    have rR23 := Lib.hid (rR22.out.below bT (Nat.le_refl _))
    have rK23 := Lib.hid (rK22.out.below bT (Nat.le_refl _))
    have HB23 := Lib.hid (HB22.out.trans (bT.mono HB22.out.size))
    have z23 := (bT).size
    clear HB22 HX22 HCM22 HCY22 HCG22 rA22 rE22 rM22 rG22 rR22 rK22
    clear bT
    have rH23 := Lib.hid RM
    clear RM
    have kX_z := HX23.out.1
    have kX_0 := HX23.out.2 0 _ rfl
    have kX_1 := HX23.out.2 1 _ rfl
    have kX_2 := HX23.out.2 2 _ rfl
    have kCM_z := HCM23.out.1
    have kCM_0 := HCM23.out.2 0 _ rfl
    have kCM_1 := HCM23.out.2 1 _ rfl
    have kCM_2 := HCM23.out.2 2 _ rfl
    have kCY_z := HCY23.out.1
    have kCY_0 := HCY23.out.2 0 _ rfl
    have kCY_1 := HCY23.out.2 1 _ rfl
    have kCY_2 := HCY23.out.2 2 _ rfl
    have kCG_z := HCG23.out.1
    have kCG_0 := HCG23.out.2 0 _ rfl
    have kCG_1 := HCG23.out.2 1 _ rfl
    have kCG_2 := HCG23.out.2 2 _ rfl
    go_wp2_with fail
    clear kX_z kX_0 kX_1 kX_2
    clear kCM_z kCM_0 kCM_1 kCM_2
    clear kCY_z kCY_0 kCY_1 kCY_2
    clear kCG_z kCG_0 kCG_1 kCG_2
    have bN := (Below.refl w23.heap.size w23).alloc (Nat.le_refl _) (.cells #[.int .i64 W, .int .i64 H, .slice AH n cH] 29)
    have HB_H := Lib.hid (Cel.new w23 [.int .i64 W, .int .i64 H, .slice AH n cH] 29)
    have HX24 := Lib.hid (HX23.out.below bN HX23.out.1)
    have HCM24 := Lib.hid (HCM23.out.below bN HCM23.out.1)
    have HCY24 := Lib.hid (HCY23.out.below bN HCY23.out.1)
    have HCG24 := Lib.hid (HCG23.out.below bN HCG23.out.1)
    have rA24 := Lib.hid (rA23.out.below bN (Nat.le_refl _))
    have rE24 := Lib.hid (rE23.out.below bN (Nat.le_refl _))
    have rM24 := Lib.hid (rM23.out.below bN (Nat.le_refl _))
    have rG24 := Lib.hid (rG23.out.below bN (Nat.le_refl _))
    have rR24 := Lib.hid (rR23.out.below bN (Nat.le_refl _))
    have rK24 := Lib.hid (rK23.out.below bN (Nat.le_refl _))
    have rH24 := Lib.hid (rH23.out.below bN (Nat.le_refl _))
    have HB24 := Lib.hid (HB23.out.trans (bN.mono HB23.out.size))
    have z24 := (bN).size
    clear HB23 HX23 HCM23 HCY23 HCG23 rA23 rE23 rM23 rG23 rR23 rK23 rH23
    have z24e : w23.heap.size + 1 ≤ (w23.alloc (.cells #[.int .i64 W, .int .i64 H, .slice AH n cH] 29)).heap.size := by simp
    clear bN
    generalize w23.alloc (.cells #[.int .i64 W, .int .i64 H, .slice AH n cH] 29) = w24 at *
    generalize w23.heap.size = bH at *
    have HCH24 := HB_H
    clear HB_H
    clear rR24
    clear rK24
    have kX_z := HX24.out.1
    have kX_0 := HX24.out.2 0 _ rfl
    have kX_1 := HX24.out.2 1 _ rfl
    have kX_2 := HX24.out.2 2 _ rfl
    have kCM_z := HCM24.out.1
    have kCM_0 := HCM24.out.2 0 _ rfl
    have kCM_1 := HCM24.out.2 1 _ rfl
    have kCM_2 := HCM24.out.2 2 _ rfl
    have kCY_z := HCY24.out.1
    have kCY_0 := HCY24.out.2 0 _ rfl
    have kCY_1 := HCY24.out.2 1 _ rfl
    have kCY_2 := HCY24.out.2 2 _ rfl
    have kCG_z := HCG24.out.1
    have kCG_0 := HCG24.out.2 0 _ rfl
    have kCG_1 := HCG24.out.2 1 _ rfl
    have kCG_2 := HCG24.out.2 2 _ rfl
    have kCH_z := HCH24.out.1
    have kCH_0 := HCH24.out.2 0 _ rfl
    have kCH_1 := HCH24.out.2 1 _ rfl
    have kCH_2 := HCH24.out.2 2 _ rfl
    go_wp2_with fail
    clear kX_z kX_0 kX_1 kX_2
    clear kCM_z kCM_0 kCM_1 kCM_2
    clear kCY_z kCY_0 kCY_1 kCY_2
    clear kCG_z kCG_0 kCG_1 kCG_2
    clear kCH_z kCH_0 kCH_1 kCH_2
    refine (eqPanel_same _ W H AH AM n cH cM f rH24.out.row rM24.out.row).mono ?_
    rintro e w25 ⟨rfl, bE⟩
    have HX25 := Lib.hid (HX24.out.below bE HX24.out.1)
    have HCM25 := Lib.hid (HCM24.out.below bE HCM24.out.1)
    have HCY25 := Lib.hid (HCY24.out.below bE HCY24.out.1)
    have HCG25 := Lib.hid (HCG24.out.below bE HCG24.out.1)
    have HCH25 := Lib.hid (HCH24.out.below bE HCH24.out.1)
    have rA25 := Lib.hid (rA24.out.below bE (Nat.le_refl _))
    have rE25 := Lib.hid (rE24.out.below bE (Nat.le_refl _))
    have rM25 := Lib.hid (rM24.out.below bE (Nat.le_refl _))
    have rG25 := Lib.hid (rG24.out.below bE (Nat.le_refl _))
    have rH25 := Lib.hid (rH24.out.below bE (Nat.le_refl _))
    have HB25 := Lib.hid (HB24.out.trans (bE.mono HB24.out.size))
    have z25 := (bE).size
    clear HB24 HX24 HCM24 HCY24 HCG24 HCH24 rA24 rE24 rM24 rG24 rH24
    clear bE
    have kX_z := HX25.out.1
    have kX_0 := HX25.out.2 0 _ rfl
    have kX_1 := HX25.out.2 1 _ rfl
    have kX_2 := HX25.out.2 2 _ rfl
    have kCM_z := HCM25.out.1
    have kCM_0 := HCM25.out.2 0 _ rfl
    have kCM_1 := HCM25.out.2 1 _ rfl
    have kCM_2 := HCM25.out.2 2 _ rfl
    have kCY_z := HCY25.out.1
    have kCY_0 := HCY25.out.2 0 _ rfl
    have kCY_1 := HCY25.out.2 1 _ rfl
    have kCY_2 := HCY25.out.2 2 _ rfl
    have kCG_z := HCG25.out.1
    have kCG_0 := HCG25.out.2 0 _ rfl
    have kCG_1 := HCG25.out.2 1 _ rfl
    have kCG_2 := HCG25.out.2 2 _ rfl
    have kCH_z := HCH25.out.1
    have kCH_0 := HCH25.out.2 0 _ rfl
    have kCH_1 := HCH25.out.2 1 _ rfl
    have kCH_2 := HCH25.out.2 2 _ rfl
    go_wp2_with fail
    clear kX_z kX_0 kX_1 kX_2
    clear kCM_z kCM_0 kCM_1 kCM_2
    clear kCY_z kCY_0 kCY_1 kCY_2
    clear kCG_z kCG_0 kCG_1 kCG_2
    clear kCH_z kCH_0 kCH_1 kCH_2
    refine (heldPanel_any _ W H AG n cG 1 rG25.out.row (by omega) (by omega)).mono ?_
    rintro e w26 ⟨rfl, bH⟩
    have HX26 := Lib.hid (HX25.out.below bH HX25.out.1)
    have HCM26 := Lib.hid (HCM25.out.below bH HCM25.out.1)
    have HCY26 := Lib.hid (HCY25.out.below bH HCY25.out.1)
    have HCG26 := Lib.hid (HCG25.out.below bH HCG25.out.1)
    have HCH26 := Lib.hid (HCH25.out.below bH HCH25.out.1)
    have rA26 := Lib.hid (rA25.out.below bH (Nat.le_refl _))
    have rE26 := Lib.hid (rE25.out.below bH (Nat.le_refl _))
    have rM26 := Lib.hid (rM25.out.below bH (Nat.le_refl _))
    have rG26 := Lib.hid (rG25.out.below bH (Nat.le_refl _))
    have rH26 := Lib.hid (rH25.out.below bH (Nat.le_refl _))
    have HB26 := Lib.hid (HB25.out.trans (bH.mono HB25.out.size))
    have z26 := (bH).size
    clear HB25 HX25 HCM25 HCY25 HCG25 HCH25 rA25 rE25 rM25 rG25 rH25
    clear bH
    have kX_z := HX26.out.1
    have kX_0 := HX26.out.2 0 _ rfl
    have kX_1 := HX26.out.2 1 _ rfl
    have kX_2 := HX26.out.2 2 _ rfl
    have kCM_z := HCM26.out.1
    have kCM_0 := HCM26.out.2 0 _ rfl
    have kCM_1 := HCM26.out.2 1 _ rfl
    have kCM_2 := HCM26.out.2 2 _ rfl
    have kCY_z := HCY26.out.1
    have kCY_0 := HCY26.out.2 0 _ rfl
    have kCY_1 := HCY26.out.2 1 _ rfl
    have kCY_2 := HCY26.out.2 2 _ rfl
    have kCG_z := HCG26.out.1
    have kCG_0 := HCG26.out.2 0 _ rfl
    have kCG_1 := HCG26.out.2 1 _ rfl
    have kCG_2 := HCG26.out.2 2 _ rfl
    have kCH_z := HCH26.out.1
    have kCH_0 := HCH26.out.2 0 _ rfl
    have kCH_1 := HCH26.out.2 1 _ rfl
    have kCH_2 := HCH26.out.2 2 _ rfl
    go_wp2
    go_ret
    exact ⟨rfl, HB26.out⟩

theorem walk (w : World) (W0 H0 : Int) (A0 : Option Addr) (n0 c0 : Nat) (zs0 : Nat → Int) (wW0 : (Lit.int .i64 W0).wf = true) (wH0 : (Lit.int .i64 H0).wf = true) (r0 : Row .i64 w A0 n0 c0 zs0) (A1 : Option Addr) (n1 c1 : Nat) (zs1 : Nat → Int) (r1 : RowS 2 w A1 n1 c1 zs1) :
    Calls Try.prog 4 #[.agg #[.int .i64 W0, .int .i64 H0, .slice A0 n0 c0], .slice A1 n1 c1] w fun e w' => e = .returned (.bool true) ∧ Below w.heap.size w w' := by
  have hnm : n0 ≤ 9223372036854775807 := by have := r0.1; have := r0.2.1; unfold maxLen at this; omega
  have hmm : n1 ≤ 9223372036854775807 := by have := r1.1; have := r1.2.1; unfold maxLen at this; omega
  by_cases hs : (n0 : Int) + n1 ≤ 1048576
  · cases hv : edV W0 H0 n0 zs0 zs1 n1
    · exact core w W0 H0 A0 n0 c0 zs0 A1 n1 c1 zs1 0 0 1 0 zs0 (by omega) r0 r1 hs (Lib.hid fun w A c E d hr he => spec_apply_bad w W0 H0 A n0 c zs0 E n1 d zs1 hr he hv) (Lib.hid fun w A c E d hr he => impl_apply_bad w W0 H0 A n0 c zs0 E n1 d zs1 hr he hv)
    · exact core w W0 H0 A0 n0 c0 zs0 A1 n1 c1 zs1 W0 H0 0 n0 (apF zs0 zs1 n1) (by omega) r0 r1 hs (Lib.hid fun w A c E d hr he => spec_apply_ok w W0 H0 A n0 c zs0 E n1 d zs1 hr he (by omega) hv) (Lib.hid fun w A c E d hr he => impl_apply_ok w W0 H0 A n0 c zs0 E n1 d zs1 hr he (by omega) hv)
  · by_cases hs0 : (n0 : Int) ≤ 1048576
    · go_enter Try.func4, Try.ntmps4
      go_wp2_with fail
      refine (sz_yes _ W0 H0 A0 n0 c0 1048576 (by omega) (by omega) hs0).mono ?_
      rintro e w1 ⟨rfl, b1⟩
      have HB1 := Lib.hid (Below.trans (show Below w.heap.size w (w.alloc (.cells #[.int .i64 W0, .int .i64 H0, .slice A0 n0 c0] 24)) from ((Below.refl w.heap.size w).alloc (by simp) _)) (b1.mono (by first | (simp; done) | (simp; omega))))
      clear b1
      go_wp2_with fail
      refine (szEdits_no _ A1 n1 c1 (1048576 - (n0 : Int)) (by omega) (by omega) hmm (by omega)).mono ?_
      rintro e w2 ⟨rfl, b2⟩
      go_wp2
      go_ret
      exact ⟨rfl, HB1.out.trans (b2.mono HB1.out.size)⟩
    · go_enter Try.func4, Try.ntmps4
      go_wp2_with fail
      refine (sz_no _ W0 H0 A0 n0 c0 1048576 (by omega) (by omega) hnm (by omega)).mono ?_
      rintro e w1 ⟨rfl, b1⟩
      go_wp2
      go_ret
      exact ⟨rfl, (Below.trans (show Below w.heap.size w (w.alloc (.cells #[.int .i64 W0, .int .i64 H0, .slice A0 n0 c0] 24)) from ((Below.refl w.heap.size w).alloc (by simp) _)) (b1.mono (by first | (simp; done) | (simp; omega))))⟩

set_option maxRecDepth 100000 in
theorem lifted (os : Os) (started : os.Started) (H : Type) (enc : TypeId × Value → H) :
    ReturnsInHanded {} Try.checked os 4 .any (Rows.fnExactApplyEditsSpec.pre6 enc Try.prog Try.f4 Rows.fnExactApplyEditsRow.domain false) (Rows.fnExactApplyEditsSpec.post enc Try.prog Try.f4 false true false false) := by
  refine returnsInHanded_of_change (C := Try.checked) own started (by kernel_rfl) Try.func4
    (ChangeSpec.witness6 (enc := enc) (C := Try.checked) false ⟨#[], #[.agg #[.int .i64 0, .int .i64 0, .slice none 0 0], .slice none 0 0], []⟩ 8 (by kernel_rfl) (by kernel_rfl) (by kernel_rfl) (by kernel_rfl)) ?_
  intro W base args ds gs before hval0 hW hcnd _
  have hval : ∀ (j : Nat) t v, Try.f4.params[j]? = some t → args[j]? = some v → Value.okWide Try.prog W .any base t v := hval0
  have hW' := hW
  obtain ⟨p, q, hA0, hV, rfl, hfz, hnd⟩ := hW
  have hA : DataW.TrodAll enc Try.prog W 0 (fun _ => true) true Try.f4.params.toList args.toList ds p := hA0
  rw [Try.params4] at hA hval
  obtain ⟨v0, vs0, d0, ds0, p0, q0, hargs, rfl, rfl, h0, tl0⟩ := trodAll_cons hA
  obtain ⟨v1, vs1, d1, ds1, p1, q1, rfl, rfl, rfl, h1, tl1⟩ := trodAll_cons tl0
  obtain ⟨rfl, rfl, rfl⟩ := trodAll_nil tl1
  obtain rfl : args = #[v0, v1] := by cases args; simp_all
  obtain ⟨rfl, rfl⟩ := trodVars_none hV
  have k0 := h0
  have lt0 : ∀ x ∈ p0, x.block < W.heap.size := by obtain ⟨m, hm⟩ := k0; exact DataW.trod_lt m _ _ _ hm
  have k1 := h1
  have lt1 : ∀ x ∈ p1, x.block < W.heap.size := by obtain ⟨m, hm⟩ := k1; exact DataW.trod_lt m _ _ _ hm
  obtain ⟨u00, u01, u02, y00, y01, y02, m0, rfl, rfl, hp0, g00, g01, g02⟩ := open_agg3 Try.underlying24 (by kernel_rfl) (by kernel_rfl) (hval 0 24 v0 rfl rfl) h0
  obtain ⟨W0, e00, -, wW0⟩ := DataW.trod_int Try.underlying2 g00
  obtain ⟨H0, e01, -, wH0⟩ := DataW.trod_int Try.underlying2 g01
  simp at e00 e01
  subst e00 e01
  obtain ⟨A0, n0, c0, zs0, e02, r0⟩ := row_of Try.underlying22 Try.underlying2 (by kernel_rfl) g02 (fun x hx => lt0 x (by rw [hp0]; simp [hx]))
  simp at e02
  subst e02
  obtain ⟨A1, n1, c1, rfl⟩ := okWide_slice Try.underlying25 (hval 1 25 v1 rfl rfl)
  obtain ⟨zs1, r1⟩ : ∃ zs, RowS 2 W A1 n1 c1 zs := by
    obtain ⟨fuel, hf⟩ := h1
    obtain ⟨A', n', c', zs, e2, r⟩ := rowE_of Try.underlying25 Try.underlying52 (by kernel_rfl) rfl rfl (by kernel_rfl) (by kernel_rfl) Try.underlying2 Try.underlying2 hf
    simp [Value.cells] at e2
    obtain ⟨rfl, rfl, rfl⟩ := e2
    exact ⟨zs, r⟩
  clear hA0 hval0
  refine (walk W W0 H0 A0 n0 c0 zs0 wW0 wH0 r0 A1 n1 c1 zs1 r1).mono fun e W' ⟨he, bel⟩ => ?_
  subst he
  exact ⟨_, rfl, _, _, _, [], _, [], hW', trodAll_mk1 (shut_bool Try.underlying4 _), (trodAll_cons_mk (Below.trod laidOut (by kernel_rfl) (of_decide_eq_true (by kernel_rfl)) k0 bel lt0) (trodAll_cons_mk (Below.trod laidOut (by kernel_rfl) (of_decide_eq_true (by kernel_rfl)) k1 bel lt1) trodAll_mk0)), rfl, bel.frame _, fun h => by cases h⟩

theorem over : Rows.fnExactApplyEditsRow.holds Try.pinned (OpenSpec.ofChange Rows.fnExactApplyEditsSpec) :=
  OpenClaim.holds_of_wide 4 Try.f4 rfl rfl rfl rfl rfl rfl rfl ⟨rfl, rfl, rfl, rfl, rfl⟩ rfl rfl rfl rfl rfl (by kernel_rfl) Try.func4 (by kernel_rfl)
    (of_decide_eq_true (by kernel_rfl)) (by unfold Func.isWrapper; first | (rw [if_pos (by decide +kernel)]; kernel_rfl) | (rw [if_neg (by decide +kernel)]; exact ⟨rfl, rfl⟩))
    (fun os started H enc _ => lifted os started H enc)

theorem proved : Rows.FnExactApplyEditsSaid := over
#print axioms proved
end Go.Proofs.Ytgdmojkfpghmnaa.fnExactApplyEdits
