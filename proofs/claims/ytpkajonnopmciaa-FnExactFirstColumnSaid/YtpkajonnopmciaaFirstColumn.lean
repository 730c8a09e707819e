/- Proved: whatever panel (of at most 2^20 breaks; for larger ones the law answers true at once) (and whatever other arguments) FirstColumn of the program is called with, it answers as the model, every field, and changes nothing; its column's memory is its own. No condition. -/
import Derived.Test.YtpkajonnopmciaaRows
import Derived.Test.YtpkajonnopmciaaBase
import Derived.Test.YtpkajonnopmciaaPan
import Derived.Test.YtpkajonnopmciaaMark
import Derived.Test.YtpkajonnopmciaaNew
import Derived.Test.YtpkajonnopmciaaHeap
import Derived.Test.YtpkajonnopmciaaShape
import Derived.Test.YtpkajonnopmciaaClw
import Derived.WalkKit
import Derived.ProofKit
import Derived.OpenShut
import Derived.ShutString
import Derived.ChangeOld
import Derived.Below
import Derived.Lib.SmallJoins
namespace Go.Proofs.Ytpkajonnopmciaa.fnExactFirstColumn
open Go.ChangeShapes Go.WideShapes Go.ChangeAt Go.RowKit Go.Joins
open Go.ChangeMaps (open_string shut_string)
open Go.Proofs.Ytpkajonnopmciaa.Base
set_option linter.unusedVariables false
theorem own : ownKnob Try.prog.godebug = none := by kernel_rfl
theorem laidOut : laidOutB Try.prog = true := by kernel_rfl

set_option maxHeartbeats 4000000 in
theorem core (w : World) (W0 H0 : Int) (A0 : Option Addr) (n0 c0 : Nat) (zs0 : Nat → Int) (r0 : Row .i64 w A0 n0 c0 zs0) (z code : Int) (n : Nat) (f : Nat → Int) (hs : (n0 : Int) ≤ 1048576) (hn2 : n ≤ 1048576)
    (HS : Hid (∀ (w : World) (A : Option Addr) (c : Nat), Row .i64 w A n0 c zs0 → Calls Try.prog 18 #[.agg #[.int .i64 W0, .int .i64 H0, .slice A n0 c]] w (ColOut n f z code w)))
    (HI : Hid (∀ (w : World) (A : Option Addr) (c : Nat), Row .i64 w A n0 c zs0 → Calls Try.prog 20 #[.agg #[.int .i64 W0, .int .i64 H0, .slice A n0 c]] w (ColOut n f z code w))) :
    Calls Try.prog 4 #[.agg #[.int .i64 W0, .int .i64 H0, .slice A0 n0 c0]] w fun e w' => e = .returned (.bool true) ∧ Below w.heap.size w w' := by
  have HR := Lib.hid r0
  have HQA : Hid (0 < n0 → ∀ b, blk A0 = some b → b < w.heap.size) := Lib.hid (row_blk r0)
  clear r0
  have hn20 : n0 ≤ 1048576 := by omega
  have hn63 : n0 ≤ maxLen := by unfold maxLen; omega
  have HW := Lib.hid HR.out.2.2.1
  have hcc : (code != code) = false := by simp
  have hm : ((1 + (n : Int)) != 1 + (n : Int)) = false := by simp
  go_enter Try.func4, Try.ntmps4
  go_wp2_with fail
  refine (sz_yes _ W0 H0 A0 n0 c0 1048576 (by omega) (by omega) hs).mono ?_
  rintro e w1 ⟨rfl, b1⟩
  have HB1 := Lib.hid (Below.trans (show Below w.heap.size w (w.alloc (.cells #[.int .i64 W0, .int .i64 H0, .slice A0 n0 c0] 27)) from ((Below.refl w.heap.size w).alloc (by simp) _)) (b1.mono (by first | (simp; done) | (simp; omega))))
  have HX1 : Hid (Cel w1 (w.heap.size) [.int .i64 W0, .int .i64 H0, .slice A0 n0 c0]) := Lib.hid (by have h := ((Cel.new w [.int .i64 W0, .int .i64 H0, .slice A0 n0 c0] 27).below b1 (by first | (simp; done) | (simp; omega))); simpa using h)
  have rA1 := Lib.hid (HR.out.below HB1.out (Nat.le_refl _))
  have z1 := HB1.out.size
  have z1_0 : w.heap.size < w1.heap.size := HX1.out.1
  clear b1 HR
  have kX_z := HX1.out.1
  have kX_0 := HX1.out.2 0 _ rfl
  have kX_1 := HX1.out.2 1 _ rfl
  have kX_2 := HX1.out.2 2 _ rfl
  go_wp2_with fail
  refine (toPanel_own _ W0 H0 A0 n0 c0 zs0 rA1.out hn20).mono ?_
  rintro e wP ⟨AP, cP, rfl, hOP, bP⟩
  clear kX_z kX_0 kX_1 kX_2
  have rPMP := Lib.hid hOP
  clear hOP
  have HXP := Lib.hid (HX1.out.below bP HX1.out.1)
  have rAP := Lib.hid (rA1.out.below bP (Nat.le_refl _))
  have HBP := Lib.hid (HB1.out.trans (bP.mono HB1.out.size))
  have zP := (bP).size
  clear HB1 HX1 rA1
  have kX_z := HXP.out.1
  have kX_0 := HXP.out.2 0 _ rfl
  have kX_1 := HXP.out.2 1 _ rfl
  have kX_2 := HXP.out.2 2 _ rfl
  go_wp2_with fail
  refine Calls.mono (HS.out _ _ _ rPMP.out.row) ?_
  rintro e wCM ⟨A9, c9, rfl, hO9, bC⟩
  clear kX_z kX_0 kX_1 kX_2
  clear rPMP
  have zz := hO9.base_lt
  have HO := Lib.hid hO9
  clear hO9
  have HXC := Lib.hid (HXP.out.below bC HXP.out.1)
  have rAC := Lib.hid (rAP.out.below bC (Nat.le_refl _))
  have HBC := Lib.hid (HBP.out.trans (bC.mono HBP.out.size))
  have zC := (bC).size
  clear HBP HXP rAP
  have kX_z := HXC.out.1
  have kX_0 := HXC.out.2 0 _ rfl
  have kX_1 := HXC.out.2 1 _ rfl
  have kX_2 := HXC.out.2 2 _ rfl
  go_wp2_with fail
  clear kX_z kX_0 kX_1 kX_2
  have bM := (Below.refl wCM.heap.size wCM).alloc (Nat.le_refl _) (.cells #[.slice A9 n c9, .int .i64 z] 30)
  have HCM := Lib.hid (Cel.new wCM [.slice A9 n c9, .int .i64 z] 30)
  have rM := Lib.hid (HO.out.below bM (Nat.le_refl _))
  have HQM : Hid (0 < n → ∀ b, blk A9 = some b → wP.heap.size ≤ b ∧ b < (wCM.alloc (.cells #[.slice A9 n c9, .int .i64 z] 30)).heap.size ∧ b ≠ wCM.heap.size) := Lib.hid (fun hn b hb => by obtain ⟨b', h1, h2, h3⟩ := HO.out.base_le hn; rw [hb] at h1; injection h1 with h1; subst h1; exact ⟨h2, by simp; omega, by omega⟩)
  have HZM : Hid (wP.heap.size ≤ wCM.heap.size) := Lib.hid zC
  have bXX := bM
  clear bM HO zz
  generalize wCM.alloc (.cells #[.slice A9 n c9, .int .i64 z] 30) = w2x at *
  have hzC := zC
  obtain ⟨w2, rfl⟩ : ∃ w' : World, w' = w2x := ⟨_, rfl⟩
  have HX2 := Lib.hid (HXC.out.below bXX HXC.out.1)
  have rA2 := Lib.hid (rAC.out.below bXX (Nat.le_refl _))
  have HB2 := Lib.hid (HBC.out.trans (bXX.mono HBC.out.size))
  have z2 := (bXX).size
  clear HBC HXC rAC
  have HM2 := HCM
  have rM2 := rM
  clear HCM rM bXX
  obtain ⟨AM, rfl⟩ : ∃ A : Option Addr, A = A9 := ⟨_, rfl⟩
  obtain ⟨cM, rfl⟩ : ∃ c : Nat, c = c9 := ⟨_, rfl⟩
  have zbM := HZM.out
  have zlM := HM2.out.1
  clear HZM
  have kX_z := HX2.out.1
  have kX_0 := HX2.out.2 0 _ rfl
  have kX_1 := HX2.out.2 1 _ rfl
  have kX_2 := HX2.out.2 2 _ rfl
  have kM_z := HM2.out.1
  have kM_0 := HM2.out.2 0 _ rfl
  have kM_1 := HM2.out.2 1 _ rfl
  go_wp2_with fail
  refine (toPanel_any _ W0 H0 A0 n0 c0 zs0 rA2.out hn20).mono ?_
  rintro e w4 ⟨bq, rfl, hbq, hrow4, b4⟩
  clear kX_z kX_0 kX_1 kX_2 kM_z kM_0 kM_1
  have rX4 := Lib.hid (ownRow_of hrow4 (by unfold maxLen; omega) HW.out hbq)
  have hbq2 : bq < w4.heap.size := hrow4.lt
  have HX4 := Lib.hid (HX2.out.below b4 HX2.out.1)
  have HM4 := Lib.hid (HM2.out.below b4 HM2.out.1)
  have rA4 := Lib.hid (rA2.out.below b4 (Nat.le_refl _))
  have rM4 := Lib.hid (rM2.out.below b4 (Nat.le_refl _))
  have HB4 := Lib.hid (HB2.out.trans (b4.mono HB2.out.size))
  have z4 := (b4).size
  clear HB2 HX2 HM2 rA2 rM2
  clear b4 hrow4
  have kX_z := HX4.out.1
  have kX_0 := HX4.out.2 0 _ rfl
  have kX_1 := HX4.out.2 1 _ rfl
  have kX_2 := HX4.out.2 2 _ rfl
  have kM_z := HM4.out.1
  have kM_0 := HM4.out.2 0 _ rfl
  have kM_1 := HM4.out.2 1 _ rfl
  go_wp2_with fail
  clear kX_z kX_0 kX_1 kX_2 kM_z kM_0 kM_1
  have bN := (Below.refl w4.heap.size w4).alloc (Nat.le_refl _) (.cells #[.int .i64 W0, .int .i64 H0, .slice (some ⟨bq, 0, none⟩) n0 n0] 33)
  have HY5 := Lib.hid (Cel.new w4 [.int .i64 W0, .int .i64 H0, .slice (some ⟨bq, 0, none⟩) n0 n0] 33)
  have zN : w4.heap.size < (w4.alloc (.cells #[.int .i64 W0, .int .i64 H0, .slice (some ⟨bq, 0, none⟩) n0 n0] 33)).heap.size := by simp
  have HX5 := Lib.hid (HX4.out.below bN HX4.out.1)
  have HM5 := Lib.hid (HM4.out.below bN HM4.out.1)
  have rA5 := Lib.hid (rA4.out.below bN (Nat.le_refl _))
  have rM5 := Lib.hid (rM4.out.below bN (Nat.le_refl _))
  have rX5 := Lib.hid (rX4.out.below bN (Nat.le_refl _))
  have HB5 := Lib.hid (HB4.out.trans (bN.mono HB4.out.size))
  have z5 := (bN).size
  clear HB4 HX4 HM4 rA4 rM4 rX4
  clear bN
  generalize w4.alloc (.cells #[.int .i64 W0, .int .i64 H0, .slice (some ⟨bq, 0, none⟩) n0 n0] 33) = w5 at *
  generalize w4.heap.size = bY at *
  have kX_z := HX5.out.1
  have kX_0 := HX5.out.2 0 _ rfl
  have kX_1 := HX5.out.2 1 _ rfl
  have kX_2 := HX5.out.2 2 _ rfl
  have kM_z := HM5.out.1
  have kM_0 := HM5.out.2 0 _ rfl
  have kM_1 := HM5.out.2 1 _ rfl
  have kY_z := HY5.out.1
  have kY_0 := HY5.out.2 0 _ rfl
  have kY_1 := HY5.out.2 1 _ rfl
  have kY_2 := HY5.out.2 2 _ rfl
  go_wp2_with fail
  refine Calls.mono (HI.out _ _ _ rX5.out.row) ?_
  rintro e wCG ⟨A9, c9, rfl, hO9, bC⟩
  clear kX_z kX_0 kX_1 kX_2 kM_z kM_0 kM_1 kY_z kY_0 kY_1 kY_2
  have zz := hO9.base_lt
  have HO := Lib.hid hO9
  clear hO9
  have HXC := Lib.hid (HX5.out.below bC HX5.out.1)
  have HMC := Lib.hid (HM5.out.below bC HM5.out.1)
  have HYC := Lib.hid (HY5.out.below bC HY5.out.1)
  have rAC := Lib.hid (rA5.out.below bC (Nat.le_refl _))
  have rMC := Lib.hid (rM5.out.below bC (Nat.le_refl _))
  have rXC := Lib.hid (rX5.out.below bC (Nat.le_refl _))
  have HBC := Lib.hid (HB5.out.trans (bC.mono HB5.out.size))
  have zC := (bC).size
  clear HB5 HX5 HM5 HY5 rA5 rM5 rX5
  have kX_z := HXC.out.1
  have kX_0 := HXC.out.2 0 _ rfl
  have kX_1 := HXC.out.2 1 _ rfl
  have kX_2 := HXC.out.2 2 _ rfl
  have kM_z := HMC.out.1
  have kM_0 := HMC.out.2 0 _ rfl
  have kM_1 := HMC.out.2 1 _ rfl
  have kY_z := HYC.out.1
  have kY_0 := HYC.out.2 0 _ rfl
  have kY_1 := HYC.out.2 1 _ rfl
  have kY_2 := HYC.out.2 2 _ rfl
  go_wp2_with fail
  clear kX_z kX_0 kX_1 kX_2 kM_z kM_0 kM_1 kY_z kY_0 kY_1 kY_2
  have bM := (Below.refl wCG.heap.size wCG).alloc (Nat.le_refl _) (.cells #[.slice A9 n c9, .int .i64 z] 30)
  have HCG := Lib.hid (Cel.new wCG [.slice A9 n c9, .int .i64 z] 30)
  have rG := Lib.hid (HO.out.below bM (Nat.le_refl _))
  have HQG : Hid (0 < n → ∀ b, blk A9 = some b → w5.heap.size ≤ b ∧ b < (wCG.alloc (.cells #[.slice A9 n c9, .int .i64 z] 30)).heap.size ∧ b ≠ wCG.heap.size) := Lib.hid (fun hn b hb => by obtain ⟨b', h1, h2, h3⟩ := HO.out.base_le hn; rw [hb] at h1; injection h1 with h1; subst h1; exact ⟨h2, by simp; omega, by omega⟩)
  have HZG : Hid (w5.heap.size ≤ wCG.heap.size) := Lib.hid zC
  have bXX := bM
  clear bM HO zz
  generalize wCG.alloc (.cells #[.slice A9 n c9, .int .i64 z] 30) = w2x at *
  have hzC := zC
  obtain ⟨w6, rfl⟩ : ∃ w' : World, w' = w2x := ⟨_, rfl⟩
  have HX6 := Lib.hid (HXC.out.below bXX HXC.out.1)
  have HM6 := Lib.hid (HMC.out.below bXX HMC.out.1)
  have HY6 := Lib.hid (HYC.out.below bXX HYC.out.1)
  have rA6 := Lib.hid (rAC.out.below bXX (Nat.le_refl _))
  have rM6 := Lib.hid (rMC.out.below bXX (Nat.le_refl _))
  have rX6 := Lib.hid (rXC.out.below bXX (Nat.le_refl _))
  have HB6 := Lib.hid (HBC.out.trans (bXX.mono HBC.out.size))
  have z6 := (bXX).size
  clear HBC HXC HMC HYC rAC rMC rXC
  have HG6 := HCG
  have rG6 := rG
  clear HCG rG bXX
  obtain ⟨AG, rfl⟩ : ∃ A : Option Addr, A = A9 := ⟨_, rfl⟩
  obtain ⟨cG, rfl⟩ : ∃ c : Nat, c = c9 := ⟨_, rfl⟩
  have zbG := HZG.out
  have zlG := HG6.out.1
  clear HZG
  have kX_z := HX6.out.1
  have kX_0 := HX6.out.2 0 _ rfl
  have kX_1 := HX6.out.2 1 _ rfl
  have kX_2 := HX6.out.2 2 _ rfl
  have kM_z := HM6.out.1
  have kM_0 := HM6.out.2 0 _ rfl
  have kM_1 := HM6.out.2 1 _ rfl
  have kY_z := HY6.out.1
  have kY_0 := HY6.out.2 0 _ rfl
  have kY_1 := HY6.out.2 1 _ rfl
  have kY_2 := HY6.out.2 2 _ rfl
  have kG_z := HG6.out.1
  have kG_0 := HG6.out.2 0 _ rfl
  have kG_1 := HG6.out.2 1 _ rfl
  go_wp2_with fail
  clear kX_z kX_0 kX_1 kX_2 kM_z kM_0 kM_1 kY_z kY_0 kY_1 kY_2 kG_z kG_0 kG_1
  refine (eqC_same _ z AG AM n cG cM f rG6.out.row rM6.out.row).mono ?_
  rintro e w7 ⟨rfl, bE⟩
  have HX7 := Lib.hid (HX6.out.below bE HX6.out.1)
  have HM7 := Lib.hid (HM6.out.below bE HM6.out.1)
  have HY7 := Lib.hid (HY6.out.below bE HY6.out.1)
  have HG7 := Lib.hid (HG6.out.below bE HG6.out.1)
  have rA7 := Lib.hid (rA6.out.below bE (Nat.le_refl _))
  have rM7 := Lib.hid (rM6.out.below bE (Nat.le_refl _))
  have rX7 := Lib.hid (rX6.out.below bE (Nat.le_refl _))
  have rG7 := Lib.hid (rG6.out.below bE (Nat.le_refl _))
  have HB7 := Lib.hid (HB6.out.trans (bE.mono HB6.out.size))
  have z7 := (bE).size
  clear HB6 HX6 HM6 HY6 HG6 rA6 rM6 rX6 rG6
  clear bE
  have kX_z := HX7.out.1
  have kX_0 := HX7.out.2 0 _ rfl
  have kX_1 := HX7.out.2 1 _ rfl
  have kX_2 := HX7.out.2 2 _ rfl
  have kM_z := HM7.out.1
  have kM_0 := HM7.out.2 0 _ rfl
  have kM_1 := HM7.out.2 1 _ rfl
  have kY_z := HY7.out.1
  have kY_0 := HY7.out.2 0 _ rfl
  have kY_1 := HY7.out.2 1 _ rfl
  have kY_2 := HY7.out.2 2 _ rfl
  have kG_z := HG7.out.1
  have kG_0 := HG7.out.2 0 _ rfl
  have kG_1 := HG7.out.2 1 _ rfl
  have OL := Lib.hid (Old.mk_ (Below.refl w7.heap.size w7).drew)
  go_wp2_with fail
  go_region_held3 (fun w' => (∀ b o, b < w7.heap.size → w'.cell? ⟨b, o, none⟩ = w7.cell? ⟨b, o, none⟩) ∧ Below w7.heap.size w7 w')
    (first | assumption | exact OL.out | exact Old.trans (by assumption) (by assumption))
    (first | (go_at_call 19; refine (toPanel_any _ W0 H0 A0 n0 c0 zs0 ?_ hn20).mono ?_; exact rA7.out.old (by assumption); rintro e w7a ⟨bz, rfl, hbz, hrow7, b7⟩) | (go_at_call 22; refine (eqPanel_same _ W0 H0 _ _ n0 n0 n0 zs0 ?_ ?_).mono ?_; exact rX7.out.row.old (by assumption); exact Row.of_rowIs hrow7 hn63 HW.out; rintro e w7b ⟨rfl, b8⟩))
  clear kX_z kX_0 kX_1 kX_2 kM_z kM_0 kM_1 kY_z kY_0 kY_1 kY_2 kG_z kG_0 kG_1
  rename_i hS
  have b8x := hS.2
  clear hS OL hrow7 hbz b7 b8
  obtain ⟨w8, rfl⟩ : ∃ w' : World, w' = w7b := ⟨_, rfl⟩
  have HX8 := Lib.hid (HX7.out.below b8x HX7.out.1)
  have HM8 := Lib.hid (HM7.out.below b8x HM7.out.1)
  have HY8 := Lib.hid (HY7.out.below b8x HY7.out.1)
  have HG8 := Lib.hid (HG7.out.below b8x HG7.out.1)
  have rA8 := Lib.hid (rA7.out.below b8x (Nat.le_refl _))
  have rM8 := Lib.hid (rM7.out.below b8x (Nat.le_refl _))
  have rX8 := Lib.hid (rX7.out.below b8x (Nat.le_refl _))
  have rG8 := Lib.hid (rG7.out.below b8x (Nat.le_refl _))
  have HB8 := Lib.hid (HB7.out.trans (b8x.mono HB7.out.size))
  have z8 := (b8x).size
  clear HB7 HX7 HM7 HY7 HG7 rA7 rM7 rX7 rG7
  clear b8x
  have kX_z := HX8.out.1
  have kX_0 := HX8.out.2 0 _ rfl
  have kX_1 := HX8.out.2 1 _ rfl
  have kX_2 := HX8.out.2 2 _ rfl
  have kM_z := HM8.out.1
  have kM_0 := HM8.out.2 0 _ rfl
  have kM_1 := HM8.out.2 1 _ rfl
  have kY_z := HY8.out.1
  have kY_0 := HY8.out.2 0 _ rfl
  have kY_1 := HY8.out.2 1 _ rfl
  have kY_2 := HY8.out.2 2 _ rfl
  have kG_z := HG8.out.1
  have kG_0 := HG8.out.2 0 _ rfl
  have kG_1 := HG8.out.2 1 _ rfl
  go_wp2_with fail
  clear kX_z kX_0 kX_1 kX_2 kM_z kM_0 kM_1 kY_z kY_0 kY_1 kY_2 kG_z kG_0 kG_1
  refine (markPanel_any _ w2.heap.size W0 H0 (some ⟨bq, 0, none⟩) n0 n0 zs0 1 rX8.out (by omega) (by omega)).mono ?_
  rintro e w9 ⟨rfl, R5, r, g5, hr5⟩
  have HBm := Lib.hid (Marked.below g5 hr5 rX8.out (by omega))
  have HX9 := Lib.hid (HX8.out.grownR g5 (fun e => by obtain ⟨hn9, hA⟩ := hr5 _ e; simp [blk] at hA; omega))
  have HM9 := Lib.hid (HM8.out.grownR g5 (fun e => by obtain ⟨hn9, hA⟩ := hr5 _ e; simp [blk] at hA; omega))
  have HY9 := Lib.hid (HY8.out.grownR g5 (fun e => by obtain ⟨hn9, hA⟩ := hr5 _ e; simp [blk] at hA; omega))
  have HG9 := Lib.hid (HG8.out.grownR g5 (fun e => by obtain ⟨hn9, hA⟩ := hr5 _ e; simp [blk] at hA; omega))
  have rA9 := Lib.hid (rA8.out.grownR g5 (fun b hn hb e => by obtain ⟨hn9, hA⟩ := hr5 _ e; have := HQA.out hn b hb; simp [blk] at hA; omega))
  have rM9 := Lib.hid (rM8.out.grownR g5 (fun b hn hb e => by obtain ⟨hn9, hA⟩ := hr5 _ e; have := HQM.out hn b hb; simp [blk] at hA; omega))
  have rG9 := Lib.hid (rG8.out.grownR g5 (fun b hn hb e => by obtain ⟨hn9, hA⟩ := hr5 _ e; have := HQG.out hn b hb; simp [blk] at hA; omega))
  have rX9 := Lib.hid R5
  have z9 := g5.size
  have HB9 := Lib.hid (HB8.out.trans (HBm.out.mono (by omega)))
  clear R5 g5 hr5 HBm HB8 HX8 HM8 HY8 HG8 rA8 rM8 rX8 rG8
  have kX_z := HX9.out.1
  have kX_0 := HX9.out.2 0 _ rfl
  have kX_1 := HX9.out.2 1 _ rfl
  have kX_2 := HX9.out.2 2 _ rfl
  have kM_z := HM9.out.1
  have kM_0 := HM9.out.2 0 _ rfl
  have kM_1 := HM9.out.2 1 _ rfl
  have kY_z := HY9.out.1
  have kY_0 := HY9.out.2 0 _ rfl
  have kY_1 := HY9.out.2 1 _ rfl
  have kY_2 := HY9.out.2 2 _ rfl
  have kG_z := HG9.out.1
  have kG_0 := HG9.out.2 0 _ rfl
  have kG_1 := HG9.out.2 1 _ rfl
  go_wp2_with fail
  clear kX_z kX_0 kX_1 kX_2 kM_z kM_0 kM_1 kY_z kY_0 kY_1 kY_2 kG_z kG_0 kG_1
  refine (eqC_same _ z AG AM n cG cM f rG9.out.row rM9.out.row).mono ?_
  rintro e w10 ⟨rfl, bE⟩
  have HX10 := Lib.hid (HX9.out.below bE HX9.out.1)
  have HM10 := Lib.hid (HM9.out.below bE HM9.out.1)
  have HY10 := Lib.hid (HY9.out.below bE HY9.out.1)
  have HG10 := Lib.hid (HG9.out.below bE HG9.out.1)
  have rA10 := Lib.hid (rA9.out.below bE (Nat.le_refl _))
  have rM10 := Lib.hid (rM9.out.below bE (Nat.le_refl _))
  have rX10 := Lib.hid (rX9.out.below bE (Nat.le_refl _))
  have rG10 := Lib.hid (rG9.out.below bE (Nat.le_refl _))
  have HB10 := Lib.hid (HB9.out.trans (bE.mono HB9.out.size))
  have z10 := (bE).size
  clear HB9 HX9 HM9 HY9 HG9 rA9 rM9 rX9 rG9
  clear bE
  clear rX10
  have kX_z := HX10.out.1
  have kX_0 := HX10.out.2 0 _ rfl
  have kX_1 := HX10.out.2 1 _ rfl
  have kX_2 := HX10.out.2 2 _ rfl
  have kM_z := HM10.out.1
  have kM_0 := HM10.out.2 0 _ rfl
  have kM_1 := HM10.out.2 1 _ rfl
  have kY_z := HY10.out.1
  have kY_0 := HY10.out.2 0 _ rfl
  have kY_1 := HY10.out.2 1 _ rfl
  have kY_2 := HY10.out.2 2 _ rfl
  have kG_z := HG10.out.1
  have kG_0 := HG10.out.2 0 _ rfl
  have kG_1 := HG10.out.2 1 _ rfl
  go_wp2_with fail
  clear kX_z kX_0 kX_1 kX_2 kM_z kM_0 kM_1 kY_z kY_0 kY_1 kY_2 kG_z kG_0 kG_1
  refine (markC_any _ w5.heap.size z AG n cG f 1 rG10.out (by omega) (by omega)).mono ?_
  rintro e w11 ⟨rfl, R5, r, g5, hr5⟩
  have HBm := Lib.hid (Marked.below g5 hr5 rG10.out (by omega))
  have HX11 := Lib.hid (HX10.out.grownR g5 (fun e => by obtain ⟨hn9, hA⟩ := hr5 _ e; have h1 := HQG.out hn9 _ hA; omega))
  have HM11 := Lib.hid (HM10.out.grownR g5 (fun e => by obtain ⟨hn9, hA⟩ := hr5 _ e; have h1 := HQG.out hn9 _ hA; omega))
  have HY11 := Lib.hid (HY10.out.grownR g5 (fun e => by obtain ⟨hn9, hA⟩ := hr5 _ e; have h1 := HQG.out hn9 _ hA; omega))
  have HG11 := Lib.hid (HG10.out.grownR g5 (fun e => by obtain ⟨hn9, hA⟩ := hr5 _ e; have h1 := HQG.out hn9 _ hA; omega))
  have rA11 := Lib.hid (rA10.out.grownR g5 (fun b hn hb e => by obtain ⟨hn9, hA⟩ := hr5 _ e; have h1 := HQG.out hn9 b hA; have := HQA.out hn b hb; omega))
  have rM11 := Lib.hid (rM10.out.grownR g5 (fun b hn hb e => by obtain ⟨hn9, hA⟩ := hr5 _ e; have h1 := HQG.out hn9 b hA; have := HQM.out hn b hb; omega))
  have rG11 := Lib.hid R5
  have z11 := g5.size
  have HB11 := Lib.hid (HB10.out.trans (HBm.out.mono (by omega)))
  clear R5 g5 hr5 HBm HB10 HX10 HM10 HY10 HG10 rA10 rM10 rG10
  have kX_z := HX11.out.1
  have kX_0 := HX11.out.2 0 _ rfl
  have kX_1 := HX11.out.2 1 _ rfl
  have kX_2 := HX11.out.2 2 _ rfl
  have kM_z := HM11.out.1
  have kM_0 := HM11.out.2 0 _ rfl
  have kM_1 := HM11.out.2 1 _ rfl
  have kY_z := HY11.out.1
  have kY_0 := HY11.out.2 0 _ rfl
  have kY_1 := HY11.out.2 1 _ rfl
  have kY_2 := HY11.out.2 2 _ rfl
  have kG_z := HG11.out.1
  have kG_0 := HG11.out.2 0 _ rfl
  have kG_1 := HG11.out.2 1 _ rfl
  go_wp2_with fail
  clear kX_z kX_0 kX_1 kX_2 kM_z kM_0 kM_1 kY_z kY_0 kY_1 kY_2 kG_z kG_0 kG_1
  refine (heldC_any _ z AG n cG 1 rG11.out.row (by omega) (by omega)).mono ?_
  rintro e w12 ⟨rfl, bH⟩
  have HX12 := Lib.hid (HX11.out.below bH HX11.out.1)
  have HM12 := Lib.hid (HM11.out.below bH HM11.out.1)
  have HY12 := Lib.hid (HY11.out.below bH HY11.out.1)
  have HG12 := Lib.hid (HG11.out.below bH HG11.out.1)
  have rA12 := Lib.hid (rA11.out.below bH (Nat.le_refl _))
  have rM12 := Lib.hid (rM11.out.below bH (Nat.le_refl _))
  have rG12 := Lib.hid (rG11.out.below bH (Nat.le_refl _))
  have HB12 := Lib.hid (HB11.out.trans (bH.mono HB11.out.size))
  have z12 := (bH).size
  clear HB11 HX11 HM11 HY11 HG11 rA11 rM11 rG11
  clear bH
  have kX_z := HX12.out.1
  have kX_0 := HX12.out.2 0 _ rfl
  have kX_1 := HX12.out.2 1 _ rfl
  have kX_2 := HX12.out.2 2 _ rfl
  have kM_z := HM12.out.1
  have kM_0 := HM12.out.2 0 _ rfl
  have kM_1 := HM12.out.2 1 _ rfl
  have kY_z := HY12.out.1
  have kY_0 := HY12.out.2 0 _ rfl
  have kY_1 := HY12.out.2 1 _ rfl
  have kY_2 := HY12.out.2 2 _ rfl
  have kG_z := HG12.out.1
  have kG_0 := HG12.out.2 0 _ rfl
  have kG_1 := HG12.out.2 1 _ rfl
  go_wp2_with fail
  refine (toPanel_own _ W0 H0 A0 n0 c0 zs0 rA12.out hn20).mono ?_
  rintro e wP ⟨AP, cP, rfl, hOP, bP⟩
  clear kX_z kX_0 kX_1 kX_2 kM_z kM_0 kM_1 kY_z kY_0 kY_1 kY_2 kG_z kG_0 kG_1
  have rPHP := Lib.hid hOP
  clear hOP
  have HXP := Lib.hid (HX12.out.below bP HX12.out.1)
  have HMP := Lib.hid (HM12.out.below bP HM12.out.1)
  have HYP := Lib.hid (HY12.out.below bP HY12.out.1)
  have HGP := Lib.hid (HG12.out.below bP HG12.out.1)
  have rAP := Lib.hid (rA12.out.below bP (Nat.le_refl _))
  have rMP := Lib.hid (rM12.out.below bP (Nat.le_refl _))
  have rGP := Lib.hid (rG12.out.below bP (Nat.le_refl _))
  have HBP := Lib.hid (HB12.out.trans (bP.mono HB12.out.size))
  have zP := (bP).size
  clear HB12 HX12 HM12 HY12 HG12 rA12 rM12 rG12
  have kX_z := HXP.out.1
  have kX_0 := HXP.out.2 0 _ rfl
  have kX_1 := HXP.out.2 1 _ rfl
  have kX_2 := HXP.out.2 2 _ rfl
  have kM_z := HMP.out.1
  have kM_0 := HMP.out.2 0 _ rfl
  have kM_1 := HMP.out.2 1 _ rfl
  have kY_z := HYP.out.1
  have kY_0 := HYP.out.2 0 _ rfl
  have kY_1 := HYP.out.2 1 _ rfl
  have kY_2 := HYP.out.2 2 _ rfl
  have kG_z := HGP.out.1
  have kG_0 := HGP.out.2 0 _ rfl
  have kG_1 := HGP.out.2 1 _ rfl
  go_wp2_with fail
  refine Calls.mono (HI.out _ _ _ rPHP.out.row) ?_
  rintro e wCH ⟨A9, c9, rfl, hO9, bC⟩
  clear kX_z kX_0 kX_1 kX_2 kM_z kM_0 kM_1 kY_z kY_0 kY_1 kY_2 kG_z kG_0 kG_1
  clear rPHP
  have zz := hO9.base_lt
  have HO := Lib.hid hO9
  clear hO9
  have HXC := Lib.hid (HXP.out.below bC HXP.out.1)
  have HMC := Lib.hid (HMP.out.below bC HMP.out.1)
  have HYC := Lib.hid (HYP.out.below bC HYP.out.1)
  have HGC := Lib.hid (HGP.out.below bC HGP.out.1)
  have rAC := Lib.hid (rAP.out.below bC (Nat.le_refl _))
  have rMC := Lib.hid (rMP.out.below bC (Nat.le_refl _))
  have rGC := Lib.hid (rGP.out.below bC (Nat.le_refl _))
  have HBC := Lib.hid (HBP.out.trans (bC.mono HBP.out.size))
  have zC := (bC).size
  clear HBP HXP HMP HYP HGP rAP rMP rGP
  have kX_z := HXC.out.1
  have kX_0 := HXC.out.2 0 _ rfl
  have kX_1 := HXC.out.2 1 _ rfl
  have kX_2 := HXC.out.2 2 _ rfl
  have kM_z := HMC.out.1
  have kM_0 := HMC.out.2 0 _ rfl
  have kM_1 := HMC.out.2 1 _ rfl
  have kY_z := HYC.out.1
  have kY_0 := HYC.out.2 0 _ rfl
  have kY_1 := HYC.out.2 1 _ rfl
  have kY_2 := HYC.out.2 2 _ rfl
  have kG_z := HGC.out.1
  have kG_0 := HGC.out.2 0 _ rfl
  have kG_1 := HGC.out.2 1 _ rfl
  go_wp2_with fail
  clear kX_z kX_0 kX_1 kX_2 kM_z kM_0 kM_1 kY_z kY_0 kY_1 kY_2 kG_z kG_0 kG_1
  have bM := (Below.refl wCH.heap.size wCH).alloc (Nat.le_refl _) (.cells #[.slice A9 n c9, .int .i64 z] 30)
  have HCH := Lib.hid (Cel.new wCH [.slice A9 n c9, .int .i64 z] 30)
  have rH := Lib.hid (HO.out.below bM (Nat.le_refl _))
  have HQH : Hid (0 < n → ∀ b, blk A9 = some b → wP.heap.size ≤ b ∧ b < (wCH.alloc (.cells #[.slice A9 n c9, .int .i64 z] 30)).heap.size ∧ b ≠ wCH.heap.size) := Lib.hid (fun hn b hb => by obtain ⟨b', h1, h2, h3⟩ := HO.out.base_le hn; rw [hb] at h1; injection h1 with h1; subst h1; exact ⟨h2, by simp; omega, by omega⟩)
  have HZH : Hid (wP.heap.size ≤ wCH.heap.size) := Lib.hid zC
  have bXX := bM
  clear bM HO zz
  generalize wCH.alloc (.cells #[.slice A9 n c9, .int .i64 z] 30) = w2x at *
  have hzC := zC
  obtain ⟨w13, rfl⟩ : ∃ w' : World, w' = w2x := ⟨_, rfl⟩
  have HX13 := Lib.hid (HXC.out.below bXX HXC.out.1)
  have HM13 := Lib.hid (HMC.out.below bXX HMC.out.1)
  have HY13 := Lib.hid (HYC.out.below bXX HYC.out.1)
  have HG13 := Lib.hid (HGC.out.below bXX HGC.out.1)
  have rA13 := Lib.hid (rAC.out.below bXX (Nat.le_refl _))
  have rM13 := Lib.hid (rMC.out.below bXX (Nat.le_refl _))
  have rG13 := Lib.hid (rGC.out.below bXX (Nat.le_refl _))
  have HB13 := Lib.hid (HBC.out.trans (bXX.mono HBC.out.size))
  have z13 := (bXX).size
  clear HBC HXC HMC HYC HGC rAC rMC rGC
  have HH13 := HCH
  have rH13 := rH
  clear HCH rH bXX
  obtain ⟨AH, rfl⟩ : ∃ A : Option Addr, A = A9 := ⟨_, rfl⟩
  obtain ⟨cH, rfl⟩ : ∃ c : Nat, c = c9 := ⟨_, rfl⟩
  have zbH := HZH.out
  have zlH := HH13.out.1
  clear HZH
  have kX_z := HX13.out.1
  have kX_0 := HX13.out.2 0 _ rfl
  have kX_1 := HX13.out.2 1 _ rfl
  have kX_2 := HX13.out.2 2 _ rfl
  have kM_z := HM13.out.1
  have kM_0 := HM13.out.2 0 _ rfl
  have kM_1 := HM13.out.2 1 _ rfl
  have kY_z := HY13.out.1
  have kY_0 := HY13.out.2 0 _ rfl
  have kY_1 := HY13.out.2 1 _ rfl
  have kY_2 := HY13.out.2 2 _ rfl
  have kG_z := HG13.out.1
  have kG_0 := HG13.out.2 0 _ rfl
  have kG_1 := HG13.out.2 1 _ rfl
  have kH_z := HH13.out.1
  have kH_0 := HH13.out.2 0 _ rfl
  have kH_1 := HH13.out.2 1 _ rfl
  go_wp2_with fail
  clear kX_z kX_0 kX_1 kX_2 kM_z kM_0 kM_1 kY_z kY_0 kY_1 kY_2 kG_z kG_0 kG_1 kH_z kH_0 kH_1
  refine (eqC_same _ z AH AM n cH cM f rH13.out.row rM13.out.row).mono ?_
  rintro e w14 ⟨rfl, bE⟩
  have HX14 := Lib.hid (HX13.out.below bE HX13.out.1)
  have HM14 := Lib.hid (HM13.out.below bE HM13.out.1)
  have HY14 := Lib.hid (HY13.out.below bE HY13.out.1)
  have HG14 := Lib.hid (HG13.out.below bE HG13.out.1)
  have HH14 := Lib.hid (HH13.out.below bE HH13.out.1)
  have rA14 := Lib.hid (rA13.out.below bE (Nat.le_refl _))
  have rM14 := Lib.hid (rM13.out.below bE (Nat.le_refl _))
  have rG14 := Lib.hid (rG13.out.below bE (Nat.le_refl _))
  have rH14 := Lib.hid (rH13.out.below bE (Nat.le_refl _))
  have HB14 := Lib.hid (HB13.out.trans (bE.mono HB13.out.size))
  have z14 := (bE).size
  clear HB13 HX13 HM13 HY13 HG13 HH13 rA13 rM13 rG13 rH13
  clear bE
  have kX_z := HX14.out.1
  have kX_0 := HX14.out.2 0 _ rfl
  have kX_1 := HX14.out.2 1 _ rfl
  have kX_2 := HX14.out.2 2 _ rfl
  have kM_z := HM14.out.1
  have kM_0 := HM14.out.2 0 _ rfl
  have kM_1 := HM14.out.2 1 _ rfl
  have kY_z := HY14.out.1
  have kY_0 := HY14.out.2 0 _ rfl
  have kY_1 := HY14.out.2 1 _ rfl
  have kY_2 := HY14.out.2 2 _ rfl
  have kG_z := HG14.out.1
  have kG_0 := HG14.out.2 0 _ rfl
  have kG_1 := HG14.out.2 1 _ rfl
  have kH_z := HH14.out.1
  have kH_0 := HH14.out.2 0 _ rfl
  have kH_1 := HH14.out.2 1 _ rfl
  go_wp2_with fail
  clear kX_z kX_0 kX_1 kX_2 kM_z kM_0 kM_1 kY_z kY_0 kY_1 kY_2 kG_z kG_0 kG_1 kH_z kH_0 kH_1
  refine (heldC_any _ z AG n cG 1 rG14.out.row (by omega) (by omega)).mono ?_
  rintro e w15 ⟨rfl, bH⟩
  have HX15 := Lib.hid (HX14.out.below bH HX14.out.1)
  have HM15 := Lib.hid (HM14.out.below bH HM14.out.1)
  have HY15 := Lib.hid (HY14.out.below bH HY14.out.1)
  have HG15 := Lib.hid (HG14.out.below bH HG14.out.1)
  have HH15 := Lib.hid (HH14.out.below bH HH14.out.1)
  have rA15 := Lib.hid (rA14.out.below bH (Nat.le_refl _))
  have rM15 := Lib.hid (rM14.out.below bH (Nat.le_refl _))
  have rG15 := Lib.hid (rG14.out.below bH (Nat.le_refl _))
  have rH15 := Lib.hid (rH14.out.below bH (Nat.le_refl _))
  have HB15 := Lib.hid (HB14.out.trans (bH.mono HB14.out.size))
  have z15 := (bH).size
  clear HB14 HX14 HM14 HY14 HG14 HH14 rA14 rM14 rG14 rH14
  clear bH
  go_wp2
  go_ret
  exact ⟨rfl, HB15.out⟩

theorem walk (w : World) (W0 H0 : Int) (A0 : Option Addr) (n0 c0 : Nat) (zs0 : Nat → Int) (wW0 : (Lit.int .i64 W0).wf = true) (wH0 : (Lit.int .i64 H0).wf = true) (r0 : Row .i64 w A0 n0 c0 zs0) :
    Calls Try.prog 4 #[.agg #[.int .i64 W0, .int .i64 H0, .slice A0 n0 c0]] w fun e w' => e = .returned (.bool true) ∧ Below w.heap.size w w' := by
  have hnm : n0 ≤ 9223372036854775807 := by have := r0.1; have := r0.2.1; unfold maxLen at this; omega
  by_cases hs : (n0 : Int) ≤ 1048576
  · cases hv : validB W0 H0 n0 zs0
    · exact core w W0 H0 A0 n0 c0 zs0 r0 0 1 0 bdF hs (by omega) (Lib.hid fun w A c hr => spec_firstColumn_bad w W0 H0 A n0 c zs0 hr hv) (Lib.hid fun w A c hr => impl_firstColumn_bad w W0 H0 A n0 c zs0 hr hv)
    · obtain ⟨-, sH, -, -⟩ := validB_yes hv
      obtain ⟨s1, s2⟩ := side_mk sH
      obtain ⟨h, rfl⟩ : ∃ h : Nat, H0 = h := ⟨H0.toNat, by omega⟩
      exact core w W0 h A0 n0 c0 zs0 r0 0 0 (2 * h) bdF hs (by omega) (Lib.hid fun w A c hr => spec_firstColumn_ok w W0 h A n0 c zs0 hr hv) (Lib.hid fun w A c hr => impl_firstColumn_ok w W0 h A n0 c zs0 hr hv)
  · have hs : 1048576 < (n0 : Int) := by omega
    go_enter Try.func4, Try.ntmps4
    go_wp2_with fail
    refine (sz_no _ W0 H0 A0 n0 c0 1048576 (by omega) (by omega) hnm hs).mono ?_
    rintro e w1 ⟨rfl, b1⟩
    go_wp2
    go_ret
    exact ⟨rfl, ((Below.refl _ _).alloc (Nat.le_refl _) _).trans (b1.mono (by first | (simp; done) | (simp; omega)))⟩

set_option maxRecDepth 100000 in
theorem lifted (os : Os) (started : os.Started) (H : Type) (enc : TypeId × Value → H) :
    ReturnsInHanded {} Try.checked os 4 .any (Rows.fnExactFirstColumnSpec.pre6 enc Try.prog Try.f4 Rows.fnExactFirstColumnRow.domain false) (Rows.fnExactFirstColumnSpec.post enc Try.prog Try.f4 false true false false) := by
  refine returnsInHanded_of_change (C := Try.checked) own started (by kernel_rfl) Try.func4
    (ChangeSpec.witness6 (enc := enc) (C := Try.checked) false ⟨#[], #[.agg #[.int .i64 0, .int .i64 0, .slice none 0 0]], []⟩ 8 (by kernel_rfl) (by kernel_rfl) (by kernel_rfl) (by kernel_rfl)) ?_
  intro W base args ds gs before hval0 hW hcnd _
  have hval : ∀ (j : Nat) t v, Try.f4.params[j]? = some t → args[j]? = some v → Value.okWide Try.prog W .any base t v := hval0
  have hW' := hW
  obtain ⟨p, q, hA0, hV, rfl, hfz, hnd⟩ := hW
  have hA : DataW.TrodAll enc Try.prog W 0 (fun _ => true) true Try.f4.params.toList args.toList ds p := hA0
  rw [Try.params4] at hA hval
  obtain ⟨v0, vs0, d0, ds0, p0, q0, hargs, rfl, rfl, h0, tl0⟩ := trodAll_cons hA
  obtain ⟨rfl, rfl, rfl⟩ := trodAll_nil tl0
  obtain rfl : args = #[v0] := by cases args; simp_all
  obtain ⟨rfl, rfl⟩ := trodVars_none hV
  have k0 := h0
  have lt0 : ∀ x ∈ p0, x.block < W.heap.size := by obtain ⟨m, hm⟩ := k0; exact DataW.trod_lt m _ _ _ hm
  obtain ⟨u00, u01, u02, y00, y01, y02, m0, rfl, rfl, hp0, g00, g01, g02⟩ := open_agg3 Try.underlying27 (by kernel_rfl) (by kernel_rfl) (hval 0 27 v0 rfl rfl) h0
  obtain ⟨W0, e00, -, wW0⟩ := DataW.trod_int Try.underlying2 g00
  obtain ⟨H0, e01, -, wH0⟩ := DataW.trod_int Try.underlying2 g01
  simp at e00 e01
  subst e00 e01
  obtain ⟨A0, n0, c0, zs0, e02, r0⟩ := row_of Try.underlying22 Try.underlying2 (by kernel_rfl) g02 (fun x hx => lt0 x (by rw [hp0]; simp [hx]))
  simp at e02
  subst e02
  clear hA0 hval0
  refine (walk W W0 H0 A0 n0 c0 zs0 wW0 wH0 r0).mono fun e W' ⟨he, bel⟩ => ?_
  subst he
  exact ⟨_, rfl, _, _, _, [], _, [], hW', trodAll_mk1 (shut_bool Try.underlying4 _), (trodAll_cons_mk (Below.trod laidOut (by kernel_rfl) (of_decide_eq_true (by kernel_rfl)) k0 bel lt0) trodAll_mk0), rfl, bel.frame _, fun h => by cases h⟩

theorem over : Rows.fnExactFirstColumnRow.holds Try.pinned (OpenSpec.ofChange Rows.fnExactFirstColumnSpec) :=
  OpenClaim.holds_of_wide 4 Try.f4 rfl rfl rfl rfl rfl rfl rfl ⟨rfl, rfl, rfl, rfl, rfl⟩ rfl rfl rfl rfl rfl (by kernel_rfl) Try.func4 (by kernel_rfl)
    (of_decide_eq_true (by kernel_rfl)) (by unfold Func.isWrapper; first | (rw [if_pos (by decide +kernel)]; kernel_rfl) | (rw [if_neg (by decide +kernel)]; exact ⟨rfl, rfl⟩))
    (fun os started H enc _ => lifted os started H enc)

theorem proved : Rows.FnExactFirstColumnSaid := over
#print axioms proved
end Go.Proofs.Ytpkajonnopmciaa.fnExactFirstColumn
