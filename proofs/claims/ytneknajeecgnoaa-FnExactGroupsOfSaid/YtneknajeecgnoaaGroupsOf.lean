/- Proved: whatever joined elements (of at most 2^20 numbers; for more the law answers true at once), valid or not, GroupsOf of the program is called with, it answers as the model, every list, and changes nothing; the memory of its lists is its own. No condition. -/
import Derived.Test.YtneknajeecgnoaaRows
import Derived.Test.YtneknajeecgnoaaBase
import Derived.Test.YtneknajeecgnoaaJn
import Derived.Test.YtneknajeecgnoaaUdl
import Derived.Test.YtneknajeecgnoaaLli
import Derived.Test.YtneknajeecgnoaaGst
import Derived.WalkKit
import Derived.ProofKit
import Derived.OpenShut
import Derived.ShutString
import Derived.ChangeOld
import Derived.Below
import Derived.Lib.SmallJoins
namespace Go.Proofs.Ytneknajeecgnoaa.fnExactGroupsOf
open Go.ChangeShapes Go.WideShapes Go.ChangeAt Go.RowKit Go.Joins
open Go.ChangeMaps (open_string shut_string)
open Go.Proofs.Ytneknajeecgnoaa.Base
set_option linter.unusedVariables false
theorem own : ownKnob Try.prog.godebug = none := by kernel_rfl
theorem laidOut : laidOutB Try.prog = true := by kernel_rfl

set_option maxHeartbeats 4000000 in
theorem core (w : World) (PA0 : Option Addr) (pn0 pc0 : Nat) (pz0 : Nat → Int) (LA0 : Option Addr) (ln0 lc0 : Nat) (lz0 : Nat → Int) (n : Nat) (N : Nat → Nat) (F : Nat → Nat → Int) (code : Int) (hn : offs N n ≤ 1048576)
    (pr0 : Row .i64 w PA0 pn0 pc0 pz0) (lr0 : Row .i64 w LA0 ln0 lc0 lz0) (hs : (pn0 : Int) + ln0 ≤ 1048576)
    (HS : Hid (∀ (w : World) (A : Option Addr) (c : Nat) (B : Option Addr) (d : Nat), Row .i64 w A pn0 c pz0 → Row .i64 w B ln0 d lz0 → Calls Try.prog 29 #[.agg #[.slice A pn0 c, .slice B ln0 d]] w (LOut n N F code w)))
    (HI : Hid (∀ (w : World) (A : Option Addr) (c : Nat) (B : Option Addr) (d : Nat), Row .i64 w A pn0 c pz0 → Row .i64 w B ln0 d lz0 → Calls Try.prog 19 #[.agg #[.slice A pn0 c, .slice B ln0 d]] w (LOut n N F code w))) :
    Calls Try.prog 6 #[.agg #[.slice PA0 pn0 pc0, .slice LA0 ln0 lc0]] w fun e w' => e = .returned (.bool true) ∧ Below w.heap.size w w' := by
  have hcd : (code != code) = false := by simp
  have hmk : ((1 + (offs N n : Int)) != (1 + (offs N n : Int))) = false := by simp
  have HP := Lib.hid pr0
  have HL := Lib.hid lr0
  have HQP := Lib.hid (row_blk pr0)
  have HQL := Lib.hid (row_blk lr0)
  clear pr0 lr0
  have hn20 : pn0 ≤ 1048576 := by omega
  have hm20 : ln0 ≤ 1048576 := by omega
  go_enter Try.func6, Try.ntmps6
  go_wp2_with fail
  refine (szJ_yes _ PA0 LA0 pn0 pc0 ln0 lc0 1048576 (by omega) (by omega) hs).mono ?_
  rintro e w1 ⟨rfl, b1⟩
  have HB1 := Lib.hid (Below.trans (show Below w.heap.size w (w.alloc (.cells #[.slice PA0 pn0 pc0, .slice LA0 ln0 lc0] 40)) from ((Below.refl w.heap.size w).alloc (by simp) _)) (b1.mono (by first | (simp; done) | (simp; omega))))
  have HX1 : Hid (Cel w1 (w.heap.size) [.slice PA0 pn0 pc0, .slice LA0 ln0 lc0]) := Lib.hid (by have h := ((Cel.new w [.slice PA0 pn0 pc0, .slice LA0 ln0 lc0] 40).below b1 (by first | (simp; done) | (simp; omega))); simpa using h)
  have rP1 := Lib.hid (HP.out.below HB1.out (Nat.le_refl _))
  have rL1 := Lib.hid (HL.out.below HB1.out (Nat.le_refl _))
  have z1 := HX1.out.1
  clear b1 HP HL
  have kX_z := HX1.out.1
  have kX_0 := HX1.out.2 0 _ rfl
  have kX_1 := HX1.out.2 1 _ rfl
  go_wp2_with fail
  clear kX_z kX_0 kX_1
  refine (toJ_any _ PA0 pn0 pc0 pz0 LA0 ln0 lc0 lz0 rP1.out rL1.out hn20 hm20).mono ?_
  rintro e w2 ⟨AP, cP, AL, cL, rfl, HJ, bT⟩
  have HX2 := Lib.hid (HX1.out.below bT HX1.out.1)
  have rP2 := Lib.hid (rP1.out.below bT (Nat.le_refl _))
  have rL2 := Lib.hid (rL1.out.below bT (Nat.le_refl _))
  have HB2 := Lib.hid (HB1.out.trans (bT.mono HB1.out.size))
  have z2 := (bT).size
  clear HB1 HX1 rP1 rL1 bT
  have rU2 := Lib.hid HJ.1.row
  have rV2 := Lib.hid HJ.2.1.row
  clear HJ
  go_wp2_with fail
  refine (HS.out _ AP cP AL cL rU2.out rV2.out).mono ?_
  rintro e w3 ⟨AM, cM, PM, CM, rfl, J3, bT⟩
  clear rU2 rV2
  have HX3 := Lib.hid (HX2.out.below bT HX2.out.1)
  have rP3 := Lib.hid (rP2.out.below bT (Nat.le_refl _))
  have rL3 := Lib.hid (rL2.out.below bT (Nat.le_refl _))
  have HB3 := Lib.hid (HB2.out.trans (bT.mono HB2.out.size))
  have z3 := (bT).size
  clear HB2 HX2 rP2 rL2 bT
  have HQM := Lib.hid (fun b (hb : LBl AM n PM N b) => (J3.lbl hb).2)
  have lM3 := Lib.hid J3
  clear J3
  have kX_z := HX3.out.1
  have kX_0 := HX3.out.2 0 _ rfl
  have kX_1 := HX3.out.2 1 _ rfl
  go_wp2_with fail
  clear kX_z kX_0 kX_1
  refine (toJ_any _ PA0 pn0 pc0 pz0 LA0 ln0 lc0 lz0 rP3.out rL3.out hn20 hm20).mono ?_
  rintro e w4 ⟨AX, cX, AY, cY, rfl, HJ, bT⟩
  have HX4 := Lib.hid (HX3.out.below bT HX3.out.1)
  have rP4 := Lib.hid (rP3.out.below bT (Nat.le_refl _))
  have rL4 := Lib.hid (rL3.out.below bT (Nat.le_refl _))
  have lM4 := Lib.hid (lM3.out.below bT (Nat.le_refl _))
  have HB4 := Lib.hid (HB3.out.trans (bT.mono HB3.out.size))
  have z4 := (bT).size
  clear HB3 HX3 rP3 rL3 lM3 bT
  have HQX := Lib.hid (show 0 < pn0 → ∀ b, blk AX = some b → w3.heap.size ≤ b ∧ b < w4.heap.size from fun h b hb => HJ.1.base_lt h b hb)
  have HQY := Lib.hid (show 0 < ln0 → ∀ b, blk AY = some b → w3.heap.size ≤ b ∧ b < w4.heap.size from fun h b hb => HJ.2.1.base_lt h b hb)
  have jX4 := Lib.hid HJ
  clear HJ
  have bN := (Below.refl w4.heap.size w4).alloc (Nat.le_refl _) (.cells #[.slice AX pn0 cX, .slice AY ln0 cY] 26)
  have HY5 := Lib.hid (Cel.new w4 [.slice AX pn0 cX, .slice AY ln0 cY] 26)
  have zz5 : w4.heap.size + 1 ≤ (w4.alloc (.cells #[.slice AX pn0 cX, .slice AY ln0 cY] 26)).heap.size := by simp
  have HX5 := Lib.hid (HX4.out.below bN HX4.out.1)
  have rP5 := Lib.hid (rP4.out.below bN (Nat.le_refl _))
  have rL5 := Lib.hid (rL4.out.below bN (Nat.le_refl _))
  have jX5 := Lib.hid (jX4.out.below bN (Nat.le_refl _))
  have lM5 := Lib.hid (lM4.out.below bN (Nat.le_refl _))
  have HB5 := Lib.hid (HB4.out.trans (bN.mono HB4.out.size))
  have z5 := (bN).size
  clear HB4 HX4 rP4 rL4 jX4 lM4 bN
  have kY_z := HY5.out.1
  have kY_0 := HY5.out.2 0 _ rfl
  have kY_1 := HY5.out.2 1 _ rfl
  go_wp2_with fail
  clear kY_z kY_0 kY_1
  generalize w4.alloc (.cells #[.slice AX pn0 cX, .slice AY ln0 cY] 26) = w5 at *
  generalize hbeY : w4.heap.size = bY at *
  clear hbeY
  refine (HI.out _ AX cX AY cY jX5.out.1.row jX5.out.2.1.row).mono ?_
  rintro e w6 ⟨AG, cG, PG, CG, rfl, J6, bT⟩
  have HX6 := Lib.hid (HX5.out.below bT HX5.out.1)
  have HY6 := Lib.hid (HY5.out.below bT HY5.out.1)
  have rP6 := Lib.hid (rP5.out.below bT (Nat.le_refl _))
  have rL6 := Lib.hid (rL5.out.below bT (Nat.le_refl _))
  have jX6 := Lib.hid (jX5.out.below bT (Nat.le_refl _))
  have lM6 := Lib.hid (lM5.out.below bT (Nat.le_refl _))
  have HB6 := Lib.hid (HB5.out.trans (bT.mono HB5.out.size))
  have z6 := (bT).size
  clear HB5 HX5 HY5 rP5 rL5 jX5 lM5 bT
  have HQG := Lib.hid (fun b (hb : LBl AG n PG N b) => (J6.lbl hb).1)
  have lG6 := Lib.hid J6
  clear J6
  go_wp2_with fail
  refine (eqSS_same _ w5.heap.size w2.heap.size AG AM n cG cM PG PM N CG CM F lG6.out lM6.out).mono ?_
  rintro e w7 ⟨rfl, bT⟩
  have HX7 := Lib.hid (HX6.out.below bT HX6.out.1)
  have HY7 := Lib.hid (HY6.out.below bT HY6.out.1)
  have rP7 := Lib.hid (rP6.out.below bT (Nat.le_refl _))
  have rL7 := Lib.hid (rL6.out.below bT (Nat.le_refl _))
  have jX7 := Lib.hid (jX6.out.below bT (Nat.le_refl _))
  have lM7 := Lib.hid (lM6.out.below bT (Nat.le_refl _))
  have lG7 := Lib.hid (lG6.out.below bT (Nat.le_refl _))
  have HB7 := Lib.hid (HB6.out.trans (bT.mono HB6.out.size))
  have z7 := (bT).size
  clear HB6 HX6 HY6 rP6 rL6 jX6 lM6 lG6 bT
  have kX_z := HX7.out.1
  have kX_0 := HX7.out.2 0 _ rfl
  have kX_1 := HX7.out.2 1 _ rfl
  have kY_z := HY7.out.1
  have kY_0 := HY7.out.2 0 _ rfl
  have kY_1 := HY7.out.2 1 _ rfl
  have OL := Lib.hid (Old.mk_ (Below.refl w7.heap.size w7).drew)
  go_wp2_with fail
  go_region_held3 (fun w' => (∀ b o, b < (w7).heap.size → w'.cell? ⟨b, o, none⟩ = (w7).cell? ⟨b, o, none⟩) ∧ Below (w7).heap.size (w7) w')
    (first | assumption | exact OL.out | exact Old.trans (by assumption) (by assumption))
    (first | (go_at_call 24; refine (toJ_any _ PA0 pn0 pc0 pz0 LA0 ln0 lc0 lz0 ?_ ?_ hn20 hm20).mono ?_; exact rP7.out.old (by assumption); exact rL7.out.old (by assumption); rintro e w10a ⟨AZ, cZ, AW, cW, rfl, HJ, b7⟩) | (go_at_call 25; refine (eqJ_same _ _ _ _ _ pn0 _ _ ln0 _ _ pz0 lz0 ?_ ?_ ?_ ?_).mono ?_; exact jX7.out.1.row.old (by assumption); exact HJ.1.row; exact jX7.out.2.1.row.old (by assumption); exact HJ.2.1.row; rintro e w10b ⟨rfl, b8⟩))
  clear kX_z kX_0 kX_1
  clear kY_z kY_0 kY_1
  rename_i hS
  have bT := hS.2
  obtain ⟨w10, rfl⟩ : ∃ w' : World, w' = w10b := ⟨_, rfl⟩
  clear hS OL HJ b7 b8
  have HX10 := Lib.hid (HX7.out.below bT HX7.out.1)
  have HY10 := Lib.hid (HY7.out.below bT HY7.out.1)
  have rP10 := Lib.hid (rP7.out.below bT (Nat.le_refl _))
  have rL10 := Lib.hid (rL7.out.below bT (Nat.le_refl _))
  have jX10 := Lib.hid (jX7.out.below bT (Nat.le_refl _))
  have lM10 := Lib.hid (lM7.out.below bT (Nat.le_refl _))
  have lG10 := Lib.hid (lG7.out.below bT (Nat.le_refl _))
  have HB10 := Lib.hid (HB7.out.trans (bT.mono HB7.out.size))
  have z10 := (bT).size
  clear HB7 HX7 HY7 rP7 rL7 jX7 lM7 lG7 bT
  have kX_z := HX10.out.1
  have kX_0 := HX10.out.2 0 _ rfl
  have kX_1 := HX10.out.2 1 _ rfl
  have kY_z := HY10.out.1
  have kY_0 := HY10.out.2 0 _ rfl
  have kY_1 := HY10.out.2 1 _ rfl
  go_wp2_with fail
  clear kX_z kX_0 kX_1
  clear kY_z kY_0 kY_1
  refine (markJ_any _ w3.heap.size AX pn0 cX pz0 AY ln0 cY lz0 1 jX10.out (by omega) (by omega) (by omega)).mono ?_
  rintro e w11 ⟨rfl, J11, b11, kp⟩
  have HX11 := Lib.hid (HX10.out.kept kp (fun h e => by have := HQX.out h _ e; omega) (fun h e => by have := HQY.out h _ e; omega))
  have HY11 := Lib.hid (HY10.out.kept kp (fun h e => by have := HQX.out h _ e; omega) (fun h e => by have := HQY.out h _ e; omega))
  have rP11 := Lib.hid (rP10.out.kept kp (fun b hq hb h e => by have := HQX.out h _ e; have := HQP.out hq b hb; omega) (fun b hq hb h e => by have := HQY.out h _ e; have := HQP.out hq b hb; omega))
  have rL11 := Lib.hid (rL10.out.kept kp (fun b hq hb h e => by have := HQX.out h _ e; have := HQL.out hq b hb; omega) (fun b hq hb h e => by have := HQY.out h _ e; have := HQL.out hq b hb; omega))
  have lM11 := Lib.hid (lM10.out.ofb kp.1 (fun b hb hx => kp.2 b hb (fun h e => by have := HQX.out h _ e; have := HQM.out b hx; omega) (fun h e => by have := HQY.out h _ e; have := HQM.out b hx; omega)))
  have lG11 := Lib.hid (lG10.out.ofb kp.1 (fun b hb hx => kp.2 b hb (fun h e => by have := HQX.out h _ e; have := HQG.out b hx; omega) (fun h e => by have := HQY.out h _ e; have := HQG.out b hx; omega)))
  have HB11 := Lib.hid (HB10.out.trans (b11.mono (by omega)))
  have z11 := b11.size
  clear HB10 HX10 HY10 rP10 rL10 jX10 lM10 lG10 J11 b11 kp
  have kX_z := HX11.out.1
  have kX_0 := HX11.out.2 0 _ rfl
  have kX_1 := HX11.out.2 1 _ rfl
  have kY_z := HY11.out.1
  have kY_0 := HY11.out.2 0 _ rfl
  have kY_1 := HY11.out.2 1 _ rfl
  go_wp2_with fail
  refine (eqSS_same _ w5.heap.size w2.heap.size AG AM n cG cM PG PM N CG CM F lG11.out lM11.out).mono ?_
  rintro e w12 ⟨rfl, bT⟩
  have HX12 := Lib.hid (HX11.out.below bT HX11.out.1)
  have HY12 := Lib.hid (HY11.out.below bT HY11.out.1)
  have rP12 := Lib.hid (rP11.out.below bT (Nat.le_refl _))
  have rL12 := Lib.hid (rL11.out.below bT (Nat.le_refl _))
  have lM12 := Lib.hid (lM11.out.below bT (Nat.le_refl _))
  have lG12 := Lib.hid (lG11.out.below bT (Nat.le_refl _))
  have HB12 := Lib.hid (HB11.out.trans (bT.mono HB11.out.size))
  have z12 := (bT).size
  clear HB11 HX11 HY11 rP11 rL11 lM11 lG11 bT
  clear kX_z kX_0 kX_1 kY_z kY_0 kY_1
  go_wp2_with fail
  refine (markSS_any _ w5.heap.size AG n cG PG N CG F 1 lG12.out (by omega) (by omega) (by omega)).mono ?_
  rintro e w13 ⟨rfl, J13, b13⟩
  have HX13 := Lib.hid (HX12.out.below b13 (by omega))
  have HY13 := Lib.hid (HY12.out.below b13 (by omega))
  have rP13 := Lib.hid (rP12.out.ofb b13.size (fun hn b e hb => b13.block b (by have := HQP.out hn b e; omega)))
  have rL13 := Lib.hid (rL12.out.ofb b13.size (fun hn b e hb => b13.block b (by have := HQL.out hn b e; omega)))
  have lM13 := Lib.hid (lM12.out.ofb b13.size (fun b hb hx => b13.block b (by have := HQM.out b hx; omega)))
  have HB13 := Lib.hid (HB12.out.trans (b13.mono (by omega)))
  have z13 := b13.size
  have lG13 := Lib.hid J13
  clear HB12 HX12 HY12 rP12 rL12 lM12 lG12 J13 b13
  go_wp2_with fail
  refine (heldSS_any _ w5.heap.size AG n cG PG N CG 1 lG13.out (by omega) (by omega)).mono ?_
  rintro e w14 ⟨rfl, bT⟩
  have HX14 := Lib.hid (HX13.out.below bT HX13.out.1)
  have HY14 := Lib.hid (HY13.out.below bT HY13.out.1)
  have rP14 := Lib.hid (rP13.out.below bT (Nat.le_refl _))
  have rL14 := Lib.hid (rL13.out.below bT (Nat.le_refl _))
  have lM14 := Lib.hid (lM13.out.below bT (Nat.le_refl _))
  have lG14 := Lib.hid (lG13.out.below bT (Nat.le_refl _))
  have HB14 := Lib.hid (HB13.out.trans (bT.mono HB13.out.size))
  have z14 := (bT).size
  clear HB13 HX13 HY13 rP13 rL13 lM13 lG13 bT
  have kX_z := HX14.out.1
  have kX_0 := HX14.out.2 0 _ rfl
  have kX_1 := HX14.out.2 1 _ rfl
  have kY_z := HY14.out.1
  have kY_0 := HY14.out.2 0 _ rfl
  have kY_1 := HY14.out.2 1 _ rfl
  go_wp2_with fail
  clear kX_z kX_0 kX_1
  clear kY_z kY_0 kY_1
  refine (toJ_any _ PA0 pn0 pc0 pz0 LA0 ln0 lc0 lz0 rP14.out rL14.out hn20 hm20).mono ?_
  rintro e w15 ⟨AP2, cP2, AL2, cL2, rfl, HJ, bT⟩
  have HX15 := Lib.hid (HX14.out.below bT HX14.out.1)
  have HY15 := Lib.hid (HY14.out.below bT HY14.out.1)
  have rP15 := Lib.hid (rP14.out.below bT (Nat.le_refl _))
  have rL15 := Lib.hid (rL14.out.below bT (Nat.le_refl _))
  have lM15 := Lib.hid (lM14.out.below bT (Nat.le_refl _))
  have lG15 := Lib.hid (lG14.out.below bT (Nat.le_refl _))
  have HB15 := Lib.hid (HB14.out.trans (bT.mono HB14.out.size))
  have z15 := (bT).size
  clear HB14 HX14 HY14 rP14 rL14 lM14 lG14 bT
  have rU15 := Lib.hid HJ.1.row
  have rV15 := Lib.hid HJ.2.1.row
  clear HJ
  go_wp2_with fail
  refine (HI.out _ AP2 cP2 AL2 cL2 rU15.out rV15.out).mono ?_
  rintro e w16 ⟨AH, cH, PH, CH, rfl, J16, bT⟩
  clear rU15 rV15
  have HX16 := Lib.hid (HX15.out.below bT HX15.out.1)
  have HY16 := Lib.hid (HY15.out.below bT HY15.out.1)
  have rP16 := Lib.hid (rP15.out.below bT (Nat.le_refl _))
  have rL16 := Lib.hid (rL15.out.below bT (Nat.le_refl _))
  have lM16 := Lib.hid (lM15.out.below bT (Nat.le_refl _))
  have lG16 := Lib.hid (lG15.out.below bT (Nat.le_refl _))
  have HB16 := Lib.hid (HB15.out.trans (bT.mono HB15.out.size))
  have z16 := (bT).size
  clear HB15 HX15 HY15 rP15 rL15 lM15 lG15 bT
  have lH16 := Lib.hid J16
  clear J16
  go_wp2_with fail
  refine (eqSS_same _ w15.heap.size w2.heap.size AH AM n cH cM PH PM N CH CM F lH16.out lM16.out).mono ?_
  rintro e w17 ⟨rfl, bT⟩
  have HX17 := Lib.hid (HX16.out.below bT HX16.out.1)
  have HY17 := Lib.hid (HY16.out.below bT HY16.out.1)
  have rP17 := Lib.hid (rP16.out.below bT (Nat.le_refl _))
  have rL17 := Lib.hid (rL16.out.below bT (Nat.le_refl _))
  have lM17 := Lib.hid (lM16.out.below bT (Nat.le_refl _))
  have lG17 := Lib.hid (lG16.out.below bT (Nat.le_refl _))
  have lH17 := Lib.hid (lH16.out.below bT (Nat.le_refl _))
  have HB17 := Lib.hid (HB16.out.trans (bT.mono HB16.out.size))
  have z17 := (bT).size
  clear HB16 HX16 HY16 rP16 rL16 lM16 lG16 lH16 bT
  go_wp2_with fail
  refine (heldSS_any _ w5.heap.size AG n cG PG N CG 1 lG17.out (by omega) (by omega)).mono ?_
  rintro e w18 ⟨rfl, bT⟩
  have HF := Lib.hid (HB17.out.trans (bT.mono HB17.out.size))
  go_wp2
  go_ret
  exact ⟨rfl, HF.out⟩

theorem walk (w : World) (PA0 : Option Addr) (pn0 pc0 : Nat) (pz0 : Nat → Int) (LA0 : Option Addr) (ln0 lc0 : Nat) (lz0 : Nat → Int) (pr0 : Row .i64 w PA0 pn0 pc0 pz0) (lr0 : Row .i64 w LA0 ln0 lc0 lz0) :
    Calls Try.prog 6 #[.agg #[.slice PA0 pn0 pc0, .slice LA0 ln0 lc0]] w fun e w' => e = .returned (.bool true) ∧ Below w.heap.size w w' := by
  have hnp : pn0 ≤ 9223372036854775807 := by have := pr0.1; have := pr0.2.1; unfold maxLen at this; omega
  have hnl : ln0 ≤ 9223372036854775807 := by have := lr0.1; have := lr0.2.1; unfold maxLen at this; omega
  by_cases hs : (pn0 : Int) + ln0 ≤ 1048576
  · cases hv : vjB pn0 pz0 ln0 lz0
    · exact core w PA0 pn0 pc0 pz0 LA0 ln0 lc0 lz0 0 (fun _ => 0) (fun _ _ => 0) 1 (by show 0 ≤ 1048576; omega) pr0 lr0 hs (Lib.hid fun w A c B d h h' => (spec_groups_bad w A pn0 c pz0 B ln0 d lz0 h h' hv).mono fun _ _ ⟨e, b⟩ => ⟨none, 0, _, _, e, lown_nil _ _ _ _, b⟩) (Lib.hid fun w A c B d h h' => (impl_groups_bad w A pn0 c pz0 B ln0 d lz0 h h' hv).mono fun _ _ ⟨e, b⟩ => ⟨none, 0, _, _, e, lown_nil _ _ _ _, b⟩)
    · have hn2 := (vj_yes hv).n2
      have hlen := gs_len (rt := fun k => upN pz0 ln0 k) pn0
      have hmem := gs_mem (rt := fun k => upN pz0 ln0 k) pn0
      have hwf : ∀ l ∈ (gs (fun k => upN pz0 ln0 k) pn0).2, ∀ x ∈ l, (Lit.int .i64 x).wf = true := fun l hl x hx => by
        have := (hmem l hl).2 x hx
        exact WalkArith.wf_i64 (by omega)
      refine core w PA0 pn0 pc0 pz0 LA0 ln0 lc0 lz0 _ _ _ 0 ?_ pr0 lr0 hs (Lib.hid fun w A c B d h h' => (spec_groups_ok w A pn0 c pz0 B ln0 d lz0 (fun k => upN pz0 ln0 k) (fun _ => rfl) h h' hv).mono fun _ _ h => h.out hwf) (Lib.hid fun w A c B d h h' => (impl_groups_ok w A pn0 c pz0 B ln0 d lz0 (fun k => upN pz0 ln0 k) (fun _ => rfl) h h' hv).mono fun _ _ h => h.out hwf)
      have h1 := offs_le (N := fun i => ((gs (fun k => upN pz0 ln0 k) pn0).2.getD i []).length) (B := 256) (gs (fun k => upN pz0 ln0 k) pn0).2.length (fun i hi => by
        have h2 : (gs (fun k => upN pz0 ln0 k) pn0).2.getD i [] ∈ (gs (fun k => upN pz0 ln0 k) pn0).2 := by
          rw [List.getD_eq_getElem?_getD, List.getElem?_eq_getElem hi]
          exact List.getElem_mem hi
        have := (hmem _ h2).1
        omega)
      have h3 : (gs (fun k => upN pz0 ln0 k) pn0).2.length * 256 ≤ 256 * 256 := Nat.mul_le_mul_right _ (by omega)
      omega
  · have hs : 1048576 < (pn0 : Int) + ln0 := by omega
    go_enter Try.func6, Try.ntmps6
    go_wp2_with fail
    refine (szJ_no _ PA0 LA0 pn0 pc0 ln0 lc0 1048576 (by omega) (by omega) hnp hnl hs).mono ?_
    rintro e w1 ⟨rfl, b1⟩
    go_wp2
    go_ret
    exact ⟨rfl, Below.trans (show Below w.heap.size w (w.alloc (.cells #[.slice PA0 pn0 pc0, .slice LA0 ln0 lc0] 40)) from ((Below.refl w.heap.size w).alloc (by simp) _)) (b1.mono (by first | (simp; done) | (simp; omega)))⟩

set_option maxRecDepth 100000 in
theorem lifted (os : Os) (started : os.Started) (H : Type) (enc : TypeId × Value → H) :
    ReturnsInHanded {} Try.checked os 6 .any (Rows.fnExactGroupsOfSpec.pre6 enc Try.prog Try.f6 Rows.fnExactGroupsOfRow.domain false) (Rows.fnExactGroupsOfSpec.post enc Try.prog Try.f6 false true false false) := by
  refine returnsInHanded_of_change (C := Try.checked) own started (by kernel_rfl) Try.func6
    (ChangeSpec.witness6 (enc := enc) (C := Try.checked) false ⟨#[], #[.agg #[.slice none 0 0, .slice none 0 0]], []⟩ 8 (by kernel_rfl) (by kernel_rfl) (by kernel_rfl) (by kernel_rfl)) ?_
  intro W base args ds gs before hval0 hW hcnd _
  have hval : ∀ (j : Nat) t v, Try.f6.params[j]? = some t → args[j]? = some v → Value.okWide Try.prog W .any base t v := hval0
  have hW' := hW
  obtain ⟨p, q, hA0, hV, rfl, hfz, hnd⟩ := hW
  have hA : DataW.TrodAll enc Try.prog W 0 (fun _ => true) true Try.f6.params.toList args.toList ds p := hA0
  rw [Try.params6] at hA hval
  obtain ⟨v0, vs0, d0, ds0, p0, q0, hargs, rfl, rfl, h0, tl0⟩ := trodAll_cons hA
  obtain ⟨rfl, rfl, rfl⟩ := trodAll_nil tl0
  obtain rfl : args = #[v0] := by cases args; simp_all
  obtain ⟨rfl, rfl⟩ := trodVars_none hV
  have k0 := h0
  have lt0 : ∀ x ∈ p0, x.block < W.heap.size := by obtain ⟨m, hm⟩ := k0; exact DataW.trod_lt m _ _ _ hm
  obtain ⟨u00, u01, y00, y01, m0, rfl, rfl, hp0, g00, g01⟩ := open_agg2 Try.underlying40 (by kernel_rfl) (by kernel_rfl) (hval 0 40 v0 rfl rfl) h0
  obtain ⟨PA0, pn0, pc0, pz0, e00, pr0⟩ := row_of Try.underlying24 Try.underlying2 (by kernel_rfl) g00 (fun x hx => lt0 x (by rw [hp0]; simp [hx]))
  simp at e00
  subst e00
  obtain ⟨LA0, ln0, lc0, lz0, e01, lr0⟩ := row_of Try.underlying24 Try.underlying2 (by kernel_rfl) g01 (fun x hx => lt0 x (by rw [hp0]; simp [hx]))
  simp at e01
  subst e01
  clear hA0 hval0
  refine (walk W PA0 pn0 pc0 pz0 LA0 ln0 lc0 lz0 pr0 lr0).mono fun e W' ⟨he, bel⟩ => ?_
  subst he
  exact ⟨_, rfl, _, _, _, [], _, [], hW', trodAll_mk1 (shut_bool Try.underlying4 _), (trodAll_cons_mk (Below.trod laidOut (by kernel_rfl) (of_decide_eq_true (by kernel_rfl)) k0 bel lt0) trodAll_mk0), rfl, bel.frame _, fun h => by cases h⟩

theorem over : Rows.fnExactGroupsOfRow.holds Try.pinned (OpenSpec.ofChange Rows.fnExactGroupsOfSpec) :=
  OpenClaim.holds_of_wide 6 Try.f6 rfl rfl rfl rfl rfl rfl rfl ⟨rfl, rfl, rfl, rfl, rfl⟩ rfl rfl rfl rfl rfl (by kernel_rfl) Try.func6 (by kernel_rfl)
    (of_decide_eq_true (by kernel_rfl)) (by unfold Func.isWrapper; first | (rw [if_pos (by decide +kernel)]; kernel_rfl) | (rw [if_neg (by decide +kernel)]; exact ⟨rfl, rfl⟩))
    (fun os started H enc _ => lifted os started H enc)

theorem proved : Rows.FnExactGroupsOfSaid := over
#print axioms proved
end Go.Proofs.Ytneknajeecgnoaa.fnExactGroupsOf
