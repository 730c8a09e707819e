/- Proved: whatever joined elements (of at most 2^20 numbers; for more the law answers true at once), valid or not, UndoJoin of the program is called with, it answers as the model, every field, and changes nothing; the memory of its lists is its own. No condition. -/
import Derived.Test.YtneknajeecgnoaaRows
import Derived.Test.YtneknajeecgnoaaBase
import Derived.Test.YtneknajeecgnoaaJn
import Derived.Test.YtneknajeecgnoaaUdl
import Derived.Test.YtneknajeecgnoaaUdm
import Derived.WalkKit
import Derived.ProofKit
import Derived.OpenShut
import Derived.ShutString
import Derived.ChangeOld
import Derived.Below
import Derived.Lib.SmallJoins
namespace Go.Proofs.Ytneknajeecgnoaa.fnExactUndoJoin
open Go.ChangeShapes Go.WideShapes Go.ChangeAt Go.RowKit Go.Joins
open Go.ChangeMaps (open_string shut_string)
open Go.Proofs.Ytneknajeecgnoaa.Base
set_option linter.unusedVariables false
theorem own : ownKnob Try.prog.godebug = none := by kernel_rfl
theorem laidOut : laidOutB Try.prog = true := by kernel_rfl

set_option maxHeartbeats 4000000 in
theorem core (w : World) (PA0 : Option Addr) (pn0 pc0 : Nat) (pz0 : Nat → Int) (LA0 : Option Addr) (ln0 lc0 : Nat) (lz0 : Nat → Int) (n : Nat) (f : Nat → Int) (m : Nat) (g : Nat → Int) (code : Int) (hn : n ≤ 1048576) (hm : m ≤ 1048576)
    (pr0 : Row .i64 w PA0 pn0 pc0 pz0) (lr0 : Row .i64 w LA0 ln0 lc0 lz0) (hs : (pn0 : Int) + ln0 ≤ 1048576)
    (HS : Hid (∀ (w : World) (A : Option Addr) (c : Nat) (B : Option Addr) (d : Nat), Row .i64 w A pn0 c pz0 → Row .i64 w B ln0 d lz0 → Calls Try.prog 23 #[.agg #[.slice A pn0 c, .slice B ln0 d]] w (JnOut n f m g code w)))
    (HI : Hid (∀ (w : World) (A : Option Addr) (c : Nat) (B : Option Addr) (d : Nat), Row .i64 w A pn0 c pz0 → Row .i64 w B ln0 d lz0 → Calls Try.prog 21 #[.agg #[.slice A pn0 c, .slice B ln0 d]] w (JnOut n f m g code w))) :
    Calls Try.prog 4 #[.agg #[.slice PA0 pn0 pc0, .slice LA0 ln0 lc0]] w fun e w' => e = .returned (.bool true) ∧ Below w.heap.size w w' := by
  have hcd : (code != code) = false := by simp
  have hmk : ((1 + (n : Int) + (m : Int)) != (1 + (n : Int) + (m : Int))) = false := by simp
  have HP := Lib.hid pr0
  have HL := Lib.hid lr0
  have HQP := Lib.hid (row_blk pr0)
  have HQL := Lib.hid (row_blk lr0)
  clear pr0 lr0
  have hn20 : pn0 ≤ 1048576 := by omega
  have hm20 : ln0 ≤ 1048576 := by omega
  go_enter Try.func4, Try.ntmps4
  go_wp2_with fail
  refine (szJ_yes _ PA0 LA0 pn0 pc0 ln0 lc0 1048576 (by omega) (by omega) hs).mono ?_
  rintro e w1 ⟨rfl, b1⟩
  have HB1 := Lib.hid (Below.trans (show Below w.heap.size w (w.alloc (.cells #[.slice PA0 pn0 pc0, .slice LA0 ln0 lc0] 40)) from ((Below.refl w.heap.size w).alloc (by simp) _)) (b1.mono (by first | (simp; done) | (simp; omega))))
  have HX1 : Hid (Cel w1 (w.heap.size) [.slice PA0 pn0 pc0, .slice LA0 ln0 lc0]) := Lib.hid (by have h := ((Cel.new w [.slice PA0 pn0 pc0, .slice LA0 ln0 lc0] 40).below b1 (by first | (simp; done) | (simp; omega))); simpa using h)
  have rP1 := Lib.hid (HP.out.below HB1.out (Nat.le_refl _))
  have rL1 := Lib.hid (HL.out.below HB1.out (Nat.le_refl _))
  have z1 := HX1.out.1
  clear b1 HP HL
  have kX_z := HX1.out.1
  have kX_0 := HX1.out.2 0 _ rfl
  have kX_1 := HX1.out.2 1 _ rfl
  go_wp2_with fail
  clear kX_z kX_0 kX_1
  refine (toJ_any _ PA0 pn0 pc0 pz0 LA0 ln0 lc0 lz0 rP1.out rL1.out hn20 hm20).mono ?_
  rintro e w2 ⟨AP, cP, AL, cL, rfl, HJ, bT⟩
  have HX2 := Lib.hid (HX1.out.below bT HX1.out.1)
  have rP2 := Lib.hid (rP1.out.below bT (Nat.le_refl _))
  have rL2 := Lib.hid (rL1.out.below bT (Nat.le_refl _))
  have HB2 := Lib.hid (HB1.out.trans (bT.mono HB1.out.size))
  have z2 := (bT).size
  clear HB1 HX1 rP1 rL1 bT
  have rU2 := Lib.hid HJ.1.row
  have rV2 := Lib.hid HJ.2.1.row
  clear HJ
  go_wp2_with fail
  refine (HS.out _ AP cP AL cL rU2.out rV2.out).mono ?_
  rintro e w3 ⟨AM, cM, BM, dM, rfl, J3, bT⟩
  clear rU2 rV2
  have HX3 := Lib.hid (HX2.out.below bT HX2.out.1)
  have rP3 := Lib.hid (rP2.out.below bT (Nat.le_refl _))
  have rL3 := Lib.hid (rL2.out.below bT (Nat.le_refl _))
  have HB3 := Lib.hid (HB2.out.trans (bT.mono HB2.out.size))
  have z3 := (bT).size
  clear HB2 HX2 rP2 rL2 bT
  have rM3 := Lib.hid J3.1.row
  have rN3 := Lib.hid J3.2.1.row
  have HQM := Lib.hid (row_blk rM3.out)
  have HQN := Lib.hid (row_blk rN3.out)
  clear J3
  have bN := (Below.refl w3.heap.size w3).alloc (Nat.le_refl _) (.cells #[.slice AM n cM, .slice BM m dM] 26)
  have HW4 := Lib.hid (Cel.new w3 [.slice AM n cM, .slice BM m dM] 26)
  have zz4 : w3.heap.size + 1 ≤ (w3.alloc (.cells #[.slice AM n cM, .slice BM m dM] 26)).heap.size := by simp
  have HX4 := Lib.hid (HX3.out.below bN HX3.out.1)
  have rP4 := Lib.hid (rP3.out.below bN (Nat.le_refl _))
  have rL4 := Lib.hid (rL3.out.below bN (Nat.le_refl _))
  have rM4 := Lib.hid (rM3.out.below bN (Nat.le_refl _))
  have rN4 := Lib.hid (rN3.out.below bN (Nat.le_refl _))
  have HB4 := Lib.hid (HB3.out.trans (bN.mono HB3.out.size))
  have z4 := (bN).size
  clear HB3 HX3 rP3 rL3 rM3 rN3 bN
  have kX_z := HX4.out.1
  have kX_0 := HX4.out.2 0 _ rfl
  have kX_1 := HX4.out.2 1 _ rfl
  go_wp2_with fail
  clear kX_z kX_0 kX_1
  generalize w3.alloc (.cells #[.slice AM n cM, .slice BM m dM] 26) = w4 at *
  generalize hbeW : w3.heap.size = bW at *
  clear hbeW
  refine (toJ_any _ PA0 pn0 pc0 pz0 LA0 ln0 lc0 lz0 rP4.out rL4.out hn20 hm20).mono ?_
  rintro e w5 ⟨AX, cX, AY, cY, rfl, HJ, bT⟩
  have HX5 := Lib.hid (HX4.out.below bT HX4.out.1)
  have HW5 := Lib.hid (HW4.out.below bT HW4.out.1)
  have rP5 := Lib.hid (rP4.out.below bT (Nat.le_refl _))
  have rL5 := Lib.hid (rL4.out.below bT (Nat.le_refl _))
  have rM5 := Lib.hid (rM4.out.below bT (Nat.le_refl _))
  have rN5 := Lib.hid (rN4.out.below bT (Nat.le_refl _))
  have HB5 := Lib.hid (HB4.out.trans (bT.mono HB4.out.size))
  have z5 := (bT).size
  clear HB4 HX4 HW4 rP4 rL4 rM4 rN4 bT
  have HQX := Lib.hid (show 0 < pn0 → ∀ b, blk AX = some b → w4.heap.size ≤ b ∧ b < w5.heap.size from fun h b hb => HJ.1.base_lt h b hb)
  have HQY := Lib.hid (show 0 < ln0 → ∀ b, blk AY = some b → w4.heap.size ≤ b ∧ b < w5.heap.size from fun h b hb => HJ.2.1.base_lt h b hb)
  have jX5 := Lib.hid HJ
  clear HJ
  have bN := (Below.refl w5.heap.size w5).alloc (Nat.le_refl _) (.cells #[.slice AX pn0 cX, .slice AY ln0 cY] 26)
  have HY6 := Lib.hid (Cel.new w5 [.slice AX pn0 cX, .slice AY ln0 cY] 26)
  have zz6 : w5.heap.size + 1 ≤ (w5.alloc (.cells #[.slice AX pn0 cX, .slice AY ln0 cY] 26)).heap.size := by simp
  have HX6 := Lib.hid (HX5.out.below bN HX5.out.1)
  have HW6 := Lib.hid (HW5.out.below bN HW5.out.1)
  have rP6 := Lib.hid (rP5.out.below bN (Nat.le_refl _))
  have rL6 := Lib.hid (rL5.out.below bN (Nat.le_refl _))
  have rM6 := Lib.hid (rM5.out.below bN (Nat.le_refl _))
  have rN6 := Lib.hid (rN5.out.below bN (Nat.le_refl _))
  have jX6 := Lib.hid (jX5.out.below bN (Nat.le_refl _))
  have HB6 := Lib.hid (HB5.out.trans (bN.mono HB5.out.size))
  have z6 := (bN).size
  clear HB5 HX5 HW5 rP5 rL5 rM5 rN5 jX5 bN
  have kY_z := HY6.out.1
  have kY_0 := HY6.out.2 0 _ rfl
  have kY_1 := HY6.out.2 1 _ rfl
  go_wp2_with fail
  clear kY_z kY_0 kY_1
  generalize w5.alloc (.cells #[.slice AX pn0 cX, .slice AY ln0 cY] 26) = w6 at *
  generalize hbeY : w5.heap.size = bY at *
  clear hbeY
  refine (HI.out _ AX cX AY cY jX6.out.1.row jX6.out.2.1.row).mono ?_
  rintro e w7 ⟨AG, cG, BG, dG, rfl, J7, bT⟩
  have HX7 := Lib.hid (HX6.out.below bT HX6.out.1)
  have HW7 := Lib.hid (HW6.out.below bT HW6.out.1)
  have HY7 := Lib.hid (HY6.out.below bT HY6.out.1)
  have rP7 := Lib.hid (rP6.out.below bT (Nat.le_refl _))
  have rL7 := Lib.hid (rL6.out.below bT (Nat.le_refl _))
  have rM7 := Lib.hid (rM6.out.below bT (Nat.le_refl _))
  have rN7 := Lib.hid (rN6.out.below bT (Nat.le_refl _))
  have jX7 := Lib.hid (jX6.out.below bT (Nat.le_refl _))
  have HB7 := Lib.hid (HB6.out.trans (bT.mono HB6.out.size))
  have z7 := (bT).size
  clear HB6 HX6 HW6 HY6 rP6 rL6 rM6 rN6 jX6 bT
  have HQG := Lib.hid (show 0 < n → ∀ b, blk AG = some b → w6.heap.size ≤ b ∧ b < w7.heap.size from fun h b hb => J7.1.base_lt h b hb)
  have HQH := Lib.hid (show 0 < m → ∀ b, blk BG = some b → w6.heap.size ≤ b ∧ b < w7.heap.size from fun h b hb => J7.2.1.base_lt h b hb)
  have jG7 := Lib.hid J7
  clear J7
  have bN := (Below.refl w7.heap.size w7).alloc (Nat.le_refl _) (.cells #[.slice AG n cG, .slice BG m dG] 26)
  have HG8 := Lib.hid (Cel.new w7 [.slice AG n cG, .slice BG m dG] 26)
  have zz8 : w7.heap.size + 1 ≤ (w7.alloc (.cells #[.slice AG n cG, .slice BG m dG] 26)).heap.size := by simp
  have HX8 := Lib.hid (HX7.out.below bN HX7.out.1)
  have HW8 := Lib.hid (HW7.out.below bN HW7.out.1)
  have HY8 := Lib.hid (HY7.out.below bN HY7.out.1)
  have rP8 := Lib.hid (rP7.out.below bN (Nat.le_refl _))
  have rL8 := Lib.hid (rL7.out.below bN (Nat.le_refl _))
  have rM8 := Lib.hid (rM7.out.below bN (Nat.le_refl _))
  have rN8 := Lib.hid (rN7.out.below bN (Nat.le_refl _))
  have jX8 := Lib.hid (jX7.out.below bN (Nat.le_refl _))
  have jG8 := Lib.hid (jG7.out.below bN (Nat.le_refl _))
  have HB8 := Lib.hid (HB7.out.trans (bN.mono HB7.out.size))
  have z8 := (bN).size
  clear HB7 HX7 HW7 HY7 rP7 rL7 rM7 rN7 jX7 jG7 bN
  have kW_z := HW8.out.1
  have kW_0 := HW8.out.2 0 _ rfl
  have kW_1 := HW8.out.2 1 _ rfl
  have kG_z := HG8.out.1
  have kG_0 := HG8.out.2 0 _ rfl
  have kG_1 := HG8.out.2 1 _ rfl
  go_wp2_with fail
  clear kW_z kW_0 kW_1
  clear kG_z kG_0 kG_1
  generalize w7.alloc (.cells #[.slice AG n cG, .slice BG m dG] 26) = w8 at *
  generalize hbeG : w7.heap.size = bG at *
  clear hbeG
  refine (eqJ_same _ AG AM BG BM n cG cM m dG dM f g jG8.out.1.row rM8.out jG8.out.2.1.row rN8.out).mono ?_
  rintro e w9 ⟨rfl, bT⟩
  have HX9 := Lib.hid (HX8.out.below bT HX8.out.1)
  have HW9 := Lib.hid (HW8.out.below bT HW8.out.1)
  have HY9 := Lib.hid (HY8.out.below bT HY8.out.1)
  have HG9 := Lib.hid (HG8.out.below bT HG8.out.1)
  have rP9 := Lib.hid (rP8.out.below bT (Nat.le_refl _))
  have rL9 := Lib.hid (rL8.out.below bT (Nat.le_refl _))
  have rM9 := Lib.hid (rM8.out.below bT (Nat.le_refl _))
  have rN9 := Lib.hid (rN8.out.below bT (Nat.le_refl _))
  have jX9 := Lib.hid (jX8.out.below bT (Nat.le_refl _))
  have jG9 := Lib.hid (jG8.out.below bT (Nat.le_refl _))
  have HB9 := Lib.hid (HB8.out.trans (bT.mono HB8.out.size))
  have z9 := (bT).size
  clear HB8 HX8 HW8 HY8 HG8 rP8 rL8 rM8 rN8 jX8 jG8 bT
  have kX_z := HX9.out.1
  have kX_0 := HX9.out.2 0 _ rfl
  have kX_1 := HX9.out.2 1 _ rfl
  have kW_z := HW9.out.1
  have kW_0 := HW9.out.2 0 _ rfl
  have kW_1 := HW9.out.2 1 _ rfl
  have kY_z := HY9.out.1
  have kY_0 := HY9.out.2 0 _ rfl
  have kY_1 := HY9.out.2 1 _ rfl
  have kG_z := HG9.out.1
  have kG_0 := HG9.out.2 0 _ rfl
  have kG_1 := HG9.out.2 1 _ rfl
  have OL := Lib.hid (Old.mk_ (Below.refl w9.heap.size w9).drew)
  go_wp2_with fail
  go_region_held3 (fun w' => (∀ b o, b < (w9).heap.size → w'.cell? ⟨b, o, none⟩ = (w9).cell? ⟨b, o, none⟩) ∧ Below (w9).heap.size (w9) w')
    (first | assumption | exact OL.out | exact Old.trans (by assumption) (by assumption))
    (first | (go_at_call 24; refine (toJ_any _ PA0 pn0 pc0 pz0 LA0 ln0 lc0 lz0 ?_ ?_ hn20 hm20).mono ?_; exact rP9.out.old (by assumption); exact rL9.out.old (by assumption); rintro e w10a ⟨AZ, cZ, AW, cW, rfl, HJ, b7⟩) | (go_at_call 25; refine (eqJ_same _ _ _ _ _ pn0 _ _ ln0 _ _ pz0 lz0 ?_ ?_ ?_ ?_).mono ?_; exact jX9.out.1.row.old (by assumption); exact HJ.1.row; exact jX9.out.2.1.row.old (by assumption); exact HJ.2.1.row; rintro e w10b ⟨rfl, b8⟩))
  clear kX_z kX_0 kX_1
  clear kW_z kW_0 kW_1
  clear kY_z kY_0 kY_1
  clear kG_z kG_0 kG_1
  rename_i hS
  have bT := hS.2
  obtain ⟨w10, rfl⟩ : ∃ w' : World, w' = w10b := ⟨_, rfl⟩
  clear hS OL HJ b7 b8
  have HX10 := Lib.hid (HX9.out.below bT HX9.out.1)
  have HW10 := Lib.hid (HW9.out.below bT HW9.out.1)
  have HY10 := Lib.hid (HY9.out.below bT HY9.out.1)
  have HG10 := Lib.hid (HG9.out.below bT HG9.out.1)
  have rP10 := Lib.hid (rP9.out.below bT (Nat.le_refl _))
  have rL10 := Lib.hid (rL9.out.below bT (Nat.le_refl _))
  have rM10 := Lib.hid (rM9.out.below bT (Nat.le_refl _))
  have rN10 := Lib.hid (rN9.out.below bT (Nat.le_refl _))
  have jX10 := Lib.hid (jX9.out.below bT (Nat.le_refl _))
  have jG10 := Lib.hid (jG9.out.below bT (Nat.le_refl _))
  have HB10 := Lib.hid (HB9.out.trans (bT.mono HB9.out.size))
  have z10 := (bT).size
  clear HB9 HX9 HW9 HY9 HG9 rP9 rL9 rM9 rN9 jX9 jG9 bT
  have kX_z := HX10.out.1
  have kX_0 := HX10.out.2 0 _ rfl
  have kX_1 := HX10.out.2 1 _ rfl
  have kW_z := HW10.out.1
  have kW_0 := HW10.out.2 0 _ rfl
  have kW_1 := HW10.out.2 1 _ rfl
  have kY_z := HY10.out.1
  have kY_0 := HY10.out.2 0 _ rfl
  have kY_1 := HY10.out.2 1 _ rfl
  have kG_z := HG10.out.1
  have kG_0 := HG10.out.2 0 _ rfl
  have kG_1 := HG10.out.2 1 _ rfl
  go_wp2_with fail
  clear kX_z kX_0 kX_1
  clear kW_z kW_0 kW_1
  clear kY_z kY_0 kY_1
  clear kG_z kG_0 kG_1
  refine (markJ_any _ w4.heap.size AX pn0 cX pz0 AY ln0 cY lz0 1 jX10.out (by omega) (by omega) (by omega)).mono ?_
  rintro e w11 ⟨rfl, J11, b11, kp⟩
  have HX11 := Lib.hid (HX10.out.kept kp (fun h e => by have := HQX.out h _ e; omega) (fun h e => by have := HQY.out h _ e; omega))
  have HW11 := Lib.hid (HW10.out.kept kp (fun h e => by have := HQX.out h _ e; omega) (fun h e => by have := HQY.out h _ e; omega))
  have HY11 := Lib.hid (HY10.out.kept kp (fun h e => by have := HQX.out h _ e; omega) (fun h e => by have := HQY.out h _ e; omega))
  have HG11 := Lib.hid (HG10.out.kept kp (fun h e => by have := HQX.out h _ e; omega) (fun h e => by have := HQY.out h _ e; omega))
  have rP11 := Lib.hid (rP10.out.kept kp (fun b hq hb h e => by have := HQX.out h _ e; have := HQP.out hq b hb; omega) (fun b hq hb h e => by have := HQY.out h _ e; have := HQP.out hq b hb; omega))
  have rL11 := Lib.hid (rL10.out.kept kp (fun b hq hb h e => by have := HQX.out h _ e; have := HQL.out hq b hb; omega) (fun b hq hb h e => by have := HQY.out h _ e; have := HQL.out hq b hb; omega))
  have rM11 := Lib.hid (rM10.out.kept kp (fun b hq hb h e => by have := HQX.out h _ e; have := HQM.out hq b hb; omega) (fun b hq hb h e => by have := HQY.out h _ e; have := HQM.out hq b hb; omega))
  have rN11 := Lib.hid (rN10.out.kept kp (fun b hq hb h e => by have := HQX.out h _ e; have := HQN.out hq b hb; omega) (fun b hq hb h e => by have := HQY.out h _ e; have := HQN.out hq b hb; omega))
  have jG11 := Lib.hid (jG10.out.kept kp (fun b hb h e => by have := HQX.out h _ e; omega) (fun b hb h e => by have := HQY.out h _ e; omega))
  have HB11 := Lib.hid (HB10.out.trans (b11.mono (by omega)))
  have z11 := b11.size
  clear HB10 HX10 HW10 HY10 HG10 rP10 rL10 rM10 rN10 jX10 jG10 J11 b11 kp
  have kX_z := HX11.out.1
  have kX_0 := HX11.out.2 0 _ rfl
  have kX_1 := HX11.out.2 1 _ rfl
  have kW_z := HW11.out.1
  have kW_0 := HW11.out.2 0 _ rfl
  have kW_1 := HW11.out.2 1 _ rfl
  have kY_z := HY11.out.1
  have kY_0 := HY11.out.2 0 _ rfl
  have kY_1 := HY11.out.2 1 _ rfl
  have kG_z := HG11.out.1
  have kG_0 := HG11.out.2 0 _ rfl
  have kG_1 := HG11.out.2 1 _ rfl
  go_wp2_with fail
  clear kX_z kX_0 kX_1
  clear kW_z kW_0 kW_1
  clear kY_z kY_0 kY_1
  clear kG_z kG_0 kG_1
  refine (eqJ_same _ AG AM BG BM n cG cM m dG dM f g jG11.out.1.row rM11.out jG11.out.2.1.row rN11.out).mono ?_
  rintro e w12 ⟨rfl, bT⟩
  have HX12 := Lib.hid (HX11.out.below bT HX11.out.1)
  have HW12 := Lib.hid (HW11.out.below bT HW11.out.1)
  have HY12 := Lib.hid (HY11.out.below bT HY11.out.1)
  have HG12 := Lib.hid (HG11.out.below bT HG11.out.1)
  have rP12 := Lib.hid (rP11.out.below bT (Nat.le_refl _))
  have rL12 := Lib.hid (rL11.out.below bT (Nat.le_refl _))
  have rM12 := Lib.hid (rM11.out.below bT (Nat.le_refl _))
  have rN12 := Lib.hid (rN11.out.below bT (Nat.le_refl _))
  have jG12 := Lib.hid (jG11.out.below bT (Nat.le_refl _))
  have HB12 := Lib.hid (HB11.out.trans (bT.mono HB11.out.size))
  have z12 := (bT).size
  clear HB11 HX11 HW11 HY11 HG11 rP11 rL11 rM11 rN11 jG11 bT
  have kX_z := HX12.out.1
  have kX_0 := HX12.out.2 0 _ rfl
  have kX_1 := HX12.out.2 1 _ rfl
  have kW_z := HW12.out.1
  have kW_0 := HW12.out.2 0 _ rfl
  have kW_1 := HW12.out.2 1 _ rfl
  have kY_z := HY12.out.1
  have kY_0 := HY12.out.2 0 _ rfl
  have kY_1 := HY12.out.2 1 _ rfl
  have kG_z := HG12.out.1
  have kG_0 := HG12.out.2 0 _ rfl
  have kG_1 := HG12.out.2 1 _ rfl
  go_wp2_with fail
  clear kX_z kX_0 kX_1
  clear kW_z kW_0 kW_1
  clear kY_z kY_0 kY_1
  clear kG_z kG_0 kG_1
  refine (markJ_any _ w6.heap.size AG n cG f BG m dG g 1 jG12.out (by omega) (by omega) (by omega)).mono ?_
  rintro e w13 ⟨rfl, J13, b13, kp⟩
  have HX13 := Lib.hid (HX12.out.kept kp (fun h e => by have := HQG.out h _ e; omega) (fun h e => by have := HQH.out h _ e; omega))
  have HW13 := Lib.hid (HW12.out.kept kp (fun h e => by have := HQG.out h _ e; omega) (fun h e => by have := HQH.out h _ e; omega))
  have HY13 := Lib.hid (HY12.out.kept kp (fun h e => by have := HQG.out h _ e; omega) (fun h e => by have := HQH.out h _ e; omega))
  have HG13 := Lib.hid (HG12.out.kept kp (fun h e => by have := HQG.out h _ e; omega) (fun h e => by have := HQH.out h _ e; omega))
  have rP13 := Lib.hid (rP12.out.kept kp (fun b hq hb h e => by have := HQG.out h _ e; have := HQP.out hq b hb; omega) (fun b hq hb h e => by have := HQH.out h _ e; have := HQP.out hq b hb; omega))
  have rL13 := Lib.hid (rL12.out.kept kp (fun b hq hb h e => by have := HQG.out h _ e; have := HQL.out hq b hb; omega) (fun b hq hb h e => by have := HQH.out h _ e; have := HQL.out hq b hb; omega))
  have rM13 := Lib.hid (rM12.out.kept kp (fun b hq hb h e => by have := HQG.out h _ e; have := HQM.out hq b hb; omega) (fun b hq hb h e => by have := HQH.out h _ e; have := HQM.out hq b hb; omega))
  have rN13 := Lib.hid (rN12.out.kept kp (fun b hq hb h e => by have := HQG.out h _ e; have := HQN.out hq b hb; omega) (fun b hq hb h e => by have := HQH.out h _ e; have := HQN.out hq b hb; omega))
  have HB13 := Lib.hid (HB12.out.trans (b13.mono (by omega)))
  have z13 := b13.size
  have jG13 := Lib.hid J13
  clear HB12 HX12 HW12 HY12 HG12 rP12 rL12 rM12 rN12 jG12 J13 b13 kp
  have kX_z := HX13.out.1
  have kX_0 := HX13.out.2 0 _ rfl
  have kX_1 := HX13.out.2 1 _ rfl
  have kW_z := HW13.out.1
  have kW_0 := HW13.out.2 0 _ rfl
  have kW_1 := HW13.out.2 1 _ rfl
  have kY_z := HY13.out.1
  have kY_0 := HY13.out.2 0 _ rfl
  have kY_1 := HY13.out.2 1 _ rfl
  have kG_z := HG13.out.1
  have kG_0 := HG13.out.2 0 _ rfl
  have kG_1 := HG13.out.2 1 _ rfl
  go_wp2_with fail
  clear kX_z kX_0 kX_1
  clear kW_z kW_0 kW_1
  clear kY_z kY_0 kY_1
  clear kG_z kG_0 kG_1
  refine (heldJ_any _ AG n cG BG m dG 1 jG13.out.1.row jG13.out.2.1.row (by omega) (by omega)).mono ?_
  rintro e w14 ⟨rfl, bT⟩
  have HX14 := Lib.hid (HX13.out.below bT HX13.out.1)
  have HW14 := Lib.hid (HW13.out.below bT HW13.out.1)
  have HY14 := Lib.hid (HY13.out.below bT HY13.out.1)
  have HG14 := Lib.hid (HG13.out.below bT HG13.out.1)
  have rP14 := Lib.hid (rP13.out.below bT (Nat.le_refl _))
  have rL14 := Lib.hid (rL13.out.below bT (Nat.le_refl _))
  have rM14 := Lib.hid (rM13.out.below bT (Nat.le_refl _))
  have rN14 := Lib.hid (rN13.out.below bT (Nat.le_refl _))
  have jG14 := Lib.hid (jG13.out.below bT (Nat.le_refl _))
  have HB14 := Lib.hid (HB13.out.trans (bT.mono HB13.out.size))
  have z14 := (bT).size
  clear HB13 HX13 HW13 HY13 HG13 rP13 rL13 rM13 rN13 jG13 bT
  have kX_z := HX14.out.1
  have kX_0 := HX14.out.2 0 _ rfl
  have kX_1 := HX14.out.2 1 _ rfl
  have kW_z := HW14.out.1
  have kW_0 := HW14.out.2 0 _ rfl
  have kW_1 := HW14.out.2 1 _ rfl
  have kY_z := HY14.out.1
  have kY_0 := HY14.out.2 0 _ rfl
  have kY_1 := HY14.out.2 1 _ rfl
  have kG_z := HG14.out.1
  have kG_0 := HG14.out.2 0 _ rfl
  have kG_1 := HG14.out.2 1 _ rfl
  go_wp2_with fail
  clear kX_z kX_0 kX_1
  clear kW_z kW_0 kW_1
  clear kY_z kY_0 kY_1
  clear kG_z kG_0 kG_1
  refine (toJ_any _ PA0 pn0 pc0 pz0 LA0 ln0 lc0 lz0 rP14.out rL14.out hn20 hm20).mono ?_
  rintro e w15 ⟨AP2, cP2, AL2, cL2, rfl, HJ, bT⟩
  have HX15 := Lib.hid (HX14.out.below bT HX14.out.1)
  have HW15 := Lib.hid (HW14.out.below bT HW14.out.1)
  have HY15 := Lib.hid (HY14.out.below bT HY14.out.1)
  have HG15 := Lib.hid (HG14.out.below bT HG14.out.1)
  have rP15 := Lib.hid (rP14.out.below bT (Nat.le_refl _))
  have rL15 := Lib.hid (rL14.out.below bT (Nat.le_refl _))
  have rM15 := Lib.hid (rM14.out.below bT (Nat.le_refl _))
  have rN15 := Lib.hid (rN14.out.below bT (Nat.le_refl _))
  have jG15 := Lib.hid (jG14.out.below bT (Nat.le_refl _))
  have HB15 := Lib.hid (HB14.out.trans (bT.mono HB14.out.size))
  have z15 := (bT).size
  clear HB14 HX14 HW14 HY14 HG14 rP14 rL14 rM14 rN14 jG14 bT
  have rU15 := Lib.hid HJ.1.row
  have rV15 := Lib.hid HJ.2.1.row
  clear HJ
  go_wp2_with fail
  refine (HI.out _ AP2 cP2 AL2 cL2 rU15.out rV15.out).mono ?_
  rintro e w16 ⟨AH, cH, BH, dH, rfl, J16, bT⟩
  clear rU15 rV15
  have HX16 := Lib.hid (HX15.out.below bT HX15.out.1)
  have HW16 := Lib.hid (HW15.out.below bT HW15.out.1)
  have HY16 := Lib.hid (HY15.out.below bT HY15.out.1)
  have HG16 := Lib.hid (HG15.out.below bT HG15.out.1)
  have rP16 := Lib.hid (rP15.out.below bT (Nat.le_refl _))
  have rL16 := Lib.hid (rL15.out.below bT (Nat.le_refl _))
  have rM16 := Lib.hid (rM15.out.below bT (Nat.le_refl _))
  have rN16 := Lib.hid (rN15.out.below bT (Nat.le_refl _))
  have jG16 := Lib.hid (jG15.out.below bT (Nat.le_refl _))
  have HB16 := Lib.hid (HB15.out.trans (bT.mono HB15.out.size))
  have z16 := (bT).size
  clear HB15 HX15 HW15 HY15 HG15 rP15 rL15 rM15 rN15 jG15 bT
  have rU16 := Lib.hid J16.1.row
  have rV16 := Lib.hid J16.2.1.row
  clear J16
  have bN := (Below.refl w16.heap.size w16).alloc (Nat.le_refl _) (.cells #[.slice AH n cH, .slice BH m dH] 26)
  have HH17 := Lib.hid (Cel.new w16 [.slice AH n cH, .slice BH m dH] 26)
  have zz17 : w16.heap.size + 1 ≤ (w16.alloc (.cells #[.slice AH n cH, .slice BH m dH] 26)).heap.size := by simp
  have HX17 := Lib.hid (HX16.out.below bN HX16.out.1)
  have HW17 := Lib.hid (HW16.out.below bN HW16.out.1)
  have HY17 := Lib.hid (HY16.out.below bN HY16.out.1)
  have HG17 := Lib.hid (HG16.out.below bN HG16.out.1)
  have rP17 := Lib.hid (rP16.out.below bN (Nat.le_refl _))
  have rL17 := Lib.hid (rL16.out.below bN (Nat.le_refl _))
  have rM17 := Lib.hid (rM16.out.below bN (Nat.le_refl _))
  have rN17 := Lib.hid (rN16.out.below bN (Nat.le_refl _))
  have rU17 := Lib.hid (rU16.out.below bN (Nat.le_refl _))
  have rV17 := Lib.hid (rV16.out.below bN (Nat.le_refl _))
  have jG17 := Lib.hid (jG16.out.below bN (Nat.le_refl _))
  have HB17 := Lib.hid (HB16.out.trans (bN.mono HB16.out.size))
  have z17 := (bN).size
  clear HB16 HX16 HW16 HY16 HG16 rP16 rL16 rM16 rN16 rU16 rV16 jG16 bN
  have kW_z := HW17.out.1
  have kW_0 := HW17.out.2 0 _ rfl
  have kW_1 := HW17.out.2 1 _ rfl
  have kH_z := HH17.out.1
  have kH_0 := HH17.out.2 0 _ rfl
  have kH_1 := HH17.out.2 1 _ rfl
  go_wp2_with fail
  clear kW_z kW_0 kW_1
  clear kH_z kH_0 kH_1
  generalize w16.alloc (.cells #[.slice AH n cH, .slice BH m dH] 26) = w17 at *
  generalize hbeH : w16.heap.size = bH at *
  clear hbeH
  refine (eqJ_same _ AH AM BH BM n cH cM m dH dM f g rU17.out rM17.out rV17.out rN17.out).mono ?_
  rintro e w18 ⟨rfl, bT⟩
  have HX18 := Lib.hid (HX17.out.below bT HX17.out.1)
  have HW18 := Lib.hid (HW17.out.below bT HW17.out.1)
  have HY18 := Lib.hid (HY17.out.below bT HY17.out.1)
  have HG18 := Lib.hid (HG17.out.below bT HG17.out.1)
  have HH18 := Lib.hid (HH17.out.below bT HH17.out.1)
  have rP18 := Lib.hid (rP17.out.below bT (Nat.le_refl _))
  have rL18 := Lib.hid (rL17.out.below bT (Nat.le_refl _))
  have rM18 := Lib.hid (rM17.out.below bT (Nat.le_refl _))
  have rN18 := Lib.hid (rN17.out.below bT (Nat.le_refl _))
  have rU18 := Lib.hid (rU17.out.below bT (Nat.le_refl _))
  have rV18 := Lib.hid (rV17.out.below bT (Nat.le_refl _))
  have jG18 := Lib.hid (jG17.out.below bT (Nat.le_refl _))
  have HB18 := Lib.hid (HB17.out.trans (bT.mono HB17.out.size))
  have z18 := (bT).size
  clear HB17 HX17 HW17 HY17 HG17 HH17 rP17 rL17 rM17 rN17 rU17 rV17 jG17 bT
  have kX_z := HX18.out.1
  have kX_0 := HX18.out.2 0 _ rfl
  have kX_1 := HX18.out.2 1 _ rfl
  have kW_z := HW18.out.1
  have kW_0 := HW18.out.2 0 _ rfl
  have kW_1 := HW18.out.2 1 _ rfl
  have kY_z := HY18.out.1
  have kY_0 := HY18.out.2 0 _ rfl
  have kY_1 := HY18.out.2 1 _ rfl
  have kG_z := HG18.out.1
  have kG_0 := HG18.out.2 0 _ rfl
  have kG_1 := HG18.out.2 1 _ rfl
  have kH_z := HH18.out.1
  have kH_0 := HH18.out.2 0 _ rfl
  have kH_1 := HH18.out.2 1 _ rfl
  go_wp2_with fail
  clear kX_z kX_0 kX_1
  clear kW_z kW_0 kW_1
  clear kY_z kY_0 kY_1
  clear kG_z kG_0 kG_1
  clear kH_z kH_0 kH_1
  refine (heldJ_any _ AG n cG BG m dG 1 jG18.out.1.row jG18.out.2.1.row (by omega) (by omega)).mono ?_
  rintro e w19 ⟨rfl, bT⟩
  have HF := Lib.hid (HB18.out.trans (bT.mono HB18.out.size))
  go_wp2
  go_ret
  exact ⟨rfl, HF.out⟩

theorem walk (w : World) (PA0 : Option Addr) (pn0 pc0 : Nat) (pz0 : Nat → Int) (LA0 : Option Addr) (ln0 lc0 : Nat) (lz0 : Nat → Int) (pr0 : Row .i64 w PA0 pn0 pc0 pz0) (lr0 : Row .i64 w LA0 ln0 lc0 lz0) :
    Calls Try.prog 4 #[.agg #[.slice PA0 pn0 pc0, .slice LA0 ln0 lc0]] w fun e w' => e = .returned (.bool true) ∧ Below w.heap.size w w' := by
  have hnp : pn0 ≤ 9223372036854775807 := by have := pr0.1; have := pr0.2.1; unfold maxLen at this; omega
  have hnl : ln0 ≤ 9223372036854775807 := by have := lr0.1; have := lr0.2.1; unfold maxLen at this; omega
  by_cases hs : (pn0 : Int) + ln0 ≤ 1048576
  · cases hv : vjB pn0 pz0 ln0 lz0
    · exact core w PA0 pn0 pc0 pz0 LA0 ln0 lc0 lz0 0 pz0 0 lz0 1 (by omega) (by omega) pr0 lr0 hs (Lib.hid fun w A c B d h h' => spec_undo_bad w A pn0 c pz0 B ln0 d lz0 h h' hv) (Lib.hid fun w A c B d h h' => impl_undo_bad w A pn0 c pz0 B ln0 d lz0 h h' hv)
    · by_cases h0 : ln0 = 0
      · exact core w PA0 pn0 pc0 pz0 LA0 ln0 lc0 lz0 0 pz0 0 lz0 6 (by omega) (by omega) pr0 lr0 hs (Lib.hid fun w A c B d h h' => spec_undo_none w A pn0 c pz0 B ln0 d lz0 h h' hv h0) (Lib.hid fun w A c B d h h' => impl_undo_none w A pn0 c pz0 B ln0 d lz0 h h' hv h0)
      · obtain ⟨k, rfl⟩ : ∃ k, ln0 = k + 1 := ⟨ln0 - 1, by omega⟩
        have hg := ((vj_yes hv).logs k (by omega)).1
        obtain ⟨z, hz⟩ : ∃ z : Nat, lz0 k = z := ⟨(lz0 k).toNat, by omega⟩
        exact core w PA0 pn0 pc0 pz0 LA0 (k + 1) lc0 lz0 pn0 (putF pz0 z z) k lz0 0 (by omega) (by omega) pr0 lr0 hs (Lib.hid fun w A c B d h h' => spec_undo_ok w A pn0 c pz0 B k d lz0 z h h' hv hz) (Lib.hid fun w A c B d h h' => impl_undo_ok w A pn0 c pz0 B k d lz0 z h h' hv hz)
  · have hs : 1048576 < (pn0 : Int) + ln0 := by omega
    go_enter Try.func4, Try.ntmps4
    go_wp2_with fail
    refine (szJ_no _ PA0 LA0 pn0 pc0 ln0 lc0 1048576 (by omega) (by omega) hnp hnl hs).mono ?_
    rintro e w1 ⟨rfl, b1⟩
    go_wp2
    go_ret
    exact ⟨rfl, Below.trans (show Below w.heap.size w (w.alloc (.cells #[.slice PA0 pn0 pc0, .slice LA0 ln0 lc0] 40)) from ((Below.refl w.heap.size w).alloc (by simp) _)) (b1.mono (by first | (simp; done) | (simp; omega)))⟩

set_option maxRecDepth 100000 in
theorem lifted (os : Os) (started : os.Started) (H : Type) (enc : TypeId × Value → H) :
    ReturnsInHanded {} Try.checked os 4 .any (Rows.fnExactUndoJoinSpec.pre6 enc Try.prog Try.f4 Rows.fnExactUndoJoinRow.domain false) (Rows.fnExactUndoJoinSpec.post enc Try.prog Try.f4 false true false false) := by
  refine returnsInHanded_of_change (C := Try.checked) own started (by kernel_rfl) Try.func4
    (ChangeSpec.witness6 (enc := enc) (C := Try.checked) false ⟨#[], #[.agg #[.slice none 0 0, .slice none 0 0]], []⟩ 8 (by kernel_rfl) (by kernel_rfl) (by kernel_rfl) (by kernel_rfl)) ?_
  intro W base args ds gs before hval0 hW hcnd _
  have hval : ∀ (j : Nat) t v, Try.f4.params[j]? = some t → args[j]? = some v → Value.okWide Try.prog W .any base t v := hval0
  have hW' := hW
  obtain ⟨p, q, hA0, hV, rfl, hfz, hnd⟩ := hW
  have hA : DataW.TrodAll enc Try.prog W 0 (fun _ => true) true Try.f4.params.toList args.toList ds p := hA0
  rw [Try.params4] at hA hval
  obtain ⟨v0, vs0, d0, ds0, p0, q0, hargs, rfl, rfl, h0, tl0⟩ := trodAll_cons hA
  obtain ⟨rfl, rfl, rfl⟩ := trodAll_nil tl0
  obtain rfl : args = #[v0] := by cases args; simp_all
  obtain ⟨rfl, rfl⟩ := trodVars_none hV
  have k0 := h0
  have lt0 : ∀ x ∈ p0, x.block < W.heap.size := by obtain ⟨m, hm⟩ := k0; exact DataW.trod_lt m _ _ _ hm
  obtain ⟨u00, u01, y00, y01, m0, rfl, rfl, hp0, g00, g01⟩ := open_agg2 Try.underlying40 (by kernel_rfl) (by kernel_rfl) (hval 0 40 v0 rfl rfl) h0
  obtain ⟨PA0, pn0, pc0, pz0, e00, pr0⟩ := row_of Try.underlying24 Try.underlying2 (by kernel_rfl) g00 (fun x hx => lt0 x (by rw [hp0]; simp [hx]))
  simp at e00
  subst e00
  obtain ⟨LA0, ln0, lc0, lz0, e01, lr0⟩ := row_of Try.underlying24 Try.underlying2 (by kernel_rfl) g01 (fun x hx => lt0 x (by rw [hp0]; simp [hx]))
  simp at e01
  subst e01
  clear hA0 hval0
  refine (walk W PA0 pn0 pc0 pz0 LA0 ln0 lc0 lz0 pr0 lr0).mono fun e W' ⟨he, bel⟩ => ?_
  subst he
  exact ⟨_, rfl, _, _, _, [], _, [], hW', trodAll_mk1 (shut_bool Try.underlying4 _), (trodAll_cons_mk (Below.trod laidOut (by kernel_rfl) (of_decide_eq_true (by kernel_rfl)) k0 bel lt0) trodAll_mk0), rfl, bel.frame _, fun h => by cases h⟩

theorem over : Rows.fnExactUndoJoinRow.holds Try.pinned (OpenSpec.ofChange Rows.fnExactUndoJoinSpec) :=
  OpenClaim.holds_of_wide 4 Try.f4 rfl rfl rfl rfl rfl rfl rfl ⟨rfl, rfl, rfl, rfl, rfl⟩ rfl rfl rfl rfl rfl (by kernel_rfl) Try.func4 (by kernel_rfl)
    (of_decide_eq_true (by kernel_rfl)) (by unfold Func.isWrapper; first | (rw [if_pos (by decide +kernel)]; kernel_rfl) | (rw [if_neg (by decide +kernel)]; exact ⟨rfl, rfl⟩))
    (fun os started H enc _ => lifted os started H enc)

theorem proved : Rows.FnExactUndoJoinSaid := over
#print axioms proved
end Go.Proofs.Ytneknajeecgnoaa.fnExactUndoJoin
