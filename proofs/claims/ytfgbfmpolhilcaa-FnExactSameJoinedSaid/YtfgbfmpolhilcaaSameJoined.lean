/- Proved: whatever two joined elements (of at most 2^20 numbers together; for more the law answers true at once) SameJoined of the program is called with, valid or not, it answers as the model and changes nothing. No condition. -/
import Derived.Test.YtfgbfmpolhilcaaRows
import Derived.Test.YtfgbfmpolhilcaaBase
import Derived.Test.YtfgbfmpolhilcaaJn
import Derived.Test.YtfgbfmpolhilcaaSmj
import Derived.WalkKit
import Derived.ProofKit
import Derived.OpenShut
import Derived.ShutString
import Derived.ChangeOld
import Derived.Below
import Derived.Lib.SmallJoins
namespace Go.Proofs.Ytfgbfmpolhilcaa.fnExactSameJoined
open Go.ChangeShapes Go.WideShapes Go.ChangeAt Go.RowKit Go.Joins
open Go.ChangeMaps (open_string shut_string)
open Go.Proofs.Ytfgbfmpolhilcaa.Base
set_option linter.unusedVariables false
theorem own : ownKnob Try.prog.godebug = none := by kernel_rfl
theorem laidOut : laidOutB Try.prog = true := by kernel_rfl

theorem walk (w : World) (PA0 : Option Addr) (pn0 pc0 : Nat) (pz0 : Nat → Int) (LA0 : Option Addr) (ln0 lc0 : Nat) (lz0 : Nat → Int) (pr0 : Row .i64 w PA0 pn0 pc0 pz0) (lr0 : Row .i64 w LA0 ln0 lc0 lz0) (PA1 : Option Addr) (pn1 pc1 : Nat) (pz1 : Nat → Int) (LA1 : Option Addr) (ln1 lc1 : Nat) (lz1 : Nat → Int) (pr1 : Row .i64 w PA1 pn1 pc1 pz1) (lr1 : Row .i64 w LA1 ln1 lc1 lz1) :
    Calls Try.prog 13 #[.agg #[.slice PA0 pn0 pc0, .slice LA0 ln0 lc0], .agg #[.slice PA1 pn1 pc1, .slice LA1 ln1 lc1]] w fun e w' => e = .returned (.bool true) ∧ Below w.heap.size w w' := by
  have hnp0 : pn0 ≤ 9223372036854775807 := by have := pr0.1; have := pr0.2.1; unfold maxLen at this; omega
  have hnl0 : ln0 ≤ 9223372036854775807 := by have := lr0.1; have := lr0.2.1; unfold maxLen at this; omega
  have hnp1 : pn1 ≤ 9223372036854775807 := by have := pr1.1; have := pr1.2.1; unfold maxLen at this; omega
  have hnl1 : ln1 ≤ 9223372036854775807 := by have := lr1.1; have := lr1.2.1; unfold maxLen at this; omega
  have HL0 := Lib.hid (((Below.refl w.heap.size w).alloc (Nat.le_refl _) (.cells #[.slice PA0 pn0 pc0, .slice LA0 ln0 lc0] 59)).alloc (by simp) (.cells #[.slice PA1 pn1 pc1, .slice LA1 ln1 lc1] 59))
  have hx0 := (Cel.new w [.slice PA0 pn0 pc0, .slice LA0 ln0 lc0] 59).below ((Below.refl _ _).alloc (Nat.le_refl _) (.cells #[.slice PA1 pn1 pc1, .slice LA1 ln1 lc1] 59)) (by simp)
  have hy0 := Cel.new (w.alloc (.cells #[.slice PA0 pn0 pc0, .slice LA0 ln0 lc0] 59)) [.slice PA1 pn1 pc1, .slice LA1 ln1 lc1] 59
  rw [World.size_alloc] at hy0
  have HX0 := Lib.hid hx0
  have HY0 := Lib.hid hy0
  clear hx0 hy0
  have HP0 := Lib.hid pr0
  have HQ0 := Lib.hid lr0
  have HP1 := Lib.hid pr1
  have HQ1 := Lib.hid lr1
  clear pr0 pr1 lr0 lr1
  by_cases hs1 : (pn0 : Int) + ln0 ≤ 1048576
  · by_cases hs2 : (pn1 : Int) + ln1 ≤ 1048576 - pn0 - ln0
    · have hn0 : pn0 ≤ 1048576 := by omega
      have hm0 : ln0 ≤ 1048576 := by omega
      have hn1 : pn1 ≤ 1048576 := by omega
      have hm1 : ln1 ≤ 1048576 := by omega
      obtain ⟨rv, hrv⟩ : ∃ rv, sjB pn0 pz0 ln0 lz0 pn1 pz1 ln1 lz1 = rv := ⟨_, rfl⟩
      have hr0 : (rv != rv) = false := by simp
      have HRV := Lib.hid hrv
      clear hrv
      go_enter Try.func13, Try.ntmps13
      go_wp2_with fail
      refine (szJ_yes _ PA0 LA0 pn0 pc0 ln0 lc0 1048576 (by omega) (by omega) hs1).mono ?_
      rintro e w1 ⟨rfl, b1⟩
      have HX1 := Lib.hid (HX0.out.below b1 HX0.out.1)
      have HY1 := Lib.hid (HY0.out.below b1 HY0.out.1)
      have HB1 := Lib.hid (HL0.out.trans (b1.mono HL0.out.size))
      clear b1
      have kX_z := HX1.out.1
      have kX_0 := HX1.out.2 0 _ rfl
      have kX_1 := HX1.out.2 1 _ rfl
      have kY_z := HY1.out.1
      have kY_0 := HY1.out.2 0 _ rfl
      have kY_1 := HY1.out.2 1 _ rfl
      go_wp2_with fail
      clear kX_z kX_0 kX_1
      clear kY_z kY_0 kY_1
      refine (szJ_yes _ PA1 LA1 pn1 pc1 ln1 lc1 (1048576 - pn0 - ln0) (by omega) (by omega) hs2).mono ?_
      rintro e w2 ⟨rfl, b2⟩
      have HX2 := Lib.hid (HX1.out.below b2 HX1.out.1)
      have HY2 := Lib.hid (HY1.out.below b2 HY1.out.1)
      have HB2 := Lib.hid (HB1.out.trans (b2.mono HB1.out.size))
      have z2 := (b2).size
      clear HB1 HX1 HY1
      clear b2
      have rP02 := Lib.hid (HP0.out.below HB2.out (Nat.le_refl _))
      have rQ02 := Lib.hid (HQ0.out.below HB2.out (Nat.le_refl _))
      have rP12 := Lib.hid (HP1.out.below HB2.out (Nat.le_refl _))
      have rQ12 := Lib.hid (HQ1.out.below HB2.out (Nat.le_refl _))
      have kX_z := HX2.out.1
      have kX_0 := HX2.out.2 0 _ rfl
      have kX_1 := HX2.out.2 1 _ rfl
      have kY_z := HY2.out.1
      have kY_0 := HY2.out.2 0 _ rfl
      have kY_1 := HY2.out.2 1 _ rfl
      have OL := Lib.hid (Old.mk_ (Below.refl w2.heap.size w2).drew)
      go_wp2_with fail
      go_region_held3 (fun w' => (∀ b o, b < (w2).heap.size → w'.cell? ⟨b, o, none⟩ = (w2).cell? ⟨b, o, none⟩) ∧ Below (w2).heap.size (w2) w')
        (first | assumption | exact OL.out | exact Old.trans (by assumption) (by assumption))
        (first | (go_at_call 48; (with_reducible refine (toJ_any _ PA0 pn0 pc0 pz0 LA0 ln0 lc0 lz0 ?_ ?_ hn0 hm0).mono ?_); exact rP02.out.old (by assumption); exact rQ02.out.old (by assumption); rintro e wA ⟨AP, cP, AL, cL, rfl, JA, bA⟩) | (go_at_call 48; (with_reducible refine (toJ_any _ PA1 pn1 pc1 pz1 LA1 ln1 lc1 lz1 ?_ ?_ hn1 hm1).mono ?_); exact rP12.out.old (by assumption); exact rQ12.out.old (by assumption); rintro e wB ⟨BP, dP, BL, dL, rfl, JB, bB⟩) | (go_at_call 47; refine (spec_sameJoined _ AP pn0 cP pz0 AL ln0 cL lz0 BP pn1 dP pz1 BL ln1 dL lz1 ?_ ?_ ?_ ?_).mono ?_; exact (JA.below bB (Nat.le_refl _)).1.row; exact (JA.below bB (Nat.le_refl _)).2.1.row; exact JB.1.row; exact JB.2.1.row; rintro e wC ⟨rfl, bC⟩))
      clear kX_z kX_0 kX_1
      clear kY_z kY_0 kY_1
      rename_i hS
      have b3 := hS.2
      obtain ⟨w3, rfl⟩ : ∃ w' : World, w' = wC := ⟨_, rfl⟩
      rw [HRV.out]
      have HX3 := Lib.hid (HX2.out.below b3 HX2.out.1)
      have HY3 := Lib.hid (HY2.out.below b3 HY2.out.1)
      have rP03 := Lib.hid (rP02.out.below b3 (Nat.le_refl _))
      have rQ03 := Lib.hid (rQ02.out.below b3 (Nat.le_refl _))
      have rP13 := Lib.hid (rP12.out.below b3 (Nat.le_refl _))
      have rQ13 := Lib.hid (rQ12.out.below b3 (Nat.le_refl _))
      have HB3 := Lib.hid (HB2.out.trans (b3.mono HB2.out.size))
      have z3 := (b3).size
      clear HB2 HX2 HY2 rP02 rQ02 rP12 rQ12
      clear hS OL JA JB bA bB bC b3
      have kX_z := HX3.out.1
      have kX_0 := HX3.out.2 0 _ rfl
      have kX_1 := HX3.out.2 1 _ rfl
      have kY_z := HY3.out.1
      have kY_0 := HY3.out.2 0 _ rfl
      have kY_1 := HY3.out.2 1 _ rfl
      go_wp2_with fail
      clear kX_z kX_0 kX_1
      clear kY_z kY_0 kY_1
      refine (toJ_any _ PA0 pn0 pc0 pz0 LA0 ln0 lc0 lz0 rP03.out rQ03.out hn0 hm0).mono ?_
      rintro e w4 ⟨AX, cX, AY, cY, rfl, HJ, bT⟩
      have HX4 := Lib.hid (HX3.out.below bT HX3.out.1)
      have HY4 := Lib.hid (HY3.out.below bT HY3.out.1)
      have rP04 := Lib.hid (rP03.out.below bT (Nat.le_refl _))
      have rQ04 := Lib.hid (rQ03.out.below bT (Nat.le_refl _))
      have rP14 := Lib.hid (rP13.out.below bT (Nat.le_refl _))
      have rQ14 := Lib.hid (rQ13.out.below bT (Nat.le_refl _))
      have HB4 := Lib.hid (HB3.out.trans (bT.mono HB3.out.size))
      have z4 := (bT).size
      clear HB3 HX3 HY3 rP03 rQ03 rP13 rQ13
      clear bT
      have rM4 := Lib.hid HJ.1.row
      have rN4 := Lib.hid HJ.2.1.row
      clear HJ
      have bN := (Below.refl w4.heap.size w4).alloc (Nat.le_refl _) (.cells #[.slice AX pn0 cX, .slice AY ln0 cY] 54)
      have HU5 := Lib.hid (Cel.new w4 [.slice AX pn0 cX, .slice AY ln0 cY] 54)
      have HX5 := Lib.hid (HX4.out.below bN HX4.out.1)
      have HY5 := Lib.hid (HY4.out.below bN HY4.out.1)
      have rP05 := Lib.hid (rP04.out.below bN (Nat.le_refl _))
      have rQ05 := Lib.hid (rQ04.out.below bN (Nat.le_refl _))
      have rP15 := Lib.hid (rP14.out.below bN (Nat.le_refl _))
      have rQ15 := Lib.hid (rQ14.out.below bN (Nat.le_refl _))
      have rM5 := Lib.hid (rM4.out.below bN (Nat.le_refl _))
      have rN5 := Lib.hid (rN4.out.below bN (Nat.le_refl _))
      have HB5 := Lib.hid (HB4.out.trans (bN.mono HB4.out.size))
      have z5 := (bN).size
      clear HB4 HX4 HY4 rP04 rQ04 rP14 rQ14 rM4 rN4
      clear bN
      have kX_z := HX5.out.1
      have kX_0 := HX5.out.2 0 _ rfl
      have kX_1 := HX5.out.2 1 _ rfl
      have kY_z := HY5.out.1
      have kY_0 := HY5.out.2 0 _ rfl
      have kY_1 := HY5.out.2 1 _ rfl
      have kU_z := HU5.out.1
      have kU_0 := HU5.out.2 0 _ rfl
      have kU_1 := HU5.out.2 1 _ rfl
      go_wp2_with fail
      clear kX_z kX_0 kX_1
      clear kY_z kY_0 kY_1
      clear kU_z kU_0 kU_1
      generalize w4.alloc (.cells #[.slice AX pn0 cX, .slice AY ln0 cY] 54) = w5 at *
      generalize w4.heap.size = bU at *
      refine (toJ_any _ PA1 pn1 pc1 pz1 LA1 ln1 lc1 lz1 rP15.out rQ15.out hn1 hm1).mono ?_
      rintro e w6 ⟨BX, dX, BY, dY, rfl, HJ, bT⟩
      have HX6 := Lib.hid (HX5.out.below bT HX5.out.1)
      have HY6 := Lib.hid (HY5.out.below bT HY5.out.1)
      have HU6 := Lib.hid (HU5.out.below bT HU5.out.1)
      have rP06 := Lib.hid (rP05.out.below bT (Nat.le_refl _))
      have rQ06 := Lib.hid (rQ05.out.below bT (Nat.le_refl _))
      have rP16 := Lib.hid (rP15.out.below bT (Nat.le_refl _))
      have rQ16 := Lib.hid (rQ15.out.below bT (Nat.le_refl _))
      have rM6 := Lib.hid (rM5.out.below bT (Nat.le_refl _))
      have rN6 := Lib.hid (rN5.out.below bT (Nat.le_refl _))
      have HB6 := Lib.hid (HB5.out.trans (bT.mono HB5.out.size))
      have z6 := (bT).size
      clear HB5 HX5 HY5 HU5 rP05 rQ05 rP15 rQ15 rM5 rN5
      clear bT
      have rV6 := Lib.hid HJ.1.row
      have rW6 := Lib.hid HJ.2.1.row
      clear HJ
      have bN := (Below.refl w6.heap.size w6).alloc (Nat.le_refl _) (.cells #[.slice BX pn1 dX, .slice BY ln1 dY] 54)
      have HT7 := Lib.hid (Cel.new w6 [.slice BX pn1 dX, .slice BY ln1 dY] 54)
      have HX7 := Lib.hid (HX6.out.below bN HX6.out.1)
      have HY7 := Lib.hid (HY6.out.below bN HY6.out.1)
      have HU7 := Lib.hid (HU6.out.below bN HU6.out.1)
      have rP07 := Lib.hid (rP06.out.below bN (Nat.le_refl _))
      have rQ07 := Lib.hid (rQ06.out.below bN (Nat.le_refl _))
      have rP17 := Lib.hid (rP16.out.below bN (Nat.le_refl _))
      have rQ17 := Lib.hid (rQ16.out.below bN (Nat.le_refl _))
      have rM7 := Lib.hid (rM6.out.below bN (Nat.le_refl _))
      have rN7 := Lib.hid (rN6.out.below bN (Nat.le_refl _))
      have rV7 := Lib.hid (rV6.out.below bN (Nat.le_refl _))
      have rW7 := Lib.hid (rW6.out.below bN (Nat.le_refl _))
      have HB7 := Lib.hid (HB6.out.trans (bN.mono HB6.out.size))
      have z7 := (bN).size
      clear HB6 HX6 HY6 HU6 rP06 rQ06 rP16 rQ16 rM6 rN6 rV6 rW6
      clear bN
      have kU_z := HU7.out.1
      have kU_0 := HU7.out.2 0 _ rfl
      have kU_1 := HU7.out.2 1 _ rfl
      have kT_z := HT7.out.1
      have kT_0 := HT7.out.2 0 _ rfl
      have kT_1 := HT7.out.2 1 _ rfl
      go_wp2_with fail
      clear kU_z kU_0 kU_1
      clear kT_z kT_0 kT_1
      generalize w6.alloc (.cells #[.slice BX pn1 dX, .slice BY ln1 dY] 54) = w7 at *
      generalize w6.heap.size = bT' at *
      refine (impl_sameJoined _ AX pn0 cX pz0 AY ln0 cY lz0 BX pn1 dX pz1 BY ln1 dY lz1 rM7.out rN7.out rV7.out rW7.out).mono ?_
      rintro e w8 ⟨rfl, bT⟩
      rw [HRV.out]
      have HX8 := Lib.hid (HX7.out.below bT HX7.out.1)
      have HY8 := Lib.hid (HY7.out.below bT HY7.out.1)
      have HU8 := Lib.hid (HU7.out.below bT HU7.out.1)
      have HT8 := Lib.hid (HT7.out.below bT HT7.out.1)
      have rP08 := Lib.hid (rP07.out.below bT (Nat.le_refl _))
      have rQ08 := Lib.hid (rQ07.out.below bT (Nat.le_refl _))
      have rP18 := Lib.hid (rP17.out.below bT (Nat.le_refl _))
      have rQ18 := Lib.hid (rQ17.out.below bT (Nat.le_refl _))
      have rM8 := Lib.hid (rM7.out.below bT (Nat.le_refl _))
      have rN8 := Lib.hid (rN7.out.below bT (Nat.le_refl _))
      have rV8 := Lib.hid (rV7.out.below bT (Nat.le_refl _))
      have rW8 := Lib.hid (rW7.out.below bT (Nat.le_refl _))
      have HB8 := Lib.hid (HB7.out.trans (bT.mono HB7.out.size))
      have z8 := (bT).size
      clear HB7 HX7 HY7 HU7 HT7 rP07 rQ07 rP17 rQ17 rM7 rN7 rV7 rW7
      clear bT
      have kX_z := HX8.out.1
      have kX_0 := HX8.out.2 0 _ rfl
      have kX_1 := HX8.out.2 1 _ rfl
      have kY_z := HY8.out.1
      have kY_0 := HY8.out.2 0 _ rfl
      have kY_1 := HY8.out.2 1 _ rfl
      have kU_z := HU8.out.1
      have kU_0 := HU8.out.2 0 _ rfl
      have kU_1 := HU8.out.2 1 _ rfl
      have kT_z := HT8.out.1
      have kT_0 := HT8.out.2 0 _ rfl
      have kT_1 := HT8.out.2 1 _ rfl
      have OL := Lib.hid (Old.mk_ (Below.refl w8.heap.size w8).drew)
      go_wp2_with fail
      go_region_held3 (fun w' => (∀ b o, b < (w8).heap.size → w'.cell? ⟨b, o, none⟩ = (w8).cell? ⟨b, o, none⟩) ∧ Below (w8).heap.size (w8) w')
        (first | assumption | exact OL.out | exact Old.trans (by assumption) (by assumption))
        (first | (go_at_call 48; (with_reducible refine (toJ_any _ PA0 pn0 pc0 pz0 LA0 ln0 lc0 lz0 ?_ ?_ hn0 hm0).mono ?_); exact rP08.out.old (by assumption); exact rQ08.out.old (by assumption); rintro e w9a ⟨AZ, cZ, AW, cW, rfl, HJ, b7⟩) | (go_at_call 43; refine (eqJ_same _ _ _ _ _ pn0 _ _ ln0 _ _ pz0 lz0 ?_ ?_ ?_ ?_).mono ?_; exact rM8.out.old (by assumption); exact HJ.1.row; exact rN8.out.old (by assumption); exact HJ.2.1.row; rintro e w9b ⟨rfl, b8⟩))
      clear kX_z kX_0 kX_1
      clear kY_z kY_0 kY_1
      clear kU_z kU_0 kU_1
      clear kT_z kT_0 kT_1
      rename_i hS
      have b9 := hS.2
      obtain ⟨w9, rfl⟩ : ∃ w' : World, w' = w9b := ⟨_, rfl⟩
      have HX9 := Lib.hid (HX8.out.below b9 HX8.out.1)
      have HY9 := Lib.hid (HY8.out.below b9 HY8.out.1)
      have HU9 := Lib.hid (HU8.out.below b9 HU8.out.1)
      have HT9 := Lib.hid (HT8.out.below b9 HT8.out.1)
      have rP09 := Lib.hid (rP08.out.below b9 (Nat.le_refl _))
      have rQ09 := Lib.hid (rQ08.out.below b9 (Nat.le_refl _))
      have rP19 := Lib.hid (rP18.out.below b9 (Nat.le_refl _))
      have rQ19 := Lib.hid (rQ18.out.below b9 (Nat.le_refl _))
      have rM9 := Lib.hid (rM8.out.below b9 (Nat.le_refl _))
      have rN9 := Lib.hid (rN8.out.below b9 (Nat.le_refl _))
      have rV9 := Lib.hid (rV8.out.below b9 (Nat.le_refl _))
      have rW9 := Lib.hid (rW8.out.below b9 (Nat.le_refl _))
      have HB9 := Lib.hid (HB8.out.trans (b9.mono HB8.out.size))
      have z9 := (b9).size
      clear HB8 HX8 HY8 HU8 HT8 rP08 rQ08 rP18 rQ18 rM8 rN8 rV8 rW8
      clear hS OL HJ b7 b8 b9
      have kX_z := HX9.out.1
      have kX_0 := HX9.out.2 0 _ rfl
      have kX_1 := HX9.out.2 1 _ rfl
      have kY_z := HY9.out.1
      have kY_0 := HY9.out.2 0 _ rfl
      have kY_1 := HY9.out.2 1 _ rfl
      have kU_z := HU9.out.1
      have kU_0 := HU9.out.2 0 _ rfl
      have kU_1 := HU9.out.2 1 _ rfl
      have kT_z := HT9.out.1
      have kT_0 := HT9.out.2 0 _ rfl
      have kT_1 := HT9.out.2 1 _ rfl
      have OL := Lib.hid (Old.mk_ (Below.refl w9.heap.size w9).drew)
      go_wp2_with fail
      go_region_held3 (fun w' => (∀ b o, b < (w9).heap.size → w'.cell? ⟨b, o, none⟩ = (w9).cell? ⟨b, o, none⟩) ∧ Below (w9).heap.size (w9) w')
        (first | assumption | exact OL.out | exact Old.trans (by assumption) (by assumption))
        (first | (go_at_call 48; (with_reducible refine (toJ_any _ PA1 pn1 pc1 pz1 LA1 ln1 lc1 lz1 ?_ ?_ hn1 hm1).mono ?_); exact rP19.out.old (by assumption); exact rQ19.out.old (by assumption); rintro e w10a ⟨AZ, cZ, AW, cW, rfl, HJ, b7⟩) | (go_at_call 43; refine (eqJ_same _ _ _ _ _ pn1 _ _ ln1 _ _ pz1 lz1 ?_ ?_ ?_ ?_).mono ?_; exact rV9.out.old (by assumption); exact HJ.1.row; exact rW9.out.old (by assumption); exact HJ.2.1.row; rintro e w10b ⟨rfl, b8⟩))
      clear kX_z kX_0 kX_1
      clear kY_z kY_0 kY_1
      clear kU_z kU_0 kU_1
      clear kT_z kT_0 kT_1
      rename_i hS
      have b9 := hS.2
      obtain ⟨w10, rfl⟩ : ∃ w' : World, w' = w10b := ⟨_, rfl⟩
      have HX10 := Lib.hid (HX9.out.below b9 HX9.out.1)
      have HY10 := Lib.hid (HY9.out.below b9 HY9.out.1)
      have HU10 := Lib.hid (HU9.out.below b9 HU9.out.1)
      have HT10 := Lib.hid (HT9.out.below b9 HT9.out.1)
      have rP010 := Lib.hid (rP09.out.below b9 (Nat.le_refl _))
      have rQ010 := Lib.hid (rQ09.out.below b9 (Nat.le_refl _))
      have rP110 := Lib.hid (rP19.out.below b9 (Nat.le_refl _))
      have rQ110 := Lib.hid (rQ19.out.below b9 (Nat.le_refl _))
      have rM10 := Lib.hid (rM9.out.below b9 (Nat.le_refl _))
      have rN10 := Lib.hid (rN9.out.below b9 (Nat.le_refl _))
      have rV10 := Lib.hid (rV9.out.below b9 (Nat.le_refl _))
      have rW10 := Lib.hid (rW9.out.below b9 (Nat.le_refl _))
      have HB10 := Lib.hid (HB9.out.trans (b9.mono HB9.out.size))
      have z10 := (b9).size
      clear HB9 HX9 HY9 HU9 HT9 rP09 rQ09 rP19 rQ19 rM9 rN9 rV9 rW9
      clear hS OL HJ b7 b8 b9
      go_wp2
      go_ret
      exact ⟨rfl, HB10.out⟩
    · have hs2 : 1048576 - (pn0 : Int) - ln0 < (pn1 : Int) + ln1 := by omega
      go_enter Try.func13, Try.ntmps13
      go_wp2_with fail
      refine (szJ_yes _ PA0 LA0 pn0 pc0 ln0 lc0 1048576 (by omega) (by omega) hs1).mono ?_
      rintro e w1 ⟨rfl, b1⟩
      have HX1 := Lib.hid (HX0.out.below b1 HX0.out.1)
      have HY1 := Lib.hid (HY0.out.below b1 HY0.out.1)
      have HB1 := Lib.hid (HL0.out.trans (b1.mono HL0.out.size))
      clear b1
      have kX_z := HX1.out.1
      have kX_0 := HX1.out.2 0 _ rfl
      have kX_1 := HX1.out.2 1 _ rfl
      have kY_z := HY1.out.1
      have kY_0 := HY1.out.2 0 _ rfl
      have kY_1 := HY1.out.2 1 _ rfl
      go_wp2_with fail
      clear kX_z kX_0 kX_1
      clear kY_z kY_0 kY_1
      refine (szJ_no _ PA1 LA1 pn1 pc1 ln1 lc1 (1048576 - pn0 - ln0) (by omega) (by omega) hnp1 hnl1 hs2).mono ?_
      rintro e w2 ⟨rfl, b2⟩
      go_wp2
      go_ret
      exact ⟨rfl, HB1.out.trans (b2.mono HB1.out.size)⟩
  · have hs1 : 1048576 < (pn0 : Int) + ln0 := by omega
    go_enter Try.func13, Try.ntmps13
    go_wp2_with fail
    refine (szJ_no _ PA0 LA0 pn0 pc0 ln0 lc0 1048576 (by omega) (by omega) hnp0 hnl0 hs1).mono ?_
    rintro e w1 ⟨rfl, b1⟩
    go_wp2
    go_ret
    exact ⟨rfl, HL0.out.trans (b1.mono HL0.out.size)⟩

set_option maxRecDepth 100000 in
theorem lifted (os : Os) (started : os.Started) (H : Type) (enc : TypeId × Value → H) :
    ReturnsInHanded {} Try.checked os 13 .any (Rows.fnExactSameJoinedSpec.pre6 enc Try.prog Try.f13 Rows.fnExactSameJoinedRow.domain false) (Rows.fnExactSameJoinedSpec.post enc Try.prog Try.f13 false true false false) := by
  refine returnsInHanded_of_change (C := Try.checked) own started (by kernel_rfl) Try.func13
    (ChangeSpec.witness6 (enc := enc) (C := Try.checked) false ⟨#[], #[.agg #[.slice none 0 0, .slice none 0 0], .agg #[.slice none 0 0, .slice none 0 0]], []⟩ 8 (by kernel_rfl) (by kernel_rfl) (by kernel_rfl) (by kernel_rfl)) ?_
  intro W base args ds gs before hval0 hW hcnd _
  have hval : ∀ (j : Nat) t v, Try.f13.params[j]? = some t → args[j]? = some v → Value.okWide Try.prog W .any base t v := hval0
  have hW' := hW
  obtain ⟨p, q, hA0, hV, rfl, hfz, hnd⟩ := hW
  have hA : DataW.TrodAll enc Try.prog W 0 (fun _ => true) true Try.f13.params.toList args.toList ds p := hA0
  rw [Try.params13] at hA hval
  obtain ⟨v0, vs0, d0, ds0, p0, q0, hargs, rfl, rfl, h0, tl0⟩ := trodAll_cons hA
  obtain ⟨v1, vs1, d1, ds1, p1, q1, rfl, rfl, rfl, h1, tl1⟩ := trodAll_cons tl0
  obtain ⟨rfl, rfl, rfl⟩ := trodAll_nil tl1
  obtain rfl : args = #[v0, v1] := by cases args; simp_all
  obtain ⟨rfl, rfl⟩ := trodVars_none hV
  have k0 := h0
  have lt0 : ∀ x ∈ p0, x.block < W.heap.size := by obtain ⟨m, hm⟩ := k0; exact DataW.trod_lt m _ _ _ hm
  have k1 := h1
  have lt1 : ∀ x ∈ p1, x.block < W.heap.size := by obtain ⟨m, hm⟩ := k1; exact DataW.trod_lt m _ _ _ hm
  obtain ⟨u00, u01, y00, y01, m0, rfl, rfl, hp0, g00, g01⟩ := open_agg2 Try.underlying59 (by kernel_rfl) (by kernel_rfl) (hval 0 59 v0 rfl rfl) h0
  obtain ⟨PA0, pn0, pc0, pz0, e00, pr0⟩ := row_of Try.underlying39 Try.underlying2 (by kernel_rfl) g00 (fun x hx => lt0 x (by rw [hp0]; simp [hx]))
  simp at e00
  subst e00
  obtain ⟨LA0, ln0, lc0, lz0, e01, lr0⟩ := row_of Try.underlying39 Try.underlying2 (by kernel_rfl) g01 (fun x hx => lt0 x (by rw [hp0]; simp [hx]))
  simp at e01
  subst e01
  obtain ⟨u10, u11, y10, y11, m1, rfl, rfl, hp1, g10, g11⟩ := open_agg2 Try.underlying59 (by kernel_rfl) (by kernel_rfl) (hval 1 59 v1 rfl rfl) h1
  obtain ⟨PA1, pn1, pc1, pz1, e10, pr1⟩ := row_of Try.underlying39 Try.underlying2 (by kernel_rfl) g10 (fun x hx => lt1 x (by rw [hp1]; simp [hx]))
  simp at e10
  subst e10
  obtain ⟨LA1, ln1, lc1, lz1, e11, lr1⟩ := row_of Try.underlying39 Try.underlying2 (by kernel_rfl) g11 (fun x hx => lt1 x (by rw [hp1]; simp [hx]))
  simp at e11
  subst e11
  clear hA0 hval0
  refine (walk W PA0 pn0 pc0 pz0 LA0 ln0 lc0 lz0 pr0 lr0 PA1 pn1 pc1 pz1 LA1 ln1 lc1 lz1 pr1 lr1).mono fun e W' ⟨he, bel⟩ => ?_
  subst he
  exact ⟨_, rfl, _, _, _, [], _, [], hW', trodAll_mk1 (shut_bool Try.underlying4 _), (trodAll_cons_mk (Below.trod laidOut (by kernel_rfl) (of_decide_eq_true (by kernel_rfl)) k0 bel lt0) (trodAll_cons_mk (Below.trod laidOut (by kernel_rfl) (of_decide_eq_true (by kernel_rfl)) k1 bel lt1) trodAll_mk0)), rfl, bel.frame _, fun h => by cases h⟩

theorem over : Rows.fnExactSameJoinedRow.holds Try.pinned (OpenSpec.ofChange Rows.fnExactSameJoinedSpec) :=
  OpenClaim.holds_of_wide 13 Try.f13 rfl rfl rfl rfl rfl rfl rfl ⟨rfl, rfl, rfl, rfl, rfl⟩ rfl rfl rfl rfl rfl (by kernel_rfl) Try.func13 (by kernel_rfl)
    (of_decide_eq_true (by kernel_rfl)) (by unfold Func.isWrapper; first | (rw [if_pos (by decide +kernel)]; kernel_rfl) | (rw [if_neg (by decide +kernel)]; exact ⟨rfl, rfl⟩))
    (fun os started H enc _ => lifted os started H enc)

theorem proved : Rows.FnExactSameJoinedSaid := over
#print axioms proved
end Go.Proofs.Ytfgbfmpolhilcaa.fnExactSameJoined
