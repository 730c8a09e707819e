/- Proved: whatever panel (of at most 2^20 breaks; for larger ones the law answers true at once) CrossingsOf of the program is called with, it answers as the model, every element, and changes nothing; its list's memory is its own. No condition. -/
import Derived.Test.YtbpdjmjkjiddjaaRows
import Derived.Test.YtbpdjmjkjiddjaaBase
import Derived.Test.YtbpdjmjkjiddjaaPan
import Derived.Test.YtbpdjmjkjiddjaaMark
import Derived.Test.YtbpdjmjkjiddjaaNew
import Derived.Test.YtbpdjmjkjiddjaaHeap
import Derived.Test.YtbpdjmjkjiddjaaShape
import Derived.Test.YtbpdjmjkjiddjaaWls
import Derived.Test.YtbpdjmjkjiddjaaWlk
import Derived.Test.YtbpdjmjkjiddjaaCof
import Derived.WalkKit
import Derived.ProofKit
import Derived.OpenShut
import Derived.ShutString
import Derived.ChangeOld
import Derived.Below
import Derived.Lib.SmallJoins
namespace Go.Proofs.Ytbpdjmjkjiddjaa.fnExactCrossingsOf
open Go.ChangeShapes Go.WideShapes Go.ChangeAt Go.RowKit Go.Joins
open Go.ChangeMaps (open_string shut_string)
open Go.Proofs.Ytbpdjmjkjiddjaa.Base
set_option linter.unusedVariables false
theorem own : ownKnob Try.prog.godebug = none := by kernel_rfl
theorem laidOut : laidOutB Try.prog = true := by kernel_rfl

set_option maxHeartbeats 2000000 in
theorem core (w : World) (W0 H0 : Int) (A0 : Option Addr) (n0 c0 : Nat) (zs0 : Nat → Int) (N : Nat) (F : Nat → Int) (code : Int) (hN : N ≤ 1048576) (wW0 : (Lit.int .i64 W0).wf = true) (wH0 : (Lit.int .i64 H0).wf = true) (r0 : Row .i64 w A0 n0 c0 zs0) (hs : (n0 : Int) ≤ 1048576)
    (HS : Hid (∀ (w : World) (A : Option Addr) (c : Nat), Row .i64 w A n0 c zs0 → Calls Try.prog 16 #[.agg #[.int .i64 W0, .int .i64 H0, .slice A n0 c]] w (ListOut 1 N F code w.heap.size w)))
    (HI : Hid (∀ (w : World) (A : Option Addr) (c : Nat), Row .i64 w A n0 c zs0 → Calls Try.prog 17 #[.agg #[.int .i64 W0, .int .i64 H0, .slice A n0 c]] w (ListOut 1 N F code w.heap.size w))) :
    Calls Try.prog 4 #[.agg #[.int .i64 W0, .int .i64 H0, .slice A0 n0 c0]] w fun e w' => e = .returned (.bool true) ∧ Below w.heap.size w w' := by
    have HR := Lib.hid r0
    have HQA : Hid (0 < n0 → ∀ b, blk A0 = some b → b < w.heap.size) := Lib.hid (row_blk r0)
    clear r0
    have hn20 : n0 ≤ 1048576 := by omega
    have hn63 : n0 ≤ maxLen := by unfold maxLen; omega
    have HW := Lib.hid HR.out.2.2.1
    have hcd : (code != code) = false := by simp
    have hmk : ((1 + (N : Int)) != (1 + (N : Int))) = false := by simp
    go_enter Try.func4, Try.ntmps4
    go_wp2_with fail
    refine (sz_yes _ W0 H0 A0 n0 c0 1048576 (by omega) (by omega) hs).mono ?_
    rintro e w1 ⟨rfl, b1⟩
    have HB1 := Lib.hid (Below.trans (show Below w.heap.size w (w.alloc (.cells #[.int .i64 W0, .int .i64 H0, .slice A0 n0 c0] 24)) from ((Below.refl w.heap.size w).alloc (by simp) _)) (b1.mono (by first | (simp; done) | (simp; omega))))
    have HX1 : Hid (Cel w1 (w.heap.size) [.int .i64 W0, .int .i64 H0, .slice A0 n0 c0]) := Lib.hid (by have h := ((Cel.new w [.int .i64 W0, .int .i64 H0, .slice A0 n0 c0] 24).below b1 (by first | (simp; done) | (simp; omega))); simpa using h)
    have rA1 := Lib.hid (HR.out.below HB1.out (Nat.le_refl _))
    have z1 := HX1.out.1
    clear b1 HR
    have kX_z := HX1.out.1
    have kX_0 := HX1.out.2 0 _ rfl
    have kX_1 := HX1.out.2 1 _ rfl
    have kX_2 := HX1.out.2 2 _ rfl
    go_wp2_with fail
    clear kX_z kX_0 kX_1 kX_2
    refine (toPanel_any _ W0 H0 A0 n0 c0 zs0 rA1.out hn20).mono ?_
    rintro e wP ⟨bp, rfl, hbbp, hrowbp, bT⟩
    have HXP := Lib.hid (HX1.out.below bT HX1.out.1)
    have rAP := Lib.hid (rA1.out.below bT (Nat.le_refl _))
    have HBP := Lib.hid (HB1.out.trans (bT.mono HB1.out.size))
    have zP := (bT).size
    clear HB1 HX1 rA1
    clear bT
    have rPP := Lib.hid (Row.of_rowIs hrowbp hn63 HW.out)
    clear hrowbp
    go_wp2_with fail
    refine (HS.out _ _ _ rPP.out).mono ?_
    rintro e w2 ⟨AM, cM, rfl, RM, bT⟩
    clear rPP
    have HX2 := Lib.hid (HXP.out.below bT HXP.out.1)
    have rA2 := Lib.hid (rAP.out.below bT (Nat.le_refl _))
    have HB2 := Lib.hid (HBP.out.trans (bT.mono HBP.out.size))
    have z2 := (bT).size
    clear HBP HXP rAP
    clear bT
    have HQM : Hid (0 < N → ∀ b, blk AM = some b → b < w2.heap.size) := Lib.hid (RM.row.blk_lt)
    have rM2 := Lib.hid RM.row
    clear RM
    have kX_z := HX2.out.1
    have kX_0 := HX2.out.2 0 _ rfl
    have kX_1 := HX2.out.2 1 _ rfl
    have kX_2 := HX2.out.2 2 _ rfl
    go_wp2_with fail
    clear kX_z kX_0 kX_1 kX_2
    refine (toPanel_any _ W0 H0 A0 n0 c0 zs0 rA2.out hn20).mono ?_
    rintro e w4 ⟨bq, rfl, hbbq, hrowbq, bT⟩
    have HX4 := Lib.hid (HX2.out.below bT HX2.out.1)
    have rA4 := Lib.hid (rA2.out.below bT (Nat.le_refl _))
    have rM4 := Lib.hid (rM2.out.below bT (Nat.le_refl _))
    have HB4 := Lib.hid (HB2.out.trans (bT.mono HB2.out.size))
    have z4 := (bT).size
    clear HB2 HX2 rA2 rM2
    clear bT
    have rX4 := Lib.hid (ownRow_of hrowbq (by unfold maxLen; omega) HW.out hbbq)
    have hbq2 : bq < w4.heap.size := hrowbq.lt
    clear hrowbq
    go_wp2_with fail
    have bN := (Below.refl w4.heap.size w4).alloc (Nat.le_refl _) (.cells #[.int .i64 W0, .int .i64 H0, .slice (some ⟨bq, 0, none⟩) n0 n0] 29)
    have HY5 := Lib.hid (Cel.new w4 [.int .i64 W0, .int .i64 H0, .slice (some ⟨bq, 0, none⟩) n0 n0] 29)
    have HX5 := Lib.hid (HX4.out.below bN HX4.out.1)
    have rA5 := Lib.hid (rA4.out.below bN (Nat.le_refl _))
    have rM5 := Lib.hid (rM4.out.below bN (Nat.le_refl _))
    have rX5 := Lib.hid (rX4.out.below bN (Nat.le_refl _))
    have HB5 := Lib.hid (HB4.out.trans (bN.mono HB4.out.size))
    have z5 := (bN).size
    clear HB4 HX4 rA4 rM4 rX4
    have z5e : w4.heap.size + 1 ≤ (w4.alloc (.cells #[.int .i64 W0, .int .i64 H0, .slice (some ⟨bq, 0, none⟩) n0 n0] 29)).heap.size := by simp
    clear bN
    generalize w4.alloc (.cells #[.int .i64 W0, .int .i64 H0, .slice (some ⟨bq, 0, none⟩) n0 n0] 29) = w5 at *
    generalize w4.heap.size = bY at *
    refine (HI.out _ _ _ rX5.out.row).mono ?_
    rintro e w6 ⟨AG, cG, rfl, RG, bT⟩
    have HX6 := Lib.hid (HX5.out.below bT HX5.out.1)
    have HY6 := Lib.hid (HY5.out.below bT HY5.out.1)
    have rA6 := Lib.hid (rA5.out.below bT (Nat.le_refl _))
    have rM6 := Lib.hid (rM5.out.below bT (Nat.le_refl _))
    have rX6 := Lib.hid (rX5.out.below bT (Nat.le_refl _))
    have HB6 := Lib.hid (HB5.out.trans (bT.mono HB5.out.size))
    have z6 := (bT).size
    clear HB5 HX5 HY5 rA5 rM5 rX5
    clear bT
    have HQG : Hid (0 < N → ∀ b, blk AG = some b → w5.heap.size ≤ b) := Lib.hid (RG.blk_ge)
    have rG6 := Lib.hid RG
    clear RG
    have kX_z := HX6.out.1
    have kX_0 := HX6.out.2 0 _ rfl
    have kX_1 := HX6.out.2 1 _ rfl
    have kX_2 := HX6.out.2 2 _ rfl
    have kY_z := HY6.out.1
    have kY_0 := HY6.out.2 0 _ rfl
    have kY_1 := HY6.out.2 1 _ rfl
    have kY_2 := HY6.out.2 2 _ rfl
    go_wp2_with fail
    clear kX_z kX_0 kX_1 kX_2
    clear kY_z kY_0 kY_1 kY_2
    refine (eqI64_same _ AG AM N cG cM F rG6.out.row rM6.out).mono ?_
    rintro e w7 ⟨rfl, bE⟩
    have HX7 := Lib.hid (HX6.out.below bE HX6.out.1)
    have HY7 := Lib.hid (HY6.out.below bE HY6.out.1)
    have rA7 := Lib.hid (rA6.out.below bE (Nat.le_refl _))
    have rM7 := Lib.hid (rM6.out.below bE (Nat.le_refl _))
    have rX7 := Lib.hid (rX6.out.below bE (Nat.le_refl _))
    have rG7 := Lib.hid (rG6.out.below bE (Nat.le_refl _))
    have HB7 := Lib.hid (HB6.out.trans (bE.mono HB6.out.size))
    have z7 := (bE).size
    clear HB6 HX6 HY6 rA6 rM6 rX6 rG6
    clear bE
    have kX_z := HX7.out.1
    have kX_0 := HX7.out.2 0 _ rfl
    have kX_1 := HX7.out.2 1 _ rfl
    have kX_2 := HX7.out.2 2 _ rfl
    have kY_z := HY7.out.1
    have kY_0 := HY7.out.2 0 _ rfl
    have kY_1 := HY7.out.2 1 _ rfl
    have kY_2 := HY7.out.2 2 _ rfl
    have OL := Lib.hid (Old.mk_ (Below.refl w7.heap.size w7).drew)
    go_wp2_with fail
    go_region_held3 (fun w' => (∀ b o, b < (w7).heap.size → w'.cell? ⟨b, o, none⟩ = (w7).cell? ⟨b, o, none⟩) ∧ Below (w7).heap.size (w7) w')
      (first | assumption | exact OL.out | exact Old.trans (by assumption) (by assumption))
      (first | (go_at_call 12; refine (toPanel_any _ W0 H0 A0 n0 c0 zs0 ?_ hn20).mono ?_; exact rA7.out.old (by assumption); rintro e w7a ⟨bz, rfl, hbz, hrow7, b7⟩) | (go_at_call 15; refine (eqPanel_same _ W0 H0 _ _ n0 n0 n0 zs0 ?_ ?_).mono ?_; exact rX7.out.row.old (by assumption); exact Row.of_rowIs hrow7 hn63 HW.out; rintro e w7b ⟨rfl, b8⟩))
    clear kX_z kX_0 kX_1 kX_2
    clear kY_z kY_0 kY_1 kY_2
    rename_i hS
    have b8x := hS.2
    clear hS OL hrow7 hbz b7 b8
    obtain ⟨w8, rfl⟩ : ∃ w' : World, w' = w7b := ⟨_, rfl⟩
    have HX8 := Lib.hid (HX7.out.below b8x HX7.out.1)
    have HY8 := Lib.hid (HY7.out.below b8x HY7.out.1)
    have rA8 := Lib.hid (rA7.out.below b8x (Nat.le_refl _))
    have rM8 := Lib.hid (rM7.out.below b8x (Nat.le_refl _))
    have rX8 := Lib.hid (rX7.out.below b8x (Nat.le_refl _))
    have rG8 := Lib.hid (rG7.out.below b8x (Nat.le_refl _))
    have HB8 := Lib.hid (HB7.out.trans (b8x.mono HB7.out.size))
    have z8 := (b8x).size
    clear HB7 HX7 HY7 rA7 rM7 rX7 rG7
    clear b8x
    have kX_z := HX8.out.1
    have kX_0 := HX8.out.2 0 _ rfl
    have kX_1 := HX8.out.2 1 _ rfl
    have kX_2 := HX8.out.2 2 _ rfl
    have kY_z := HY8.out.1
    have kY_0 := HY8.out.2 0 _ rfl
    have kY_1 := HY8.out.2 1 _ rfl
    have kY_2 := HY8.out.2 2 _ rfl
    go_wp2_with fail
    clear kX_z kX_0 kX_1 kX_2
    clear kY_z kY_0 kY_1 kY_2
    refine (markPanel_any _ w2.heap.size W0 H0 (some ⟨bq, 0, none⟩) n0 n0 zs0 1 rX8.out (by omega) (by omega)).mono ?_
    rintro e w9 ⟨rfl, R5, r, g5, hr5⟩
    have HBm := Lib.hid (Marked.below g5 hr5 rX8.out (by omega))
    clear R5 rX8
    have HX9 := Lib.hid (HX8.out.grownR g5 (fun e => by obtain ⟨hn9, hA⟩ := hr5 _ e; simp [blk] at hA; omega))
    have HY9 := Lib.hid (HY8.out.grownR g5 (fun e => by obtain ⟨hn9, hA⟩ := hr5 _ e; simp [blk] at hA; omega))
    have rA9 := Lib.hid (rA8.out.grownR g5 (fun b hn hb e => by obtain ⟨hn9, hA⟩ := hr5 _ e; simp [blk] at hA; have := HQA.out hn b hb; omega))
    have rM9 := Lib.hid (rM8.out.grownR g5 (fun b hn hb e => by obtain ⟨hn9, hA⟩ := hr5 _ e; simp [blk] at hA; have := HQM.out hn b hb; omega))
    have rG9 := Lib.hid (rG8.out.grownR g5 (fun b hn hb e => by obtain ⟨hn9, hA⟩ := hr5 _ e; simp [blk] at hA; have := HQG.out hn b hb; omega))
    have HB9 := Lib.hid (HB8.out.trans (HBm.out.mono (by omega)))
    have z9 := g5.size
    clear HB8 HX8 HY8 rA8 rM8 rG8 g5 hr5 HBm
    have kX_z := HX9.out.1
    have kX_0 := HX9.out.2 0 _ rfl
    have kX_1 := HX9.out.2 1 _ rfl
    have kX_2 := HX9.out.2 2 _ rfl
    have kY_z := HY9.out.1
    have kY_0 := HY9.out.2 0 _ rfl
    have kY_1 := HY9.out.2 1 _ rfl
    have kY_2 := HY9.out.2 2 _ rfl
    clear HY9 kY_z kY_0 kY_1 kY_2
    go_wp2_with fail
    clear kX_z kX_0 kX_1 kX_2
    refine (eqI64_same _ AG AM N cG cM F rG9.out.row rM9.out).mono ?_
    rintro e w10 ⟨rfl, bE⟩
    have HX10 := Lib.hid (HX9.out.below bE HX9.out.1)
    have rA10 := Lib.hid (rA9.out.below bE (Nat.le_refl _))
    have rM10 := Lib.hid (rM9.out.below bE (Nat.le_refl _))
    have rG10 := Lib.hid (rG9.out.below bE (Nat.le_refl _))
    have HB10 := Lib.hid (HB9.out.trans (bE.mono HB9.out.size))
    have z10 := (bE).size
    clear HB9 HX9 rA9 rM9 rG9
    clear bE
    have kX_z := HX10.out.1
    have kX_0 := HX10.out.2 0 _ rfl
    have kX_1 := HX10.out.2 1 _ rfl
    have kX_2 := HX10.out.2 2 _ rfl
    go_wp2_with fail
    clear kX_z kX_0 kX_1 kX_2
    refine (markI64_any _ w5.heap.size AG N cG F 1 rG10.out (by omega) (by omega)).mono ?_
    rintro e w11 ⟨rfl, R5, r, g5, hr5⟩
    have HBm := Lib.hid (markedS_below (B := w.heap.size) g5 hr5 rG10.out (by omega) (by omega))
    clear rG10
    have rG11 := Lib.hid R5
    clear R5
    have HX11 := Lib.hid (HX10.out.grownR g5 (fun e => by obtain ⟨hn9, hA⟩ := hr5 _ e; have h1 := HQG.out hn9 _ hA; omega))
    have rA11 := Lib.hid (rA10.out.grownR g5 (fun b hn hb e => by obtain ⟨hn9, hA⟩ := hr5 _ e; have h1 := HQG.out hn9 _ hA; have := HQA.out hn b hb; omega))
    have rM11 := Lib.hid (rM10.out.grownR g5 (fun b hn hb e => by obtain ⟨hn9, hA⟩ := hr5 _ e; have h1 := HQG.out hn9 _ hA; have := HQM.out hn b hb; omega))
    have HB11 := Lib.hid (HB10.out.trans (HBm.out))
    have z11 := g5.size
    clear HB10 HX10 rA10 rM10 g5 hr5 HBm
    have kX_z := HX11.out.1
    have kX_0 := HX11.out.2 0 _ rfl
    have kX_1 := HX11.out.2 1 _ rfl
    have kX_2 := HX11.out.2 2 _ rfl
    go_wp2_with fail
    clear kX_z kX_0 kX_1 kX_2
    refine (heldI64_any _ AG N cG 1 rG11.out.row (by omega) (by omega)).mono ?_
    rintro e w12 ⟨rfl, bH⟩
    have HX12 := Lib.hid (HX11.out.below bH HX11.out.1)
    have rA12 := Lib.hid (rA11.out.below bH (Nat.le_refl _))
    have rM12 := Lib.hid (rM11.out.below bH (Nat.le_refl _))
    have rG12 := Lib.hid (rG11.out.below bH (Nat.le_refl _))
    have HB12 := Lib.hid (HB11.out.trans (bH.mono HB11.out.size))
    have z12 := (bH).size
    clear HB11 HX11 rA11 rM11 rG11
    clear bH
    have kX_z := HX12.out.1
    have kX_0 := HX12.out.2 0 _ rfl
    have kX_1 := HX12.out.2 1 _ rfl
    have kX_2 := HX12.out.2 2 _ rfl
    go_wp2_with fail
    clear kX_z kX_0 kX_1 kX_2
    refine (toPanel_any _ W0 H0 A0 n0 c0 zs0 rA12.out hn20).mono ?_
    rintro e w13 ⟨br, rfl, hbbr, hrowbr, bT⟩
    have HX13 := Lib.hid (HX12.out.below bT HX12.out.1)
    have rA13 := Lib.hid (rA12.out.below bT (Nat.le_refl _))
    have rM13 := Lib.hid (rM12.out.below bT (Nat.le_refl _))
    have rG13 := Lib.hid (rG12.out.below bT (Nat.le_refl _))
    have HB13 := Lib.hid (HB12.out.trans (bT.mono HB12.out.size))
    have z13 := (bT).size
    clear HB12 HX12 rA12 rM12 rG12
    clear bT
    have rRR := Lib.hid (Row.of_rowIs hrowbr hn63 HW.out)
    clear hrowbr
    go_wp2_with fail
    refine (HI.out _ _ _ rRR.out).mono ?_
    rintro e w14 ⟨AH, cH, rfl, RH, bT⟩
    clear rRR
    have HX14 := Lib.hid (HX13.out.below bT HX13.out.1)
    have rA14 := Lib.hid (rA13.out.below bT (Nat.le_refl _))
    have rM14 := Lib.hid (rM13.out.below bT (Nat.le_refl _))
    have rG14 := Lib.hid (rG13.out.below bT (Nat.le_refl _))
    have HB14 := Lib.hid (HB13.out.trans (bT.mono HB13.out.size))
    have z14 := (bT).size
    clear HB13 HX13 rA13 rM13 rG13
    clear bT
    have rH14 := Lib.hid RH.row
    clear RH
    have kX_z := HX14.out.1
    have kX_0 := HX14.out.2 0 _ rfl
    have kX_1 := HX14.out.2 1 _ rfl
    have kX_2 := HX14.out.2 2 _ rfl
    go_wp2_with fail
    clear kX_z kX_0 kX_1 kX_2
    refine (eqI64_same _ AH AM N cH cM F rH14.out rM14.out).mono ?_
    rintro e w15 ⟨rfl, bE⟩
    have HX15 := Lib.hid (HX14.out.below bE HX14.out.1)
    have rA15 := Lib.hid (rA14.out.below bE (Nat.le_refl _))
    have rM15 := Lib.hid (rM14.out.below bE (Nat.le_refl _))
    have rG15 := Lib.hid (rG14.out.below bE (Nat.le_refl _))
    have rH15 := Lib.hid (rH14.out.below bE (Nat.le_refl _))
    have HB15 := Lib.hid (HB14.out.trans (bE.mono HB14.out.size))
    have z15 := (bE).size
    clear HB14 HX14 rA14 rM14 rG14 rH14
    clear bE
    have kX_z := HX15.out.1
    have kX_0 := HX15.out.2 0 _ rfl
    have kX_1 := HX15.out.2 1 _ rfl
    have kX_2 := HX15.out.2 2 _ rfl
    go_wp2_with fail
    clear kX_z kX_0 kX_1 kX_2
    refine (heldI64_any _ AG N cG 1 rG15.out.row (by omega) (by omega)).mono ?_
    rintro e w16 ⟨rfl, bH⟩
    have HX16 := Lib.hid (HX15.out.below bH HX15.out.1)
    have rA16 := Lib.hid (rA15.out.below bH (Nat.le_refl _))
    have rM16 := Lib.hid (rM15.out.below bH (Nat.le_refl _))
    have rG16 := Lib.hid (rG15.out.below bH (Nat.le_refl _))
    have rH16 := Lib.hid (rH15.out.below bH (Nat.le_refl _))
    have HB16 := Lib.hid (HB15.out.trans (bH.mono HB15.out.size))
    have z16 := (bH).size
    clear HB15 HX15 rA15 rM15 rG15 rH15
    clear bH
    have kX_z := HX16.out.1
    have kX_0 := HX16.out.2 0 _ rfl
    have kX_1 := HX16.out.2 1 _ rfl
    have kX_2 := HX16.out.2 2 _ rfl
    go_wp2
    go_ret
    exact ⟨rfl, HB16.out⟩

theorem walk (w : World) (W0 H0 : Int) (A0 : Option Addr) (n0 c0 : Nat) (zs0 : Nat → Int) (wW0 : (Lit.int .i64 W0).wf = true) (wH0 : (Lit.int .i64 H0).wf = true) (r0 : Row .i64 w A0 n0 c0 zs0) :
    Calls Try.prog 4 #[.agg #[.int .i64 W0, .int .i64 H0, .slice A0 n0 c0]] w fun e w' => e = .returned (.bool true) ∧ Below w.heap.size w w' := by
  have hnm : n0 ≤ 9223372036854775807 := by have := r0.1; have := r0.2.1; unfold maxLen at this; omega
  by_cases hs : (n0 : Int) ≤ 1048576
  · exact core w W0 H0 A0 n0 c0 zs0 (coN W0 H0 n0 zs0) (zF zs0 n0) (okC W0 H0 n0 zs0) (by have := coN_le W0 H0 n0 zs0; omega) wW0 wH0 r0 hs (Lib.hid fun w A c hr => spec_crossingsOf w W0 H0 A n0 c zs0 hr) (Lib.hid fun w A c hr => impl_crossingsOf w W0 H0 A n0 c zs0 hr)
  · have hs : 1048576 < (n0 : Int) := by omega
    go_enter Try.func4, Try.ntmps4
    go_wp2_with fail
    refine (sz_no _ W0 H0 A0 n0 c0 1048576 (by omega) (by omega) hnm hs).mono ?_
    rintro e w1 ⟨rfl, b1⟩
    go_wp2
    go_ret
    exact ⟨rfl, Below.trans (show Below w.heap.size w (w.alloc (.cells #[.int .i64 W0, .int .i64 H0, .slice A0 n0 c0] 24)) from ((Below.refl w.heap.size w).alloc (by simp) _)) (b1.mono (by first | (simp; done) | (simp; omega)))⟩

set_option maxRecDepth 100000 in
theorem lifted (os : Os) (started : os.Started) (H : Type) (enc : TypeId × Value → H) :
    ReturnsInHanded {} Try.checked os 4 .any (Rows.fnExactCrossingsOfSpec.pre6 enc Try.prog Try.f4 Rows.fnExactCrossingsOfRow.domain false) (Rows.fnExactCrossingsOfSpec.post enc Try.prog Try.f4 false true false false) := by
  refine returnsInHanded_of_change (C := Try.checked) own started (by kernel_rfl) Try.func4
    (ChangeSpec.witness6 (enc := enc) (C := Try.checked) false ⟨#[], #[.agg #[.int .i64 0, .int .i64 0, .slice none 0 0]], []⟩ 8 (by kernel_rfl) (by kernel_rfl) (by kernel_rfl) (by kernel_rfl)) ?_
  intro W base args ds gs before hval0 hW hcnd _
  have hval : ∀ (j : Nat) t v, Try.f4.params[j]? = some t → args[j]? = some v → Value.okWide Try.prog W .any base t v := hval0
  have hW' := hW
  obtain ⟨p, q, hA0, hV, rfl, hfz, hnd⟩ := hW
  have hA : DataW.TrodAll enc Try.prog W 0 (fun _ => true) true Try.f4.params.toList args.toList ds p := hA0
  rw [Try.params4] at hA hval
  obtain ⟨v0, vs0, d0, ds0, p0, q0, hargs, rfl, rfl, h0, tl0⟩ := trodAll_cons hA
  obtain ⟨rfl, rfl, rfl⟩ := trodAll_nil tl0
  obtain rfl : args = #[v0] := by cases args; simp_all
  obtain ⟨rfl, rfl⟩ := trodVars_none hV
  have k0 := h0
  have lt0 : ∀ x ∈ p0, x.block < W.heap.size := by obtain ⟨m, hm⟩ := k0; exact DataW.trod_lt m _ _ _ hm
  obtain ⟨u00, u01, u02, y00, y01, y02, m0, rfl, rfl, hp0, g00, g01, g02⟩ := open_agg3 Try.underlying24 (by kernel_rfl) (by kernel_rfl) (hval 0 24 v0 rfl rfl) h0
  obtain ⟨W0, e00, -, wW0⟩ := DataW.trod_int Try.underlying2 g00
  obtain ⟨H0, e01, -, wH0⟩ := DataW.trod_int Try.underlying2 g01
  simp at e00 e01
  subst e00 e01
  obtain ⟨A0, n0, c0, zs0, e02, r0⟩ := row_of Try.underlying22 Try.underlying2 (by kernel_rfl) g02 (fun x hx => lt0 x (by rw [hp0]; simp [hx]))
  simp at e02
  subst e02
  clear hA0 hval0
  refine (walk W W0 H0 A0 n0 c0 zs0 wW0 wH0 r0).mono fun e W' ⟨he, bel⟩ => ?_
  subst he
  exact ⟨_, rfl, _, _, _, [], _, [], hW', trodAll_mk1 (shut_bool Try.underlying4 _), (trodAll_cons_mk (Below.trod laidOut (by kernel_rfl) (of_decide_eq_true (by kernel_rfl)) k0 bel lt0) trodAll_mk0), rfl, bel.frame _, fun h => by cases h⟩

theorem over : Rows.fnExactCrossingsOfRow.holds Try.pinned (OpenSpec.ofChange Rows.fnExactCrossingsOfSpec) :=
  OpenClaim.holds_of_wide 4 Try.f4 rfl rfl rfl rfl rfl rfl rfl ⟨rfl, rfl, rfl, rfl, rfl⟩ rfl rfl rfl rfl rfl (by kernel_rfl) Try.func4 (by kernel_rfl)
    (of_decide_eq_true (by kernel_rfl)) (by unfold Func.isWrapper; first | (rw [if_pos (by decide +kernel)]; kernel_rfl) | (rw [if_neg (by decide +kernel)]; exact ⟨rfl, rfl⟩))
    (fun os started H enc _ => lifted os started H enc)

theorem proved : Rows.FnExactCrossingsOfSaid := over
#print axioms proved
end Go.Proofs.Ytbpdjmjkjiddjaa.fnExactCrossingsOf
