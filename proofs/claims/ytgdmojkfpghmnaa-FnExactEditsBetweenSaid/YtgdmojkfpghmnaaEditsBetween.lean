/- Proved: whatever arguments EditsBetween of the program is called with (of at most 2^20 numbers together; for larger ones the law answers true at once), it answers as the model, every field, and changes nothing; what it makes is its own. No condition. -/
import Derived.Test.YtgdmojkfpghmnaaRows
import Derived.Test.YtgdmojkfpghmnaaBase
import Derived.Test.YtgdmojkfpghmnaaPan
import Derived.Test.YtgdmojkfpghmnaaMark
import Derived.Test.YtgdmojkfpghmnaaNew
import Derived.Test.YtgdmojkfpghmnaaHeap
import Derived.Test.YtgdmojkfpghmnaaShape
import Derived.Test.YtgdmojkfpghmnaaWls
import Derived.Test.YtgdmojkfpghmnaaEds
import Derived.Test.YtgdmojkfpghmnaaEdw
import Derived.Test.YtgdmojkfpghmnaaEdv
import Derived.Test.YtgdmojkfpghmnaaEdb
import Derived.Test.YtgdmojkfpghmnaaEdc
import Derived.WalkKit
import Derived.ProofKit
import Derived.OpenShut
import Derived.ShutString
import Derived.ChangeOld
import Derived.Below
import Derived.Lib.SmallJoins
namespace Go.Proofs.Ytgdmojkfpghmnaa.fnExactEditsBetween
open Go.ChangeShapes Go.WideShapes Go.ChangeAt Go.RowKit Go.Joins
open Go.ChangeMaps (open_string shut_string)
open Go.Proofs.Ytgdmojkfpghmnaa.Base
set_option linter.unusedVariables false
theorem own : ownKnob Try.prog.godebug = none := by kernel_rfl
theorem laidOut : laidOutB Try.prog = true := by kernel_rfl

set_option maxHeartbeats 4000000 in
theorem core (w : World) (W0 H0 : Int) (A0 : Option Addr) (n0 c0 : Nat) (zs0 : Nat → Int) (W1 H1 : Int) (A1 : Option Addr) (n1 c1 : Nat) (zs1 : Nat → Int) (N : Nat) (F : Nat → Int) (code : Int) (hN : N ≤ 1048576) (r0 : Row .i64 w A0 n0 c0 zs0) (r1 : Row .i64 w A1 n1 c1 zs1) (hs : (n0 : Int) + (n1 : Int) ≤ 1048576)
    (HS : Hid (∀ (w : World) (A0 : Option Addr) (c0 : Nat) (A1 : Option Addr) (c1 : Nat), Row .i64 w A0 n0 c0 zs0 → Row .i64 w A1 n1 c1 zs1 → Calls Try.prog 20 #[.agg #[.int .i64 W0, .int .i64 H0, .slice A0 n0 c0], .agg #[.int .i64 W1, .int .i64 H1, .slice A1 n1 c1]] w (ListOut 2 N F code w.heap.size w)))
    (HI : Hid (∀ (w : World) (A0 : Option Addr) (c0 : Nat) (A1 : Option Addr) (c1 : Nat), Row .i64 w A0 n0 c0 zs0 → Row .i64 w A1 n1 c1 zs1 → Calls Try.prog 21 #[.agg #[.int .i64 W0, .int .i64 H0, .slice A0 n0 c0], .agg #[.int .i64 W1, .int .i64 H1, .slice A1 n1 c1]] w (ListOut 2 N F code w.heap.size w))) :
    Calls Try.prog 5 #[.agg #[.int .i64 W0, .int .i64 H0, .slice A0 n0 c0], .agg #[.int .i64 W1, .int .i64 H1, .slice A1 n1 c1]] w fun e w' => e = .returned (.bool true) ∧ Below w.heap.size w w' := by
    have HR0 := Lib.hid r0
    have HQA0 : Hid (0 < n0 → ∀ b, blk A0 = some b → b < w.heap.size) := Lib.hid (row_blk r0)
    have hn0 : n0 ≤ 1048576 := by omega
    clear r0
    have HR1 := Lib.hid r1
    have HQA1 : Hid (0 < n1 → ∀ b, blk A1 = some b → b < w.heap.size) := Lib.hid (row_blk r1)
    have hn1 : n1 ≤ 1048576 := by omega
    clear r1
    have hcd : (code != code) = false := by simp
    have hmk : ((1 + 2 * (N : Int)) != (1 + 2 * (N : Int))) = false := by simp
    go_enter Try.func5, Try.ntmps5
    have HB0 : Hid (Below w.heap.size w ((w.alloc (.cells #[.int .i64 W0, .int .i64 H0, .slice A0 n0 c0] 24)).alloc (.cells #[.int .i64 W1, .int .i64 H1, .slice A1 n1 c1] 24))) := Lib.hid (((Below.refl w.heap.size w).alloc (by simp) _).alloc (by simp) _)
    have HX0_0 : Hid (Cel ((w.alloc (.cells #[.int .i64 W0, .int .i64 H0, .slice A0 n0 c0] 24)).alloc (.cells #[.int .i64 W1, .int .i64 H1, .slice A1 n1 c1] 24)) (w.heap.size) [.int .i64 W0, .int .i64 H0, .slice A0 n0 c0]) := Lib.hid (by have h := ((Cel.new w [.int .i64 W0, .int .i64 H0, .slice A0 n0 c0] 24).below ((Below.refl _ (w.alloc (.cells #[.int .i64 W0, .int .i64 H0, .slice A0 n0 c0] 24))).alloc (Nat.le_refl _) (.cells #[.int .i64 W1, .int .i64 H1, .slice A1 n1 c1] 24)) (by simp)); simpa using h)
    have HX1_0 : Hid (Cel ((w.alloc (.cells #[.int .i64 W0, .int .i64 H0, .slice A0 n0 c0] 24)).alloc (.cells #[.int .i64 W1, .int .i64 H1, .slice A1 n1 c1] 24)) (w.heap.size + 1) [.int .i64 W1, .int .i64 H1, .slice A1 n1 c1]) := Lib.hid (by have h := (Cel.new (w.alloc (.cells #[.int .i64 W0, .int .i64 H0, .slice A0 n0 c0] 24)) [.int .i64 W1, .int .i64 H1, .slice A1 n1 c1] 24); simpa using h)
    have rA0_0 := Lib.hid (HR0.out.below HB0.out (Nat.le_refl _))
    clear HR0
    have rA1_0 := Lib.hid (HR1.out.below HB0.out (Nat.le_refl _))
    clear HR1
    have z0 := HB0.out.size
    have z0e : (((w.alloc (.cells #[.int .i64 W0, .int .i64 H0, .slice A0 n0 c0] 24)).alloc (.cells #[.int .i64 W1, .int .i64 H1, .slice A1 n1 c1] 24))).heap.size = w.heap.size + 2 := by simp
    go_wp2_with fail
    refine (sz_yes _ W0 H0 A0 n0 c0 (1048576) (by omega) (by omega) (by omega)).mono ?_
    rintro e w1 ⟨rfl, bT⟩
    have HX0_1 := Lib.hid (HX0_0.out.below bT HX0_0.out.1)
    have HX1_1 := Lib.hid (HX1_0.out.below bT HX1_0.out.1)
    have rA0_1 := Lib.hid (rA0_0.out.below bT (Nat.le_refl _))
    have rA1_1 := Lib.hid (rA1_0.out.below bT (Nat.le_refl _))
    have HB1 := Lib.hid (HB0.out.trans (bT.mono HB0.out.size))
    have z1 := (bT).size
    clear HB0 HX0_0 HX1_0 rA0_0 rA1_0
    clear bT
    have kX0_z := HX0_1.out.1
    have kX0_0 := HX0_1.out.2 0 _ rfl
    have kX0_1 := HX0_1.out.2 1 _ rfl
    have kX0_2 := HX0_1.out.2 2 _ rfl
    have kX1_z := HX1_1.out.1
    have kX1_0 := HX1_1.out.2 0 _ rfl
    have kX1_1 := HX1_1.out.2 1 _ rfl
    have kX1_2 := HX1_1.out.2 2 _ rfl
    go_wp2_with fail
    clear kX0_z kX0_0 kX0_1 kX0_2
    clear kX1_z kX1_0 kX1_1 kX1_2
    refine (sz_yes _ W1 H1 A1 n1 c1 (1048576 - (n0 : Int)) (by omega) (by omega) (by omega)).mono ?_
    rintro e w2 ⟨rfl, bT⟩
    have HX0_2 := Lib.hid (HX0_1.out.below bT HX0_1.out.1)
    have HX1_2 := Lib.hid (HX1_1.out.below bT HX1_1.out.1)
    have rA0_2 := Lib.hid (rA0_1.out.below bT (Nat.le_refl _))
    have rA1_2 := Lib.hid (rA1_1.out.below bT (Nat.le_refl _))
    have HB2 := Lib.hid (HB1.out.trans (bT.mono HB1.out.size))
    have z2 := (bT).size
    clear HB1 HX0_1 HX1_1 rA0_1 rA1_1
    clear bT
    have kX0_z := HX0_2.out.1
    have kX0_0 := HX0_2.out.2 0 _ rfl
    have kX0_1 := HX0_2.out.2 1 _ rfl
    have kX0_2 := HX0_2.out.2 2 _ rfl
    have kX1_z := HX1_2.out.1
    have kX1_0 := HX1_2.out.2 0 _ rfl
    have kX1_1 := HX1_2.out.2 1 _ rfl
    have kX1_2 := HX1_2.out.2 2 _ rfl
    have OL := Lib.hid (Old.mk_ (Below.refl w2.heap.size w2).drew)
    go_wp2_with fail
    go_region_held3 (fun w' => (∀ b o, b < (w2).heap.size → w'.cell? ⟨b, o, none⟩ = (w2).cell? ⟨b, o, none⟩) ∧ Below (w2).heap.size (w2) w') (first | assumption | exact OL.out | exact Old.trans (by assumption) (by assumption))
      (first | (go_at_call 10; (with_reducible refine (toPanel_own _ W0 H0 A0 n0 c0 zs0 ?_ hn0).mono ?_); exact rA0_2.out.old (by assumption); rintro e wP0 ⟨AP0, cP0, rfl, RP0, bP0⟩) | (go_at_call 10; (with_reducible refine (toPanel_own _ W1 H1 A1 n1 c1 zs1 ?_ hn1).mono ?_); exact rA1_2.out.old (by assumption); rintro e wP1 ⟨AP1, cP1, rfl, RP1, bP1⟩) | (go_at_call 20; refine Calls.mono (HS.out _ _ _ _ _ ?_ ?_) ?_; exact (RP0.row.below bP1 (Nat.le_refl _)); exact RP1.row; rintro e wq3 ⟨AM, cM, rfl, RM, bC⟩))
    clear kX0_z kX0_0 kX0_1 kX0_2
    clear kX1_z kX1_0 kX1_1 kX1_2
    rename_i hS
    have b8x := hS.2
    have HQM : Hid (0 < N → ∀ b, blk AM = some b → wP1.heap.size ≤ b ∧ b < wq3.heap.size) := Lib.hid (fun hn b hb => ⟨RM.blk_ge hn b hb, RM.row.blk_lt hn b hb⟩)
    clear hS OL bC RP0 bP0 RP1 bP1
    obtain ⟨w3, rfl⟩ : ∃ w' : World, w' = wq3 := ⟨_, rfl⟩
    have HX0_3 := Lib.hid (HX0_2.out.below b8x HX0_2.out.1)
    have HX1_3 := Lib.hid (HX1_2.out.below b8x HX1_2.out.1)
    have rA0_3 := Lib.hid (rA0_2.out.below b8x (Nat.le_refl _))
    have rA1_3 := Lib.hid (rA1_2.out.below b8x (Nat.le_refl _))
    have HB3 := Lib.hid (HB2.out.trans (b8x.mono HB2.out.size))
    have z3 := (b8x).size
    clear HB2 HX0_2 HX1_2 rA0_2 rA1_2
    clear b8x
    have rM_3 := Lib.hid RM
    clear RM
    have kX0_z := HX0_3.out.1
    have kX0_0 := HX0_3.out.2 0 _ rfl
    have kX0_1 := HX0_3.out.2 1 _ rfl
    have kX0_2 := HX0_3.out.2 2 _ rfl
    have kX1_z := HX1_3.out.1
    have kX1_0 := HX1_3.out.2 0 _ rfl
    have kX1_1 := HX1_3.out.2 1 _ rfl
    have kX1_2 := HX1_3.out.2 2 _ rfl
    go_wp2_with fail
    clear kX0_z kX0_0 kX0_1 kX0_2
    clear kX1_z kX1_0 kX1_1 kX1_2
    refine (toPanel_own _ W0 H0 A0 n0 c0 zs0 rA0_3.out hn0).mono ?_
    rintro e w4 ⟨AX0, cX0, rfl, RM, bT⟩
    have HQX0 : Hid (0 < n0 → ∀ b, blk AX0 = some b → w3.heap.size ≤ b ∧ b < w4.heap.size) := Lib.hid (fun hn b hb => by obtain ⟨b', h1, h2, h3⟩ := RM.base_le hn; rw [hb] at h1; injection h1 with h1; subst h1; exact ⟨h2, h3⟩)
    have HX0_4 := Lib.hid (HX0_3.out.below bT HX0_3.out.1)
    have HX1_4 := Lib.hid (HX1_3.out.below bT HX1_3.out.1)
    have rA0_4 := Lib.hid (rA0_3.out.below bT (Nat.le_refl _))
    have rA1_4 := Lib.hid (rA1_3.out.below bT (Nat.le_refl _))
    have rM_4 := Lib.hid (rM_3.out.below bT (Nat.le_refl _))
    have HB4 := Lib.hid (HB3.out.trans (bT.mono HB3.out.size))
    have z4 := (bT).size
    clear HB3 HX0_3 HX1_3 rA0_3 rA1_3 rM_3
    clear bT
    have rX0_4 := Lib.hid RM
    clear RM
    have kX0_z := HX0_4.out.1
    have kX0_0 := HX0_4.out.2 0 _ rfl
    have kX0_1 := HX0_4.out.2 1 _ rfl
    have kX0_2 := HX0_4.out.2 2 _ rfl
    have kX1_z := HX1_4.out.1
    have kX1_0 := HX1_4.out.2 0 _ rfl
    have kX1_1 := HX1_4.out.2 1 _ rfl
    have kX1_2 := HX1_4.out.2 2 _ rfl
    go_wp2_with fail
    clear kX0_z kX0_0 kX0_1 kX0_2
    clear kX1_z kX1_0 kX1_1 kX1_2
    have bN := (Below.refl w4.heap.size w4).alloc (Nat.le_refl _) (.cells #[.int .i64 W0, .int .i64 H0, .slice AX0 n0 cX0] 29)
    have HCY0_5 := Lib.hid (Cel.new w4 [.int .i64 W0, .int .i64 H0, .slice AX0 n0 cX0] 29)
    have HX0_5 := Lib.hid (HX0_4.out.below bN HX0_4.out.1)
    have HX1_5 := Lib.hid (HX1_4.out.below bN HX1_4.out.1)
    have rA0_5 := Lib.hid (rA0_4.out.below bN (Nat.le_refl _))
    have rA1_5 := Lib.hid (rA1_4.out.below bN (Nat.le_refl _))
    have rM_5 := Lib.hid (rM_4.out.below bN (Nat.le_refl _))
    have rX0_5 := Lib.hid (rX0_4.out.below bN (Nat.le_refl _))
    have HB5 := Lib.hid (HB4.out.trans (bN.mono HB4.out.size))
    have z5 := (bN).size
    clear HB4 HX0_4 HX1_4 rA0_4 rA1_4 rM_4 rX0_4
    have z5e : w4.heap.size + 1 ≤ (w4.alloc (.cells #[.int .i64 W0, .int .i64 H0, .slice AX0 n0 cX0] 29)).heap.size := by simp
    clear bN
    generalize w4.alloc (.cells #[.int .i64 W0, .int .i64 H0, .slice AX0 n0 cX0] 29) = w5 at *
    generalize w4.heap.size = bY0 at *
    have kX0_z := HX0_5.out.1
    have kX0_0 := HX0_5.out.2 0 _ rfl
    have kX0_1 := HX0_5.out.2 1 _ rfl
    have kX0_2 := HX0_5.out.2 2 _ rfl
    have kX1_z := HX1_5.out.1
    have kX1_0 := HX1_5.out.2 0 _ rfl
    have kX1_1 := HX1_5.out.2 1 _ rfl
    have kX1_2 := HX1_5.out.2 2 _ rfl
    have kCY0_z := HCY0_5.out.1
    have kCY0_0 := HCY0_5.out.2 0 _ rfl
    have kCY0_1 := HCY0_5.out.2 1 _ rfl
    have kCY0_2 := HCY0_5.out.2 2 _ rfl
    go_wp2_with fail
    clear kX0_z kX0_0 kX0_1 kX0_2
    clear kX1_z kX1_0 kX1_1 kX1_2
    clear kCY0_z kCY0_0 kCY0_1 kCY0_2
    refine (toPanel_own _ W1 H1 A1 n1 c1 zs1 rA1_5.out hn1).mono ?_
    rintro e w6 ⟨AX1, cX1, rfl, RM, bT⟩
    have HQX1 : Hid (0 < n1 → ∀ b, blk AX1 = some b → w5.heap.size ≤ b ∧ b < w6.heap.size) := Lib.hid (fun hn b hb => by obtain ⟨b', h1, h2, h3⟩ := RM.base_le hn; rw [hb] at h1; injection h1 with h1; subst h1; exact ⟨h2, h3⟩)
    have HX0_6 := Lib.hid (HX0_5.out.below bT HX0_5.out.1)
    have HX1_6 := Lib.hid (HX1_5.out.below bT HX1_5.out.1)
    have HCY0_6 := Lib.hid (HCY0_5.out.below bT HCY0_5.out.1)
    have rA0_6 := Lib.hid (rA0_5.out.below bT (Nat.le_refl _))
    have rA1_6 := Lib.hid (rA1_5.out.below bT (Nat.le_refl _))
    have rM_6 := Lib.hid (rM_5.out.below bT (Nat.le_refl _))
    have rX0_6 := Lib.hid (rX0_5.out.below bT (Nat.le_refl _))
    have HB6 := Lib.hid (HB5.out.trans (bT.mono HB5.out.size))
    have z6 := (bT).size
    clear HB5 HX0_5 HX1_5 HCY0_5 rA0_5 rA1_5 rM_5 rX0_5
    clear bT
    have rX1_6 := Lib.hid RM
    clear RM
    have kX0_z := HX0_6.out.1
    have kX0_0 := HX0_6.out.2 0 _ rfl
    have kX0_1 := HX0_6.out.2 1 _ rfl
    have kX0_2 := HX0_6.out.2 2 _ rfl
    have kX1_z := HX1_6.out.1
    have kX1_0 := HX1_6.out.2 0 _ rfl
    have kX1_1 := HX1_6.out.2 1 _ rfl
    have kX1_2 := HX1_6.out.2 2 _ rfl
    have kCY0_z := HCY0_6.out.1
    have kCY0_0 := HCY0_6.out.2 0 _ rfl
    have kCY0_1 := HCY0_6.out.2 1 _ rfl
    have kCY0_2 := HCY0_6.out.2 2 _ rfl
    go_wp2_with fail
    clear kX0_z kX0_0 kX0_1 kX0_2
    clear kX1_z kX1_0 kX1_1 kX1_2
    clear kCY0_z kCY0_0 kCY0_1 kCY0_2
    have bN := (Below.refl w6.heap.size w6).alloc (Nat.le_refl _) (.cells #[.int .i64 W1, .int .i64 H1, .slice AX1 n1 cX1] 29)
    have HCY1_7 := Lib.hid (Cel.new w6 [.int .i64 W1, .int .i64 H1, .slice AX1 n1 cX1] 29)
    have HX0_7 := Lib.hid (HX0_6.out.below bN HX0_6.out.1)
    have HX1_7 := Lib.hid (HX1_6.out.below bN HX1_6.out.1)
    have HCY0_7 := Lib.hid (HCY0_6.out.below bN HCY0_6.out.1)
    have rA0_7 := Lib.hid (rA0_6.out.below bN (Nat.le_refl _))
    have rA1_7 := Lib.hid (rA1_6.out.below bN (Nat.le_refl _))
    have rM_7 := Lib.hid (rM_6.out.below bN (Nat.le_refl _))
    have rX0_7 := Lib.hid (rX0_6.out.below bN (Nat.le_refl _))
    have rX1_7 := Lib.hid (rX1_6.out.below bN (Nat.le_refl _))
    have HB7 := Lib.hid (HB6.out.trans (bN.mono HB6.out.size))
    have z7 := (bN).size
    clear HB6 HX0_6 HX1_6 HCY0_6 rA0_6 rA1_6 rM_6 rX0_6 rX1_6
    have z7e : w6.heap.size + 1 ≤ (w6.alloc (.cells #[.int .i64 W1, .int .i64 H1, .slice AX1 n1 cX1] 29)).heap.size := by simp
    clear bN
    generalize w6.alloc (.cells #[.int .i64 W1, .int .i64 H1, .slice AX1 n1 cX1] 29) = w7 at *
    generalize w6.heap.size = bY1 at *
    have kX0_z := HX0_7.out.1
    have kX0_0 := HX0_7.out.2 0 _ rfl
    have kX0_1 := HX0_7.out.2 1 _ rfl
    have kX0_2 := HX0_7.out.2 2 _ rfl
    have kX1_z := HX1_7.out.1
    have kX1_0 := HX1_7.out.2 0 _ rfl
    have kX1_1 := HX1_7.out.2 1 _ rfl
    have kX1_2 := HX1_7.out.2 2 _ rfl
    have kCY0_z := HCY0_7.out.1
    have kCY0_0 := HCY0_7.out.2 0 _ rfl
    have kCY0_1 := HCY0_7.out.2 1 _ rfl
    have kCY0_2 := HCY0_7.out.2 2 _ rfl
    have kCY1_z := HCY1_7.out.1
    have kCY1_0 := HCY1_7.out.2 0 _ rfl
    have kCY1_1 := HCY1_7.out.2 1 _ rfl
    have kCY1_2 := HCY1_7.out.2 2 _ rfl
    go_wp2_with fail
    clear kX0_z kX0_0 kX0_1 kX0_2
    clear kX1_z kX1_0 kX1_1 kX1_2
    clear kCY0_z kCY0_0 kCY0_1 kCY0_2
    clear kCY1_z kCY1_0 kCY1_1 kCY1_2
    refine (HI.out _ _ _ _ _ rX0_7.out.row rX1_7.out.row).mono ?_
    rintro e w8 ⟨AG, cG, rfl, RM, bC⟩
    have HQG : Hid (0 < N → ∀ b, blk AG = some b → w7.heap.size ≤ b ∧ b < w8.heap.size) := Lib.hid (fun hn b hb => ⟨RM.blk_ge hn b hb, RM.row.blk_lt hn b hb⟩)
    have HX0_8 := Lib.hid (HX0_7.out.below bC HX0_7.out.1)
    have HX1_8 := Lib.hid (HX1_7.out.below bC HX1_7.out.1)
    have HCY0_8 := Lib.hid (HCY0_7.out.below bC HCY0_7.out.1)
    have HCY1_8 := Lib.hid (HCY1_7.out.below bC HCY1_7.out.1)
    have rA0_8 := Lib.hid (rA0_7.out.below bC (Nat.le_refl _))
    have rA1_8 := Lib.hid (rA1_7.out.below bC (Nat.le_refl _))
    have rM_8 := Lib.hid (rM_7.out.below bC (Nat.le_refl _))
    have rX0_8 := Lib.hid (rX0_7.out.below bC (Nat.le_refl _))
    have rX1_8 := Lib.hid (rX1_7.out.below bC (Nat.le_refl _))
    have HB8 := Lib.hid (HB7.out.trans (bC.mono HB7.out.size))
    have z8 := (bC).size
    clear HB7 HX0_7 HX1_7 HCY0_7 HCY1_7 rA0_7 rA1_7 rM_7 rX0_7 rX1_7
    clear bC
    have rG_8 := Lib.hid RM
    clear RM
    have kX0_z := HX0_8.out.1
    have kX0_0 := HX0_8.out.2 0 _ rfl
    have kX0_1 := HX0_8.out.2 1 _ rfl
    have kX0_2 := HX0_8.out.2 2 _ rfl
    have kX1_z := HX1_8.out.1
    have kX1_0 := HX1_8.out.2 0 _ rfl
    have kX1_1 := HX1_8.out.2 1 _ rfl
    have kX1_2 := HX1_8.out.2 2 _ rfl
    have kCY0_z := HCY0_8.out.1
    have kCY0_0 := HCY0_8.out.2 0 _ rfl
    have kCY0_1 := HCY0_8.out.2 1 _ rfl
    have kCY0_2 := HCY0_8.out.2 2 _ rfl
    have kCY1_z := HCY1_8.out.1
    have kCY1_0 := HCY1_8.out.2 0 _ rfl
    have kCY1_1 := HCY1_8.out.2 1 _ rfl
    have kCY1_2 := HCY1_8.out.2 2 _ rfl
    go_wp2_with fail
    clear kX0_z kX0_0 kX0_1 kX0_2
    clear kX1_z kX1_0 kX1_1 kX1_2
    clear kCY0_z kCY0_0 kCY0_1 kCY0_2
    clear kCY1_z kCY1_0 kCY1_1 kCY1_2
    refine (eqEdits_same _ AG AM N cG cM F rG_8.out.row rM_8.out.row).mono ?_
    rintro e w9 ⟨rfl, bE⟩
    have HX0_9 := Lib.hid (HX0_8.out.below bE HX0_8.out.1)
    have HX1_9 := Lib.hid (HX1_8.out.below bE HX1_8.out.1)
    have HCY0_9 := Lib.hid (HCY0_8.out.below bE HCY0_8.out.1)
    have HCY1_9 := Lib.hid (HCY1_8.out.below bE HCY1_8.out.1)
    have rA0_9 := Lib.hid (rA0_8.out.below bE (Nat.le_refl _))
    have rA1_9 := Lib.hid (rA1_8.out.below bE (Nat.le_refl _))
    have rM_9 := Lib.hid (rM_8.out.below bE (Nat.le_refl _))
    have rX0_9 := Lib.hid (rX0_8.out.below bE (Nat.le_refl _))
    have rX1_9 := Lib.hid (rX1_8.out.below bE (Nat.le_refl _))
    have rG_9 := Lib.hid (rG_8.out.below bE (Nat.le_refl _))
    have HB9 := Lib.hid (HB8.out.trans (bE.mono HB8.out.size))
    have z9 := (bE).size
    clear HB8 HX0_8 HX1_8 HCY0_8 HCY1_8 rA0_8 rA1_8 rM_8 rX0_8 rX1_8 rG_8
    clear bE
    have kX0_z := HX0_9.out.1
    have kX0_0 := HX0_9.out.2 0 _ rfl
    have kX0_1 := HX0_9.out.2 1 _ rfl
    have kX0_2 := HX0_9.out.2 2 _ rfl
    have kX1_z := HX1_9.out.1
    have kX1_0 := HX1_9.out.2 0 _ rfl
    have kX1_1 := HX1_9.out.2 1 _ rfl
    have kX1_2 := HX1_9.out.2 2 _ rfl
    have kCY0_z := HCY0_9.out.1
    have kCY0_0 := HCY0_9.out.2 0 _ rfl
    have kCY0_1 := HCY0_9.out.2 1 _ rfl
    have kCY0_2 := HCY0_9.out.2 2 _ rfl
    have kCY1_z := HCY1_9.out.1
    have kCY1_0 := HCY1_9.out.2 0 _ rfl
    have kCY1_1 := HCY1_9.out.2 1 _ rfl
    have kCY1_2 := HCY1_9.out.2 2 _ rfl
    have OL := Lib.hid (Old.mk_ (Below.refl w9.heap.size w9).drew)
    go_wp2_with fail
    go_region_held3 (fun w' => (∀ b o, b < (w9).heap.size → w'.cell? ⟨b, o, none⟩ = (w9).cell? ⟨b, o, none⟩) ∧ Below (w9).heap.size (w9) w')
      (first | assumption | exact OL.out | exact Old.trans (by assumption) (by assumption))
      (first | (go_at_call 10; refine (toPanel_own _ W0 H0 A0 n0 c0 zs0 ?_ hn0).mono ?_; exact rA0_9.out.old (by assumption); rintro e wqa ⟨Az, cz, rfl, RZ, b7⟩) | (go_at_call 13; refine (eqPanel_same _ W0 H0 _ _ n0 _ _ zs0 ?_ ?_).mono ?_; exact rX0_9.out.row.old (by assumption); exact RZ.row; rintro e wqb ⟨rfl, b8⟩))
    clear kX0_z kX0_0 kX0_1 kX0_2
    clear kX1_z kX1_0 kX1_1 kX1_2
    clear kCY0_z kCY0_0 kCY0_1 kCY0_2
    clear kCY1_z kCY1_0 kCY1_1 kCY1_2
    rename_i hS
    have b8x := hS.2
    clear hS OL RZ b7 b8
    obtain ⟨w10, rfl⟩ : ∃ w' : World, w' = wqb := ⟨_, rfl⟩
    have HX0_10 := Lib.hid (HX0_9.out.below b8x HX0_9.out.1)
    have HX1_10 := Lib.hid (HX1_9.out.below b8x HX1_9.out.1)
    have HCY0_10 := Lib.hid (HCY0_9.out.below b8x HCY0_9.out.1)
    have HCY1_10 := Lib.hid (HCY1_9.out.below b8x HCY1_9.out.1)
    have rA0_10 := Lib.hid (rA0_9.out.below b8x (Nat.le_refl _))
    have rA1_10 := Lib.hid (rA1_9.out.below b8x (Nat.le_refl _))
    have rM_10 := Lib.hid (rM_9.out.below b8x (Nat.le_refl _))
    have rX0_10 := Lib.hid (rX0_9.out.below b8x (Nat.le_refl _))
    have rX1_10 := Lib.hid (rX1_9.out.below b8x (Nat.le_refl _))
    have rG_10 := Lib.hid (rG_9.out.below b8x (Nat.le_refl _))
    have HB10 := Lib.hid (HB9.out.trans (b8x.mono HB9.out.size))
    have z10 := (b8x).size
    clear HB9 HX0_9 HX1_9 HCY0_9 HCY1_9 rA0_9 rA1_9 rM_9 rX0_9 rX1_9 rG_9
    clear b8x
    have kX0_z := HX0_10.out.1
    have kX0_0 := HX0_10.out.2 0 _ rfl
    have kX0_1 := HX0_10.out.2 1 _ rfl
    have kX0_2 := HX0_10.out.2 2 _ rfl
    have kX1_z := HX1_10.out.1
    have kX1_0 := HX1_10.out.2 0 _ rfl
    have kX1_1 := HX1_10.out.2 1 _ rfl
    have kX1_2 := HX1_10.out.2 2 _ rfl
    have kCY0_z := HCY0_10.out.1
    have kCY0_0 := HCY0_10.out.2 0 _ rfl
    have kCY0_1 := HCY0_10.out.2 1 _ rfl
    have kCY0_2 := HCY0_10.out.2 2 _ rfl
    have kCY1_z := HCY1_10.out.1
    have kCY1_0 := HCY1_10.out.2 0 _ rfl
    have kCY1_1 := HCY1_10.out.2 1 _ rfl
    have kCY1_2 := HCY1_10.out.2 2 _ rfl
    have OL := Lib.hid (Old.mk_ (Below.refl w10.heap.size w10).drew)
    go_wp2_with fail
    go_region_held3 (fun w' => (∀ b o, b < (w10).heap.size → w'.cell? ⟨b, o, none⟩ = (w10).cell? ⟨b, o, none⟩) ∧ Below (w10).heap.size (w10) w')
      (first | assumption | exact OL.out | exact Old.trans (by assumption) (by assumption))
      (first | (go_at_call 10; refine (toPanel_own _ W1 H1 A1 n1 c1 zs1 ?_ hn1).mono ?_; exact rA1_10.out.old (by assumption); rintro e wqa ⟨Az, cz, rfl, RZ, b7⟩) | (go_at_call 13; refine (eqPanel_same _ W1 H1 _ _ n1 _ _ zs1 ?_ ?_).mono ?_; exact rX1_10.out.row.old (by assumption); exact RZ.row; rintro e wqb ⟨rfl, b8⟩))
    clear kX0_z kX0_0 kX0_1 kX0_2
    clear kX1_z kX1_0 kX1_1 kX1_2
    clear kCY0_z kCY0_0 kCY0_1 kCY0_2
    clear kCY1_z kCY1_0 kCY1_1 kCY1_2
    rename_i hS
    have b8x := hS.2
    clear hS OL RZ b7 b8
    obtain ⟨w11, rfl⟩ : ∃ w' : World, w' = wqb := ⟨_, rfl⟩
    have HX0_11 := Lib.hid (HX0_10.out.below b8x HX0_10.out.1)
    have HX1_11 := Lib.hid (HX1_10.out.below b8x HX1_10.out.1)
    have HCY0_11 := Lib.hid (HCY0_10.out.below b8x HCY0_10.out.1)
    have HCY1_11 := Lib.hid (HCY1_10.out.below b8x HCY1_10.out.1)
    have rA0_11 := Lib.hid (rA0_10.out.below b8x (Nat.le_refl _))
    have rA1_11 := Lib.hid (rA1_10.out.below b8x (Nat.le_refl _))
    have rM_11 := Lib.hid (rM_10.out.below b8x (Nat.le_refl _))
    have rX0_11 := Lib.hid (rX0_10.out.below b8x (Nat.le_refl _))
    have rX1_11 := Lib.hid (rX1_10.out.below b8x (Nat.le_refl _))
    have rG_11 := Lib.hid (rG_10.out.below b8x (Nat.le_refl _))
    have HB11 := Lib.hid (HB10.out.trans (b8x.mono HB10.out.size))
    have z11 := (b8x).size
    clear HB10 HX0_10 HX1_10 HCY0_10 HCY1_10 rA0_10 rA1_10 rM_10 rX0_10 rX1_10 rG_10
    clear b8x
    have kX0_z := HX0_11.out.1
    have kX0_0 := HX0_11.out.2 0 _ rfl
    have kX0_1 := HX0_11.out.2 1 _ rfl
    have kX0_2 := HX0_11.out.2 2 _ rfl
    have kX1_z := HX1_11.out.1
    have kX1_0 := HX1_11.out.2 0 _ rfl
    have kX1_1 := HX1_11.out.2 1 _ rfl
    have kX1_2 := HX1_11.out.2 2 _ rfl
    have kCY0_z := HCY0_11.out.1
    have kCY0_0 := HCY0_11.out.2 0 _ rfl
    have kCY0_1 := HCY0_11.out.2 1 _ rfl
    have kCY0_2 := HCY0_11.out.2 2 _ rfl
    have kCY1_z := HCY1_11.out.1
    have kCY1_0 := HCY1_11.out.2 0 _ rfl
    have kCY1_1 := HCY1_11.out.2 1 _ rfl
    have kCY1_2 := HCY1_11.out.2 2 _ rfl
    go_wp2_with fail
    clear kX0_z kX0_0 kX0_1 kX0_2
    clear kX1_z kX1_0 kX1_1 kX1_2
    clear kCY0_z kCY0_0 kCY0_1 kCY0_2
    clear kCY1_z kCY1_0 kCY1_1 kCY1_2
    refine (markPanel_any _ w3.heap.size W0 H0 AX0 n0 cX0 zs0 (1) rX0_11.out (by omega) (by omega)).mono ?_
    rintro e w12 ⟨rfl, R5, r, g5, hr5⟩
    have HBm := Lib.hid (Below.mono (Marked.below g5 hr5 rX0_11.out (by omega)) (show w.heap.size ≤ w3.heap.size by omega))
    have HX0_12 := Lib.hid (HX0_11.out.grownR g5 (fun e => by obtain ⟨hn9, hA⟩ := hr5 _ e; have h1 := HQX0.out hn9 _ hA; omega))
    have HX1_12 := Lib.hid (HX1_11.out.grownR g5 (fun e => by obtain ⟨hn9, hA⟩ := hr5 _ e; have h1 := HQX0.out hn9 _ hA; omega))
    have HCY0_12 := Lib.hid (HCY0_11.out.grownR g5 (fun e => by obtain ⟨hn9, hA⟩ := hr5 _ e; have h1 := HQX0.out hn9 _ hA; omega))
    have HCY1_12 := Lib.hid (HCY1_11.out.grownR g5 (fun e => by obtain ⟨hn9, hA⟩ := hr5 _ e; have h1 := HQX0.out hn9 _ hA; omega))
    have rA0_12 := Lib.hid (rA0_11.out.grownR g5 (fun b hn hb e => by obtain ⟨hn9, hA⟩ := hr5 _ e; have h1 := HQX0.out hn9 _ hA; have := HQA0.out hn b hb; omega))
    have rA1_12 := Lib.hid (rA1_11.out.grownR g5 (fun b hn hb e => by obtain ⟨hn9, hA⟩ := hr5 _ e; have h1 := HQX0.out hn9 _ hA; have := HQA1.out hn b hb; omega))
    have rM_12 := Lib.hid (rM_11.out.grownR g5 (fun b hn hb e => by obtain ⟨hn9, hA⟩ := hr5 _ e; have h1 := HQX0.out hn9 _ hA; have := HQM.out hn b hb; omega))
    have rX1_12 := Lib.hid (rX1_11.out.grownR g5 (fun b hn hb e => by obtain ⟨hn9, hA⟩ := hr5 _ e; have h1 := HQX0.out hn9 _ hA; have := HQX1.out hn b hb; omega))
    have rG_12 := Lib.hid (rG_11.out.grownR g5 (fun b hn hb e => by obtain ⟨hn9, hA⟩ := hr5 _ e; have h1 := HQX0.out hn9 _ hA; have := HQG.out hn b hb; omega))
    have rX0_12 := Lib.hid R5
    have z12 := g5.size
    have HB12 := Lib.hid (HB11.out.trans HBm.out)
    clear R5 g5 hr5 HBm HB11 HX0_11 HX1_11 HCY0_11 HCY1_11 rA0_11 rA1_11 rM_11 rX0_11 rX1_11 rG_11
    have kX0_z := HX0_12.out.1
    have kX0_0 := HX0_12.out.2 0 _ rfl
    have kX0_1 := HX0_12.out.2 1 _ rfl
    have kX0_2 := HX0_12.out.2 2 _ rfl
    have kX1_z := HX1_12.out.1
    have kX1_0 := HX1_12.out.2 0 _ rfl
    have kX1_1 := HX1_12.out.2 1 _ rfl
    have kX1_2 := HX1_12.out.2 2 _ rfl
    have kCY0_z := HCY0_12.out.1
    have kCY0_0 := HCY0_12.out.2 0 _ rfl
    have kCY0_1 := HCY0_12.out.2 1 _ rfl
    have kCY0_2 := HCY0_12.out.2 2 _ rfl
    have kCY1_z := HCY1_12.out.1
    have kCY1_0 := HCY1_12.out.2 0 _ rfl
    have kCY1_1 := HCY1_12.out.2 1 _ rfl
    have kCY1_2 := HCY1_12.out.2 2 _ rfl
    go_wp2_with fail
    clear kX0_z kX0_0 kX0_1 kX0_2
    clear kX1_z kX1_0 kX1_1 kX1_2
    clear kCY0_z kCY0_0 kCY0_1 kCY0_2
    clear kCY1_z kCY1_0 kCY1_1 kCY1_2
    refine (markPanel_any _ w5.heap.size W1 H1 AX1 n1 cX1 zs1 (1 + (n0 : Int)) rX1_12.out (by omega) (by omega)).mono ?_
    rintro e w13 ⟨rfl, R5, r, g5, hr5⟩
    have HBm := Lib.hid (Below.mono (Marked.below g5 hr5 rX1_12.out (by omega)) (show w.heap.size ≤ w5.heap.size by omega))
    have HX0_13 := Lib.hid (HX0_12.out.grownR g5 (fun e => by obtain ⟨hn9, hA⟩ := hr5 _ e; have h1 := HQX1.out hn9 _ hA; omega))
    have HX1_13 := Lib.hid (HX1_12.out.grownR g5 (fun e => by obtain ⟨hn9, hA⟩ := hr5 _ e; have h1 := HQX1.out hn9 _ hA; omega))
    have HCY0_13 := Lib.hid (HCY0_12.out.grownR g5 (fun e => by obtain ⟨hn9, hA⟩ := hr5 _ e; have h1 := HQX1.out hn9 _ hA; omega))
    have HCY1_13 := Lib.hid (HCY1_12.out.grownR g5 (fun e => by obtain ⟨hn9, hA⟩ := hr5 _ e; have h1 := HQX1.out hn9 _ hA; omega))
    have rA0_13 := Lib.hid (rA0_12.out.grownR g5 (fun b hn hb e => by obtain ⟨hn9, hA⟩ := hr5 _ e; have h1 := HQX1.out hn9 _ hA; have := HQA0.out hn b hb; omega))
    have rA1_13 := Lib.hid (rA1_12.out.grownR g5 (fun b hn hb e => by obtain ⟨hn9, hA⟩ := hr5 _ e; have h1 := HQX1.out hn9 _ hA; have := HQA1.out hn b hb; omega))
    have rM_13 := Lib.hid (rM_12.out.grownR g5 (fun b hn hb e => by obtain ⟨hn9, hA⟩ := hr5 _ e; have h1 := HQX1.out hn9 _ hA; have := HQM.out hn b hb; omega))
    have rX0_13 := Lib.hid (rX0_12.out.grownR g5 (fun b hn hb e => by obtain ⟨hn9, hA⟩ := hr5 _ e; have h1 := HQX1.out hn9 _ hA; have := HQX0.out hn b hb; omega))
    have rG_13 := Lib.hid (rG_12.out.grownR g5 (fun b hn hb e => by obtain ⟨hn9, hA⟩ := hr5 _ e; have h1 := HQX1.out hn9 _ hA; have := HQG.out hn b hb; omega))
    have rX1_13 := Lib.hid R5
    have z13 := g5.size
    have HB13 := Lib.hid (HB12.out.trans HBm.out)
    clear R5 g5 hr5 HBm HB12 HX0_12 HX1_12 HCY0_12 HCY1_12 rA0_12 rA1_12 rM_12 rX0_12 rX1_12 rG_12
    have kX0_z := HX0_13.out.1
    have kX0_0 := HX0_13.out.2 0 _ rfl
    have kX0_1 := HX0_13.out.2 1 _ rfl
    have kX0_2 := HX0_13.out.2 2 _ rfl
    have kX1_z := HX1_13.out.1
    have kX1_0 := HX1_13.out.2 0 _ rfl
    have kX1_1 := HX1_13.out.2 1 _ rfl
    have kX1_2 := HX1_13.out.2 2 _ rfl
    have kCY0_z := HCY0_13.out.1
    have kCY0_0 := HCY0_13.out.2 0 _ rfl
    have kCY0_1 := HCY0_13.out.2 1 _ rfl
    have kCY0_2 := HCY0_13.out.2 2 _ rfl
    have kCY1_z := HCY1_13.out.1
    have kCY1_0 := HCY1_13.out.2 0 _ rfl
    have kCY1_1 := HCY1_13.out.2 1 _ rfl
    have kCY1_2 := HCY1_13.out.2 2 _ rfl
    go_wp2_with fail
    clear kX0_z kX0_0 kX0_1 kX0_2
    clear kX1_z kX1_0 kX1_1 kX1_2
    clear kCY0_z kCY0_0 kCY0_1 kCY0_2
    clear kCY1_z kCY1_0 kCY1_1 kCY1_2
    refine (eqEdits_same _ AG AM N cG cM F rG_13.out.row rM_13.out.row).mono ?_
    rintro e w14 ⟨rfl, bE⟩
    have HX0_14 := Lib.hid (HX0_13.out.below bE HX0_13.out.1)
    have HX1_14 := Lib.hid (HX1_13.out.below bE HX1_13.out.1)
    have HCY0_14 := Lib.hid (HCY0_13.out.below bE HCY0_13.out.1)
    have HCY1_14 := Lib.hid (HCY1_13.out.below bE HCY1_13.out.1)
    have rA0_14 := Lib.hid (rA0_13.out.below bE (Nat.le_refl _))
    have rA1_14 := Lib.hid (rA1_13.out.below bE (Nat.le_refl _))
    have rM_14 := Lib.hid (rM_13.out.below bE (Nat.le_refl _))
    have rX0_14 := Lib.hid (rX0_13.out.below bE (Nat.le_refl _))
    have rX1_14 := Lib.hid (rX1_13.out.below bE (Nat.le_refl _))
    have rG_14 := Lib.hid (rG_13.out.below bE (Nat.le_refl _))
    have HB14 := Lib.hid (HB13.out.trans (bE.mono HB13.out.size))
    have z14 := (bE).size
    clear HB13 HX0_13 HX1_13 HCY0_13 HCY1_13 rA0_13 rA1_13 rM_13 rX0_13 rX1_13 rG_13
    clear bE
    clear rX0_14
    clear rX1_14
    have kX0_z := HX0_14.out.1
    have kX0_0 := HX0_14.out.2 0 _ rfl
    have kX0_1 := HX0_14.out.2 1 _ rfl
    have kX0_2 := HX0_14.out.2 2 _ rfl
    have kX1_z := HX1_14.out.1
    have kX1_0 := HX1_14.out.2 0 _ rfl
    have kX1_1 := HX1_14.out.2 1 _ rfl
    have kX1_2 := HX1_14.out.2 2 _ rfl
    have kCY0_z := HCY0_14.out.1
    have kCY0_0 := HCY0_14.out.2 0 _ rfl
    have kCY0_1 := HCY0_14.out.2 1 _ rfl
    have kCY0_2 := HCY0_14.out.2 2 _ rfl
    have kCY1_z := HCY1_14.out.1
    have kCY1_0 := HCY1_14.out.2 0 _ rfl
    have kCY1_1 := HCY1_14.out.2 1 _ rfl
    have kCY1_2 := HCY1_14.out.2 2 _ rfl
    go_wp2_with fail
    clear kX0_z kX0_0 kX0_1 kX0_2
    clear kX1_z kX1_0 kX1_1 kX1_2
    clear kCY0_z kCY0_0 kCY0_1 kCY0_2
    clear kCY1_z kCY1_0 kCY1_1 kCY1_2
    refine (markEdits_any _ w7.heap.size AG N cG F 1 rG_14.out (by omega) (by omega)).mono ?_
    rintro e w15 ⟨rfl, R5, r, g5, hr5⟩
    have HBm := Lib.hid (markedS_below (B := w.heap.size) g5 hr5 rG_14.out (by omega) (by omega))
    have HX0_15 := Lib.hid (HX0_14.out.grownR g5 (fun e => by obtain ⟨hn9, hA⟩ := hr5 _ e; have h1 := HQG.out hn9 _ hA; omega))
    have HX1_15 := Lib.hid (HX1_14.out.grownR g5 (fun e => by obtain ⟨hn9, hA⟩ := hr5 _ e; have h1 := HQG.out hn9 _ hA; omega))
    have HCY0_15 := Lib.hid (HCY0_14.out.grownR g5 (fun e => by obtain ⟨hn9, hA⟩ := hr5 _ e; have h1 := HQG.out hn9 _ hA; omega))
    have HCY1_15 := Lib.hid (HCY1_14.out.grownR g5 (fun e => by obtain ⟨hn9, hA⟩ := hr5 _ e; have h1 := HQG.out hn9 _ hA; omega))
    have rA0_15 := Lib.hid (rA0_14.out.grownR g5 (fun b hn hb e => by obtain ⟨hn9, hA⟩ := hr5 _ e; have h1 := HQG.out hn9 _ hA; have := HQA0.out hn b hb; omega))
    have rA1_15 := Lib.hid (rA1_14.out.grownR g5 (fun b hn hb e => by obtain ⟨hn9, hA⟩ := hr5 _ e; have h1 := HQG.out hn9 _ hA; have := HQA1.out hn b hb; omega))
    have rM_15 := Lib.hid (rM_14.out.grownR g5 (fun b hn hb e => by obtain ⟨hn9, hA⟩ := hr5 _ e; have h1 := HQG.out hn9 _ hA; have := HQM.out hn b hb; omega))
    have rG_15 := Lib.hid R5
    have z15 := g5.size
    have HB15 := Lib.hid (HB14.out.trans HBm.out)
    clear R5 g5 hr5 HBm HB14 HX0_14 HX1_14 HCY0_14 HCY1_14 rA0_14 rA1_14 rM_14 rG_14
    have kX0_z := HX0_15.out.1
    have kX0_0 := HX0_15.out.2 0 _ rfl
    have kX0_1 := HX0_15.out.2 1 _ rfl
    have kX0_2 := HX0_15.out.2 2 _ rfl
    have kX1_z := HX1_15.out.1
    have kX1_0 := HX1_15.out.2 0 _ rfl
    have kX1_1 := HX1_15.out.2 1 _ rfl
    have kX1_2 := HX1_15.out.2 2 _ rfl
    have kCY0_z := HCY0_15.out.1
    have kCY0_0 := HCY0_15.out.2 0 _ rfl
    have kCY0_1 := HCY0_15.out.2 1 _ rfl
    have kCY0_2 := HCY0_15.out.2 2 _ rfl
    have kCY1_z := HCY1_15.out.1
    have kCY1_0 := HCY1_15.out.2 0 _ rfl
    have kCY1_1 := HCY1_15.out.2 1 _ rfl
    have kCY1_2 := HCY1_15.out.2 2 _ rfl
    go_wp2_with fail
    clear kX0_z kX0_0 kX0_1 kX0_2
    clear kX1_z kX1_0 kX1_1 kX1_2
    clear kCY0_z kCY0_0 kCY0_1 kCY0_2
    clear kCY1_z kCY1_0 kCY1_1 kCY1_2
    refine (heldEdits_any _ AG N cG 1 rG_15.out.row (by omega) (by omega)).mono ?_
    rintro e w16 ⟨rfl, bH⟩
    have HX0_16 := Lib.hid (HX0_15.out.below bH HX0_15.out.1)
    have HX1_16 := Lib.hid (HX1_15.out.below bH HX1_15.out.1)
    have HCY0_16 := Lib.hid (HCY0_15.out.below bH HCY0_15.out.1)
    have HCY1_16 := Lib.hid (HCY1_15.out.below bH HCY1_15.out.1)
    have rA0_16 := Lib.hid (rA0_15.out.below bH (Nat.le_refl _))
    have rA1_16 := Lib.hid (rA1_15.out.below bH (Nat.le_refl _))
    have rM_16 := Lib.hid (rM_15.out.below bH (Nat.le_refl _))
    have rG_16 := Lib.hid (rG_15.out.below bH (Nat.le_refl _))
    have HB16 := Lib.hid (HB15.out.trans (bH.mono HB15.out.size))
    have z16 := (bH).size
    clear HB15 HX0_15 HX1_15 HCY0_15 HCY1_15 rA0_15 rA1_15 rM_15 rG_15
    clear bH
    have kX0_z := HX0_16.out.1
    have kX0_0 := HX0_16.out.2 0 _ rfl
    have kX0_1 := HX0_16.out.2 1 _ rfl
    have kX0_2 := HX0_16.out.2 2 _ rfl
    have kX1_z := HX1_16.out.1
    have kX1_0 := HX1_16.out.2 0 _ rfl
    have kX1_1 := HX1_16.out.2 1 _ rfl
    have kX1_2 := HX1_16.out.2 2 _ rfl
    have kCY0_z := HCY0_16.out.1
    have kCY0_0 := HCY0_16.out.2 0 _ rfl
    have kCY0_1 := HCY0_16.out.2 1 _ rfl
    have kCY0_2 := HCY0_16.out.2 2 _ rfl
    have kCY1_z := HCY1_16.out.1
    have kCY1_0 := HCY1_16.out.2 0 _ rfl
    have kCY1_1 := HCY1_16.out.2 1 _ rfl
    have kCY1_2 := HCY1_16.out.2 2 _ rfl
    have OL := Lib.hid (Old.mk_ (Below.refl w16.heap.size w16).drew)
    go_wp2_with fail
    go_region_held3 (fun w' => (∀ b o, b < (w16).heap.size → w'.cell? ⟨b, o, none⟩ = (w16).cell? ⟨b, o, none⟩) ∧ Below (w16).heap.size (w16) w') (first | assumption | exact OL.out | exact Old.trans (by assumption) (by assumption))
      (first | (go_at_call 10; (with_reducible refine (toPanel_own _ W0 H0 A0 n0 c0 zs0 ?_ hn0).mono ?_); exact rA0_16.out.old (by assumption); rintro e wP0 ⟨AP0, cP0, rfl, RP0, bP0⟩) | (go_at_call 10; (with_reducible refine (toPanel_own _ W1 H1 A1 n1 c1 zs1 ?_ hn1).mono ?_); exact rA1_16.out.old (by assumption); rintro e wP1 ⟨AP1, cP1, rfl, RP1, bP1⟩) | (go_at_call 21; refine Calls.mono (HI.out _ _ _ _ _ ?_ ?_) ?_; exact (RP0.row.below bP1 (Nat.le_refl _)); exact RP1.row; rintro e wq17 ⟨AH, cH, rfl, RM, bC⟩))
    clear kX0_z kX0_0 kX0_1 kX0_2
    clear kX1_z kX1_0 kX1_1 kX1_2
    clear kCY0_z kCY0_0 kCY0_1 kCY0_2
    clear kCY1_z kCY1_0 kCY1_1 kCY1_2
    rename_i hS
    have b8x := hS.2
    have HQH : Hid (0 < N → ∀ b, blk AH = some b → wP1.heap.size ≤ b ∧ b < wq17.heap.size) := Lib.hid (fun hn b hb => ⟨RM.blk_ge hn b hb, RM.row.blk_lt hn b hb⟩)
    clear hS OL bC RP0 bP0 RP1 bP1
    obtain ⟨w17, rfl⟩ : ∃ w' : World, w' = wq17 := ⟨_, rfl⟩
    have HX0_17 := Lib.hid (HX0_16.out.below b8x HX0_16.out.1)
    have HX1_17 := Lib.hid (HX1_16.out.below b8x HX1_16.out.1)
    have HCY0_17 := Lib.hid (HCY0_16.out.below b8x HCY0_16.out.1)
    have HCY1_17 := Lib.hid (HCY1_16.out.below b8x HCY1_16.out.1)
    have rA0_17 := Lib.hid (rA0_16.out.below b8x (Nat.le_refl _))
    have rA1_17 := Lib.hid (rA1_16.out.below b8x (Nat.le_refl _))
    have rM_17 := Lib.hid (rM_16.out.below b8x (Nat.le_refl _))
    have rG_17 := Lib.hid (rG_16.out.below b8x (Nat.le_refl _))
    have HB17 := Lib.hid (HB16.out.trans (b8x.mono HB16.out.size))
    have z17 := (b8x).size
    clear HB16 HX0_16 HX1_16 HCY0_16 HCY1_16 rA0_16 rA1_16 rM_16 rG_16
    clear b8x
    have rH_17 := Lib.hid RM
    clear RM
    have kX0_z := HX0_17.out.1
    have kX0_0 := HX0_17.out.2 0 _ rfl
    have kX0_1 := HX0_17.out.2 1 _ rfl
    have kX0_2 := HX0_17.out.2 2 _ rfl
    have kX1_z := HX1_17.out.1
    have kX1_0 := HX1_17.out.2 0 _ rfl
    have kX1_1 := HX1_17.out.2 1 _ rfl
    have kX1_2 := HX1_17.out.2 2 _ rfl
    have kCY0_z := HCY0_17.out.1
    have kCY0_0 := HCY0_17.out.2 0 _ rfl
    have kCY0_1 := HCY0_17.out.2 1 _ rfl
    have kCY0_2 := HCY0_17.out.2 2 _ rfl
    have kCY1_z := HCY1_17.out.1
    have kCY1_0 := HCY1_17.out.2 0 _ rfl
    have kCY1_1 := HCY1_17.out.2 1 _ rfl
    have kCY1_2 := HCY1_17.out.2 2 _ rfl
    go_wp2_with fail
    clear kX0_z kX0_0 kX0_1 kX0_2
    clear kX1_z kX1_0 kX1_1 kX1_2
    clear kCY0_z kCY0_0 kCY0_1 kCY0_2
    clear kCY1_z kCY1_0 kCY1_1 kCY1_2
    refine (eqEdits_same _ AH AM N cH cM F rH_17.out.row rM_17.out.row).mono ?_
    rintro e w18 ⟨rfl, bE⟩
    have HX0_18 := Lib.hid (HX0_17.out.below bE HX0_17.out.1)
    have HX1_18 := Lib.hid (HX1_17.out.below bE HX1_17.out.1)
    have HCY0_18 := Lib.hid (HCY0_17.out.below bE HCY0_17.out.1)
    have HCY1_18 := Lib.hid (HCY1_17.out.below bE HCY1_17.out.1)
    have rA0_18 := Lib.hid (rA0_17.out.below bE (Nat.le_refl _))
    have rA1_18 := Lib.hid (rA1_17.out.below bE (Nat.le_refl _))
    have rM_18 := Lib.hid (rM_17.out.below bE (Nat.le_refl _))
    have rG_18 := Lib.hid (rG_17.out.below bE (Nat.le_refl _))
    have rH_18 := Lib.hid (rH_17.out.below bE (Nat.le_refl _))
    have HB18 := Lib.hid (HB17.out.trans (bE.mono HB17.out.size))
    have z18 := (bE).size
    clear HB17 HX0_17 HX1_17 HCY0_17 HCY1_17 rA0_17 rA1_17 rM_17 rG_17 rH_17
    clear bE
    have kX0_z := HX0_18.out.1
    have kX0_0 := HX0_18.out.2 0 _ rfl
    have kX0_1 := HX0_18.out.2 1 _ rfl
    have kX0_2 := HX0_18.out.2 2 _ rfl
    have kX1_z := HX1_18.out.1
    have kX1_0 := HX1_18.out.2 0 _ rfl
    have kX1_1 := HX1_18.out.2 1 _ rfl
    have kX1_2 := HX1_18.out.2 2 _ rfl
    have kCY0_z := HCY0_18.out.1
    have kCY0_0 := HCY0_18.out.2 0 _ rfl
    have kCY0_1 := HCY0_18.out.2 1 _ rfl
    have kCY0_2 := HCY0_18.out.2 2 _ rfl
    have kCY1_z := HCY1_18.out.1
    have kCY1_0 := HCY1_18.out.2 0 _ rfl
    have kCY1_1 := HCY1_18.out.2 1 _ rfl
    have kCY1_2 := HCY1_18.out.2 2 _ rfl
    go_wp2_with fail
    clear kX0_z kX0_0 kX0_1 kX0_2
    clear kX1_z kX1_0 kX1_1 kX1_2
    clear kCY0_z kCY0_0 kCY0_1 kCY0_2
    clear kCY1_z kCY1_0 kCY1_1 kCY1_2
    refine (heldEdits_any _ AG N cG 1 rG_18.out.row (by omega) (by omega)).mono ?_
    rintro e w19 ⟨rfl, bH⟩
    have HX0_19 := Lib.hid (HX0_18.out.below bH HX0_18.out.1)
    have HX1_19 := Lib.hid (HX1_18.out.below bH HX1_18.out.1)
    have HCY0_19 := Lib.hid (HCY0_18.out.below bH HCY0_18.out.1)
    have HCY1_19 := Lib.hid (HCY1_18.out.below bH HCY1_18.out.1)
    have rA0_19 := Lib.hid (rA0_18.out.below bH (Nat.le_refl _))
    have rA1_19 := Lib.hid (rA1_18.out.below bH (Nat.le_refl _))
    have rM_19 := Lib.hid (rM_18.out.below bH (Nat.le_refl _))
    have rG_19 := Lib.hid (rG_18.out.below bH (Nat.le_refl _))
    have rH_19 := Lib.hid (rH_18.out.below bH (Nat.le_refl _))
    have HB19 := Lib.hid (HB18.out.trans (bH.mono HB18.out.size))
    have z19 := (bH).size
    clear HB18 HX0_18 HX1_18 HCY0_18 HCY1_18 rA0_18 rA1_18 rM_18 rG_18 rH_18
    clear bH
    have kX0_z := HX0_19.out.1
    have kX0_0 := HX0_19.out.2 0 _ rfl
    have kX0_1 := HX0_19.out.2 1 _ rfl
    have kX0_2 := HX0_19.out.2 2 _ rfl
    have kX1_z := HX1_19.out.1
    have kX1_0 := HX1_19.out.2 0 _ rfl
    have kX1_1 := HX1_19.out.2 1 _ rfl
    have kX1_2 := HX1_19.out.2 2 _ rfl
    have kCY0_z := HCY0_19.out.1
    have kCY0_0 := HCY0_19.out.2 0 _ rfl
    have kCY0_1 := HCY0_19.out.2 1 _ rfl
    have kCY0_2 := HCY0_19.out.2 2 _ rfl
    have kCY1_z := HCY1_19.out.1
    have kCY1_0 := HCY1_19.out.2 0 _ rfl
    have kCY1_1 := HCY1_19.out.2 1 _ rfl
    have kCY1_2 := HCY1_19.out.2 2 _ rfl
    go_wp2
    go_ret
    exact ⟨rfl, HB19.out⟩

theorem walk (w : World) (W0 H0 : Int) (A0 : Option Addr) (n0 c0 : Nat) (zs0 : Nat → Int) (wW0 : (Lit.int .i64 W0).wf = true) (wH0 : (Lit.int .i64 H0).wf = true) (r0 : Row .i64 w A0 n0 c0 zs0) (W1 H1 : Int) (A1 : Option Addr) (n1 c1 : Nat) (zs1 : Nat → Int) (wW1 : (Lit.int .i64 W1).wf = true) (wH1 : (Lit.int .i64 H1).wf = true) (r1 : Row .i64 w A1 n1 c1 zs1) :
    Calls Try.prog 5 #[.agg #[.int .i64 W0, .int .i64 H0, .slice A0 n0 c0], .agg #[.int .i64 W1, .int .i64 H1, .slice A1 n1 c1]] w fun e w' => e = .returned (.bool true) ∧ Below w.heap.size w w' := by
  have hm0 : n0 ≤ 9223372036854775807 := by have := r0.1; have := r0.2.1; unfold maxLen at this; omega
  have hm1 : n1 ≤ 9223372036854775807 := by have := r1.1; have := r1.2.1; unfold maxLen at this; omega
  by_cases hs : (n0 : Int) + (n1 : Int) ≤ 1048576
  · exact core w W0 H0 A0 n0 c0 zs0 W1 H1 A1 n1 c1 zs1 (ebN W0 H0 n0 zs0 W1 H1 n1 zs1) (fun i => (btL zs0 zs1 n0).getD i 0) (dsC W0 H0 n0 zs0 W1 H1 n1 zs1) (by have := difN_le zs0 zs1 n0; unfold ebN; split <;> omega) r0 r1 hs (Lib.hid fun w A c E d hr he => spec_editsBetween w W0 H0 W1 H1 A E n0 c n1 d zs0 zs1 hr he) (Lib.hid fun w A c E d hr he => impl_editsBetween w W0 H0 W1 H1 A E n0 c n1 d zs0 zs1 hr he)
  · by_cases hs0 : (n0 : Int) ≤ 1048576
    · skip
      go_enter Try.func5, Try.ntmps5
      have HB0 : Hid (Below w.heap.size w ((w.alloc (.cells #[.int .i64 W0, .int .i64 H0, .slice A0 n0 c0] 24)).alloc (.cells #[.int .i64 W1, .int .i64 H1, .slice A1 n1 c1] 24))) := Lib.hid (((Below.refl w.heap.size w).alloc (by simp) _).alloc (by simp) _)
      have HX0_0 : Hid (Cel ((w.alloc (.cells #[.int .i64 W0, .int .i64 H0, .slice A0 n0 c0] 24)).alloc (.cells #[.int .i64 W1, .int .i64 H1, .slice A1 n1 c1] 24)) (w.heap.size) [.int .i64 W0, .int .i64 H0, .slice A0 n0 c0]) := Lib.hid (by have h := ((Cel.new w [.int .i64 W0, .int .i64 H0, .slice A0 n0 c0] 24).below ((Below.refl _ (w.alloc (.cells #[.int .i64 W0, .int .i64 H0, .slice A0 n0 c0] 24))).alloc (Nat.le_refl _) (.cells #[.int .i64 W1, .int .i64 H1, .slice A1 n1 c1] 24)) (by simp)); simpa using h)
      have HX1_0 : Hid (Cel ((w.alloc (.cells #[.int .i64 W0, .int .i64 H0, .slice A0 n0 c0] 24)).alloc (.cells #[.int .i64 W1, .int .i64 H1, .slice A1 n1 c1] 24)) (w.heap.size + 1) [.int .i64 W1, .int .i64 H1, .slice A1 n1 c1]) := Lib.hid (by have h := (Cel.new (w.alloc (.cells #[.int .i64 W0, .int .i64 H0, .slice A0 n0 c0] 24)) [.int .i64 W1, .int .i64 H1, .slice A1 n1 c1] 24); simpa using h)
      go_wp2_with fail
      refine (sz_yes _ W0 H0 A0 n0 c0 (1048576) (by omega) (by omega) (by omega)).mono ?_
      rintro e w1 ⟨rfl, bT⟩
      have HX0_1 := Lib.hid (HX0_0.out.below bT HX0_0.out.1)
      clear HX0_0
      have HX1_1 := Lib.hid (HX1_0.out.below bT HX1_0.out.1)
      clear HX1_0
      have HB1 := Lib.hid (HB0.out.trans (bT.mono HB0.out.size))
      clear HB0 bT
      have kX0_z := HX0_1.out.1
      have kX0_0 := HX0_1.out.2 0 _ rfl
      have kX0_1 := HX0_1.out.2 1 _ rfl
      have kX0_2 := HX0_1.out.2 2 _ rfl
      have kX1_z := HX1_1.out.1
      have kX1_0 := HX1_1.out.2 0 _ rfl
      have kX1_1 := HX1_1.out.2 1 _ rfl
      have kX1_2 := HX1_1.out.2 2 _ rfl
      go_wp2_with fail
      refine (sz_no _ W1 H1 A1 n1 c1 (1048576 - (n0 : Int)) (by omega) (by omega) hm1 (by omega)).mono ?_
      rintro e w2 ⟨rfl, bT⟩
      clear kX0_z kX0_0 kX0_1 kX0_2
      clear kX1_z kX1_0 kX1_1 kX1_2
      have HX0_2 := Lib.hid (HX0_1.out.below bT HX0_1.out.1)
      clear HX0_1
      have HX1_2 := Lib.hid (HX1_1.out.below bT HX1_1.out.1)
      clear HX1_1
      have HB2 := Lib.hid (HB1.out.trans (bT.mono HB1.out.size))
      clear HB1 bT
      go_wp2
      go_ret
      exact ⟨rfl, HB2.out⟩
    · skip
      go_enter Try.func5, Try.ntmps5
      have HB0 : Hid (Below w.heap.size w ((w.alloc (.cells #[.int .i64 W0, .int .i64 H0, .slice A0 n0 c0] 24)).alloc (.cells #[.int .i64 W1, .int .i64 H1, .slice A1 n1 c1] 24))) := Lib.hid (((Below.refl w.heap.size w).alloc (by simp) _).alloc (by simp) _)
      have HX0_0 : Hid (Cel ((w.alloc (.cells #[.int .i64 W0, .int .i64 H0, .slice A0 n0 c0] 24)).alloc (.cells #[.int .i64 W1, .int .i64 H1, .slice A1 n1 c1] 24)) (w.heap.size) [.int .i64 W0, .int .i64 H0, .slice A0 n0 c0]) := Lib.hid (by have h := ((Cel.new w [.int .i64 W0, .int .i64 H0, .slice A0 n0 c0] 24).below ((Below.refl _ (w.alloc (.cells #[.int .i64 W0, .int .i64 H0, .slice A0 n0 c0] 24))).alloc (Nat.le_refl _) (.cells #[.int .i64 W1, .int .i64 H1, .slice A1 n1 c1] 24)) (by simp)); simpa using h)
      have HX1_0 : Hid (Cel ((w.alloc (.cells #[.int .i64 W0, .int .i64 H0, .slice A0 n0 c0] 24)).alloc (.cells #[.int .i64 W1, .int .i64 H1, .slice A1 n1 c1] 24)) (w.heap.size + 1) [.int .i64 W1, .int .i64 H1, .slice A1 n1 c1]) := Lib.hid (by have h := (Cel.new (w.alloc (.cells #[.int .i64 W0, .int .i64 H0, .slice A0 n0 c0] 24)) [.int .i64 W1, .int .i64 H1, .slice A1 n1 c1] 24); simpa using h)
      go_wp2_with fail
      refine (sz_no _ W0 H0 A0 n0 c0 (1048576) (by omega) (by omega) hm0 (by omega)).mono ?_
      rintro e w1 ⟨rfl, bT⟩
      have HX0_1 := Lib.hid (HX0_0.out.below bT HX0_0.out.1)
      clear HX0_0
      have HX1_1 := Lib.hid (HX1_0.out.below bT HX1_0.out.1)
      clear HX1_0
      have HB1 := Lib.hid (HB0.out.trans (bT.mono HB0.out.size))
      clear HB0 bT
      go_wp2
      go_ret
      exact ⟨rfl, HB1.out⟩

set_option maxRecDepth 100000 in
theorem lifted (os : Os) (started : os.Started) (H : Type) (enc : TypeId × Value → H) :
    ReturnsInHanded {} Try.checked os 5 .any (Rows.fnExactEditsBetweenSpec.pre6 enc Try.prog Try.f5 Rows.fnExactEditsBetweenRow.domain false) (Rows.fnExactEditsBetweenSpec.post enc Try.prog Try.f5 false true false false) := by
  refine returnsInHanded_of_change (C := Try.checked) own started (by kernel_rfl) Try.func5
    (ChangeSpec.witness6 (enc := enc) (C := Try.checked) false ⟨#[], #[.agg #[.int .i64 0, .int .i64 0, .slice none 0 0], .agg #[.int .i64 0, .int .i64 0, .slice none 0 0]], []⟩ 8 (by kernel_rfl) (by kernel_rfl) (by kernel_rfl) (by kernel_rfl)) ?_
  intro W base args ds gs before hval0 hW hcnd _
  have hval : ∀ (j : Nat) t v, Try.f5.params[j]? = some t → args[j]? = some v → Value.okWide Try.prog W .any base t v := hval0
  have hW' := hW
  obtain ⟨p, q, hA0, hV, rfl, hfz, hnd⟩ := hW
  have hA : DataW.TrodAll enc Try.prog W 0 (fun _ => true) true Try.f5.params.toList args.toList ds p := hA0
  rw [Try.params5] at hA hval
  obtain ⟨v0, vs0, d0, ds0, p0, q0, hargs, rfl, rfl, h0, tl0⟩ := trodAll_cons hA
  obtain ⟨v1, vs1, d1, ds1, p1, q1, rfl, rfl, rfl, h1, tl1⟩ := trodAll_cons tl0
  obtain ⟨rfl, rfl, rfl⟩ := trodAll_nil tl1
  obtain rfl : args = #[v0, v1] := by cases args; simp_all
  obtain ⟨rfl, rfl⟩ := trodVars_none hV
  have k0 := h0
  have lt0 : ∀ x ∈ p0, x.block < W.heap.size := by obtain ⟨m, hm⟩ := k0; exact DataW.trod_lt m _ _ _ hm
  have k1 := h1
  have lt1 : ∀ x ∈ p1, x.block < W.heap.size := by obtain ⟨m, hm⟩ := k1; exact DataW.trod_lt m _ _ _ hm
  obtain ⟨u00, u01, u02, y00, y01, y02, m0, rfl, rfl, hp0, g00, g01, g02⟩ := open_agg3 Try.underlying24 (by kernel_rfl) (by kernel_rfl) (hval 0 24 v0 rfl rfl) h0
  obtain ⟨W0, e00, -, wW0⟩ := DataW.trod_int Try.underlying2 g00
  obtain ⟨H0, e01, -, wH0⟩ := DataW.trod_int Try.underlying2 g01
  simp at e00 e01
  subst e00 e01
  obtain ⟨A0, n0, c0, zs0, e02, r0⟩ := row_of Try.underlying22 Try.underlying2 (by kernel_rfl) g02 (fun x hx => lt0 x (by rw [hp0]; simp [hx]))
  simp at e02
  subst e02
  obtain ⟨u10, u11, u12, y10, y11, y12, m1, rfl, rfl, hp1, g10, g11, g12⟩ := open_agg3 Try.underlying24 (by kernel_rfl) (by kernel_rfl) (hval 1 24 v1 rfl rfl) h1
  obtain ⟨W1, e10, -, wW1⟩ := DataW.trod_int Try.underlying2 g10
  obtain ⟨H1, e11, -, wH1⟩ := DataW.trod_int Try.underlying2 g11
  simp at e10 e11
  subst e10 e11
  obtain ⟨A1, n1, c1, zs1, e12, r1⟩ := row_of Try.underlying22 Try.underlying2 (by kernel_rfl) g12 (fun x hx => lt1 x (by rw [hp1]; simp [hx]))
  simp at e12
  subst e12
  clear hA0 hval0
  refine (walk W W0 H0 A0 n0 c0 zs0 wW0 wH0 r0 W1 H1 A1 n1 c1 zs1 wW1 wH1 r1).mono fun e W' ⟨he, bel⟩ => ?_
  subst he
  exact ⟨_, rfl, _, _, _, [], _, [], hW', trodAll_mk1 (shut_bool Try.underlying4 _), (trodAll_cons_mk (Below.trod laidOut (by kernel_rfl) (of_decide_eq_true (by kernel_rfl)) k0 bel lt0) (trodAll_cons_mk (Below.trod laidOut (by kernel_rfl) (of_decide_eq_true (by kernel_rfl)) k1 bel lt1) trodAll_mk0)), rfl, bel.frame _, fun h => by cases h⟩

theorem over : Rows.fnExactEditsBetweenRow.holds Try.pinned (OpenSpec.ofChange Rows.fnExactEditsBetweenSpec) :=
  OpenClaim.holds_of_wide 5 Try.f5 rfl rfl rfl rfl rfl rfl rfl ⟨rfl, rfl, rfl, rfl, rfl⟩ rfl rfl rfl rfl rfl (by kernel_rfl) Try.func5 (by kernel_rfl)
    (of_decide_eq_true (by kernel_rfl)) (by unfold Func.isWrapper; first | (rw [if_pos (by decide +kernel)]; kernel_rfl) | (rw [if_neg (by decide +kernel)]; exact ⟨rfl, rfl⟩))
    (fun os started H enc _ => lifted os started H enc)

theorem proved : Rows.FnExactEditsBetweenSaid := over
#print axioms proved
end Go.Proofs.Ytgdmojkfpghmnaa.fnExactEditsBetween
