/- Proved: whatever bytes FnPoints is called with (of at most 3000 each; for longer ones the law answers true at once), it returns true and changes nothing. No condition. -/
import Derived.Test.YtcnhgfgjmdbddabRows
import Derived.Test.YtcnhgfgjmdbddabBase
import Derived.Test.YtcnhgfgjmdbddabPan
import Derived.Test.YtcnhgfgjmdbddabPanB
import Derived.Test.YtcnhgfgjmdbddabCopy
import Derived.Test.YtcnhgfgjmdbddabPt
import Derived.Test.YtcnhgfgjmdbddabPtB
import Derived.Test.YtcnhgfgjmdbddabNum
import Derived.Test.YtcnhgfgjmdbddabNumB
import Derived.Test.YtcnhgfgjmdbddabAt
import Derived.Test.YtcnhgfgjmdbddabBrk
import Derived.Test.YtcnhgfgjmdbddabCnt
import Derived.Test.YtcnhgfgjmdbddabSrc
import Derived.Test.YtcnhgfgjmdbddabDrw
import Derived.Test.YtcnhgfgjmdbddabPnt
import Derived.Test.YtcnhgfgjmdbddabPntB
import Derived.WalkKit
import Derived.ProofKit
import Derived.OpenShut
import Derived.ShutString
import Derived.ChangeOld
import Derived.Below
import Derived.Lib.SmallJoins
namespace Go.Proofs.Ytcnhgfgjmdbddab.fnPoints
open Go.ChangeShapes Go.WideShapes Go.ChangeAt Go.RowKit Go.Joins
open Go.ChangeMaps (open_string shut_string)
open Go.Proofs.Ytcnhgfgjmdbddab.Base
set_option linter.unusedVariables false
theorem own : ownKnob Try.prog.godebug = none := by kernel_rfl
theorem laidOut : laidOutB Try.prog = true := by kernel_rfl

set_option maxHeartbeats 8000000 in
set_option maxRecDepth 100000 in
theorem walk (w : World) (A0 : Option Addr) (n0 c0 : Nat) (zs0 : Nat → Int) (r0 : Row .u8 w A0 n0 c0 zs0) (A1 : Option Addr) (n1 c1 : Nat) (zs1 : Nat → Int) (r1 : Row .u8 w A1 n1 c1 zs1) :
    Calls Try.prog 3 #[.slice A0 n0 c0, .slice A1 n1 c1] w fun e w' => e = .returned (.bool true) ∧ Below w.heap.size w w' := by
  have hm0 : n0 ≤ maxLen := Nat.le_trans r0.1 r0.2.1
  have hm1 : n1 ≤ maxLen := Nat.le_trans r1.1 r1.2.1
  have HR0 := Lib.hid r0
  have HR1 := Lib.hid r1
  clear r0 r1
  cases hl : longB n0 n1
  · have hl2 : n0 ≤ 3000 ∧ n1 ≤ 3000 := by have := of_decide_eq_false hl; omega
    obtain ⟨hl0, hl1⟩ := hl2
    go_enter Try.func3, Try.ntmps3
    go_wp2_with fail
    refine (a2Long_any _ A0 A1 n0 c0 n1 c1 hm0 hm1).mono ?_
    rintro e w' ⟨rfl, rfl⟩
    go_wp2_with fail
    refine (a2Panel_any _ A0 n0 c0 zs0 HR0.out (by omega)).mono ?_
    rintro e w1 ⟨W, H, A, n, c, g, rfl, hW, hH, hW5, hH5, hni, hK, O1, b1⟩
    have hv := valid_mk hW hH hni hK
    have hi := inner_bd hW hH
    have hn112 : n ≤ 112 := by omega
    have hV := Lib.hid hv
    have HN := Lib.hid hni
    have HQ := Lib.hid O1.base_lt
    have bN := (Below.refl w1.heap.size w1).alloc (Nat.le_refl _) (.cells #[.int .i64 W, .int .i64 H, .slice A n c] 26)
    have HP2 := Lib.hid (Cel.new w1 [.int .i64 W, .int .i64 H, .slice A n c] 26)
    have HO2 := Lib.hid (O1.row.below bN (Nat.le_refl _))
    have HB2 := Lib.hid (b1.trans (bN.mono b1.size))
    have zA := b1.size
    have hcn := O1.1
    have hcm := O1.2.1
    unfold maxLen at hcm
    clear hv hi hni O1 b1 bN
    go_wp2_with fail
    generalize w1.alloc (.cells #[.int .i64 W, .int .i64 H, .slice A n c] 26) = w2 at *
    generalize hbp : w1.heap.size = bp at *
    refine (impl_innerPoints W H _).mono ?_
    rintro e w3 ⟨rfl, b3⟩
    rw [inN_yes hW hH, inC_yes hW hH, ← HN.out]
    have HP3 := Lib.hid (HP2.out.below b3 HP2.out.1)
    have HO3 := Lib.hid (HO2.out.below b3 (Nat.le_refl _))
    have HB3 := Lib.hid (HB2.out.trans (b3.mono HB2.out.size))
    have z23 := b3.size
    have zbp := HP2.out.1
    clear b3 HP2 HO2 HB2
    have kp0 := HP3.out.2 0 _ rfl
    have kp1 := HP3.out.2 1 _ rfl
    have kp2 := HP3.out.2 2 _ rfl
    have hnn : ((n : Int) != n) = false := by simp
    go_wp2
    clear kp0 kp1 kp2
    go_loopw [8, 9] (fun sm kd wr => ∃ j : Int, 0 ≤ j ∧ j ≤ 3 ∧ kd = .int .i64 j ∧ sm = .int .i64 (sumC g n j) ∧ Hid (Below w3.heap.size w3 wr)) (fun _ kd _ => (3 - intOf kd).toNat)
    case atStart => exact ⟨0, by omega, by omega, rfl, rfl, Lib.hid (Below.refl _ _)⟩
    case round =>
      obtain ⟨j, j0, j3, rfl, rfl, HJ⟩ := hrel
      have HPr := Lib.hid (HP3.out.below HJ.out HP3.out.1)
      have HOr := Lib.hid (HO3.out.below HJ.out (Nat.le_refl _))
      have kp0 := HPr.out.2 0 _ rfl
      have kp1 := HPr.out.2 1 _ rfl
      have kp2 := HPr.out.2 2 _ rfl
      have sb := sumC_bd g n j
      by_cases hlt : j < 3
      · have ss := sumC_succ g n j0 hlt
        have sb2 := sumC_bd g n (j + 1)
        have cb := cntK_bd j g n
        have SS := Lib.hid ss
        clear ss
        go_wp2_with fail
        refine (count_k _ j HOr.out hV.out j0 (by omega)).mono ?_
        rintro e w4 ⟨rfl, b4⟩
        clear kp0 kp1 kp2
        go_wp2
        go_roundw
        case rel => exact ⟨j + 1, by omega, by omega, rfl, by rw [SS.out], Lib.hid (HJ.out.trans (b4.mono HJ.out.size))⟩
        case measure => simp [intOf]; omega
      · have e : j = 3 := by omega
        subst e
        have h3 : sumC g n 3 = n := cnt_all hK
        simp only [h3]
        clear h3 sb
        have HBr := Lib.hid (HB3.out.trans (HJ.out.mono HB3.out.size))
        have zr := HJ.out.size
        have bM := (Below.refl wr.heap.size wr).alloc (Nat.le_refl _) (.cells #[.int .i64 0, .int .i64 0] 32)
        have HL5 := Lib.hid (At.new wr #[.int .i64 0, .int .i64 0] 32)
        have HP5 := Lib.hid (HPr.out.below bM HPr.out.1)
        have HO5 := Lib.hid (HOr.out.below bM (Nat.le_refl _))
        have HB5 := Lib.hid (HBr.out.trans (bM.mono HBr.out.size))
        have hlz := HBr.out.size
        have z5 : wr.heap.size < (wr.alloc (.cells #[.int .i64 0, .int .i64 0] 32)).heap.size := by simp
        clear bM HPr HOr HBr kp0 kp1 kp2
        go_wp2
        generalize wr.alloc (.cells #[.int .i64 0, .int .i64 0] 32) = w5 at *
        clear HJ
        generalize hbl : wr.heap.size = bl at *
        go_loopw [13] (fun i wx => ∃ k : Nat, k ≤ n ∧ i = .int .i64 k ∧ Hid (At wx bl #[.int .i64 (lastX W k), .int .i64 (lastY W k)] 32) ∧ Hid (Ext [bl] w5 wx)) (fun i _ => n - (intOf i).toNat)
        case atStart => exact ⟨0, Nat.zero_le _, rfl, HL5, Lib.hid (Ext.refl _ _)⟩
        case round =>
          obtain ⟨k, hk, rfl, HL, HE⟩ := hrel
          have HPx := Lib.hid (HP5.out.ext HE.out (by simp; omega))
          have HOx := Lib.hid (HO5.out.ext HE.out (fun b hb h0 => by have := HQ.out h0 b hb; simp; omega))
          have kp0 := HPx.out.2 0 _ rfl
          have kp1 := HPx.out.2 1 _ rfl
          have kp2 := HPx.out.2 2 _ rfl
          have zx := HE.out.size
          by_cases hlt : k < n
          · obtain ⟨hh, he, hnum⟩ := pt_is hW hH (k := k) (by omega) (by rw [← HN.out]; omega)
            have HH := Lib.hid hh
            have HG := Lib.hid he
            have HU := Lib.hid hnum
            clear hh he hnum
            go_wp2_with fail
            refine (pointAt_k _ k HOx.out hV.out (by omega) (by omega)).mono ?_
            rintro e w6 ⟨rfl, b6⟩
            clear kp0 kp1 kp2
            have HP6 := Lib.hid (HPx.out.below b6 HPx.out.1)
            have kpz := HP6.out.1
            have kp0 := HP6.out.2 0 _ rfl
            have kp1 := HP6.out.2 1 _ rfl
            have kp2 := HP6.out.2 2 _ rfl
            go_wp2_with fail
            clear kpz kp0 kp1 kp2 HP6
            have bK := (Below.refl w6.heap.size w6).alloc (Nat.le_refl _) (.cells #[.int .i64 (ptX W k), .int .i64 (ptY W k)] 32)
            have HA7 := Lib.hid (Cel.new w6 [.int .i64 (ptX W k), .int .i64 (ptY W k)] 32)
            have b67 := b6.trans (bK.mono b6.size)
            have z67 := b6.size
            have HE7 := Lib.hid (HE.out.trans (Ext.of_below (X := [bl]) b67))
            have HL7 := Lib.hid (HL.out.below b67 HL.out.lt)
            have HP7 := Lib.hid (HPx.out.below b67 HPx.out.1)
            have HO7 := Lib.hid (HOx.out.below b67 (Nat.le_refl _))
            have hlx := HL.out.lt
            clear b6 bK b67 HE HL HPx HOx
            generalize w6.alloc (.cells #[.int .i64 (ptX W k), .int .i64 (ptY W k)] 32) = w7 at *
            generalize hba : w6.heap.size = ba at *
            refine (numberOf_k _ _ _ k HO7.out hV.out HH.out HG.out HU.out).mono ?_
            rintro e w8 ⟨rfl, b8⟩
            have HA8 := Lib.hid (HA7.out.below b8 HA7.out.1)
            have HE8 := Lib.hid (HE7.out.trans (Ext.of_below (X := [bl]) b8))
            have HL8 := Lib.hid (HL7.out.below b8 HL7.out.lt)
            have HP8 := Lib.hid (HP7.out.below b8 HP7.out.1)
            have HO8 := Lib.hid (HO7.out.below b8 (Nat.le_refl _))
            clear b8 HA7 HE7 HL7 HP7 HO7
            have kp0 := HP8.out.2 0 _ rfl
            have kp1 := HP8.out.2 1 _ rfl
            have kp2 := HP8.out.2 2 _ rfl
            have ka0 := HA8.out.2 0 _ rfl
            have ka1 := HA8.out.2 1 _ rfl
            go_wp2_with fail
            refine (breakAt_k _ _ _ k HO8.out hV.out HH.out HG.out HU.out).mono ?_
            rintro e w9 ⟨rfl, b9⟩
            have HA9 := Lib.hid (HA8.out.below b9 HA8.out.1)
            have HE9 := Lib.hid (HE8.out.trans (Ext.of_below (X := [bl]) b9))
            have HL9 := Lib.hid (HL8.out.below b9 HL8.out.lt)
            have HP9 := Lib.hid (HP8.out.below b9 HP8.out.1)
            have HO9 := Lib.hid (HO8.out.below b9 (Nat.le_refl _))
            clear b9 HA8 HE8 HL8 HP8 HO8 kp0 kp1 kp2 ka0 ka1
            have kp0 := HP9.out.2 0 _ rfl
            have kp1 := HP9.out.2 1 _ rfl
            have kp2 := HP9.out.2 2 _ rfl
            have ka0 := HA9.out.2 0 _ rfl
            have ka1 := HA9.out.2 1 _ rfl
            obtain ⟨br, or, rfl, hbr, hcr⟩ := HO9.out.2.2.2 (by omega)
            have cr := hcr k hlt
            clear hcr
            have hkk : ((k : Int) != k) = false := by simp
            have hgg : (g ((k : Int)).toNat != g k) = false := by simp
            go_wp2_with fail
            refine (isPoint_k _ _ _ HO9.out hV.out HH.out).mono ?_
            rintro e wa ⟨rfl, b10⟩
            have HAa := Lib.hid (HA9.out.below b10 HA9.out.1)
            have HEa := Lib.hid (HE9.out.trans (Ext.of_below (X := [bl]) b10))
            have HLa := Lib.hid (HL9.out.below b10 HL9.out.lt)
            have HPa := Lib.hid (HP9.out.below b10 HP9.out.1)
            have HOa := Lib.hid (HO9.out.below b10 (Nat.le_refl _))
            clear b10 HA9 HE9 HL9 HP9 HO9 kp0 kp1 kp2 ka0 ka1 cr
            have kp0 := HPa.out.2 0 _ rfl
            have kp1 := HPa.out.2 1 _ rfl
            have kp2 := HPa.out.2 2 _ rfl
            have ka0 := HAa.out.2 0 _ rfl
            have ka1 := HAa.out.2 1 _ rfl
            go_wp2_with fail
            refine (isBorder_k _ _ _ HOa.out hV.out HH.out HG.out).mono ?_
            rintro e wb ⟨rfl, b11⟩
            have HAb := Lib.hid (HAa.out.below b11 HAa.out.1)
            have HEb := Lib.hid (HEa.out.trans (Ext.of_below (X := [bl]) b11))
            have HLb := Lib.hid (HLa.out.below b11 HLa.out.lt)
            clear b11 HAa HEa HLa HPa HOa kp0 kp1 kp2 ka0 ka1
            have ka0 := HAb.out.2 0 _ rfl
            have ka1 := HAb.out.2 1 _ rfl
            have kl0 := HLb.out.cellv (i := 0) rfl
            have kl1 := HLb.out.cellv (i := 1) rfl
            have fl0 := HLb.out.frozen 0
            have fl1 := HLb.out.frozen 1
            have elX : lastX W ((k : Nat) + 1 : Nat) = ptX W k := by unfold lastX; rw [if_neg (by omega)]; congr 1; omega
            have elY : lastY W ((k : Nat) + 1 : Nat) = ptY W k := by unfold lastY; rw [if_neg (by omega)]; congr 1; omega
            have ELX := Lib.hid elX
            have ELY := Lib.hid elY
            clear elX elY
            by_cases hk0 : k = 0
            · have hd : decide (0 < (k : Int)) = false := decide_eq_false (by omega)
              have hkl : ¬ 0 < (k : Int) := by omega
              have HK0 := Lib.hid hk0
              clear hk0
              go_wp2
              go_roundw
              case rel => exact ⟨k + 1, by omega, by go_num, Lib.hid (by rw [ELX.out, ELY.out]; exact (HLb.out.set 0 _).set 1 _), Lib.hid ((HEb.out.trans (Ext.set _ _ _ (by simp))).trans (Ext.set _ _ _ (by simp)))⟩
              case measure => simp [intOf]; omega
            · have hnx := pt_next (H := H) (k := k) hW (by omega)
              have e1 : lastX W k = ptX W (k - 1) := by unfold lastX; rw [if_neg (by omega)]
              have e2 : lastY W k = ptY W (k - 1) := by unfold lastY; rw [if_neg (by omega)]
              rw [e1] at kl0
              rw [e2] at kl1
              clear e1 e2
              have hkl : 0 < (k : Int) := by omega
              clear hk0
              rcases hnx with hy | ⟨hy, hxx⟩
              · have d1 : decide (ptY W k < ptY W (k - 1)) = false := decide_eq_false (by omega)
                have d2 : (ptY W k == ptY W (k - 1)) = false := beq_eq_false_iff_ne.2 (by omega)
                go_wp2
                go_roundw
                case rel => exact ⟨k + 1, by omega, by go_num, Lib.hid (by rw [ELX.out, ELY.out]; exact (HLb.out.set 0 _).set 1 _), Lib.hid ((HEb.out.trans (Ext.set _ _ _ (by simp))).trans (Ext.set _ _ _ (by simp)))⟩
                case measure => simp [intOf]; omega
              · have d1 : decide (ptY W k < ptY W (k - 1)) = false := decide_eq_false (by omega)
                have d2 : (ptY W k == ptY W (k - 1)) = true := beq_iff_eq.2 hy
                have d3 : decide (ptX W k ≤ ptX W (k - 1)) = false := decide_eq_false (by omega)
                clear hy
                go_wp2
                go_roundw
                case rel => exact ⟨k + 1, by omega, by go_num, Lib.hid (by rw [ELX.out, ELY.out]; exact (HLb.out.set 0 _).set 1 _), Lib.hid ((HEb.out.trans (Ext.set _ _ _ (by simp))).trans (Ext.set _ _ _ (by simp)))⟩
                case measure => simp [intOf]; omega
          · have hkn : k = n := by omega
            have HBx := Lib.hid (HB5.out.trans (HE.out.below (B := w.heap.size) (by simp; omega) HB5.out.size))
            by_cases hn0 : n = 0
            · have hb0 : ((n : Int) == 0) = true := by rw [hn0]; rfl
              clear hn0 hkn
              go_wp2
              go_ret
              exact ⟨rfl, HBx.out⟩
            · have hb0 : ((n : Int) == 0) = false := beq_eq_false_iff_ne.2 (by omega)
              have hn1 : 1 ≤ n := by omega
              clear hn0 hkn HL
              go_wp2_with fail
              refine (a2At_any _ A1 n1 c1 zs1 0 n (HR1.out.below HBx.out (Nat.le_refl _)) (by omega) (by omega) (by omega) hl1).mono ?_
              rintro e w' ⟨v, rfl, v0, v1, rfl⟩
              go_wp2_with fail
              refine (a2At_any _ A1 n1 c1 zs1 1 3 (HR1.out.below HBx.out (Nat.le_refl _)) (by omega) (by omega) (by omega) hl1).mono ?_
              rintro e w' ⟨z, rfl, y0, y1, rfl⟩
              obtain ⟨hh, he, hnum⟩ := pt_is hW hH (k := v) v0 (by rw [← HN.out]; omega)
              have HH := Lib.hid hh
              have HG := Lib.hid he
              have HU := Lib.hid hnum
              clear hh he hnum
              go_wp2_with fail
              refine (specPointAt_k _ v HOx.out hV.out v0 v1).mono ?_
              rintro e w6 ⟨rfl, b6⟩
              clear kp0 kp1 kp2
              have HP6 := Lib.hid (HPx.out.below b6 HPx.out.1)
              have kpz := HP6.out.1
              have kp0 := HP6.out.2 0 _ rfl
              have kp1 := HP6.out.2 1 _ rfl
              have kp2 := HP6.out.2 2 _ rfl
              go_wp2_with fail
              clear kpz kp0 kp1 kp2 HP6
              have bK := (Below.refl w6.heap.size w6).alloc (Nat.le_refl _) (.cells #[.int .i64 (ptX W v), .int .i64 (ptY W v)] 32)
              have b67 := b6.trans (bK.mono b6.size)
              have HB7 := Lib.hid (HBx.out.trans (b67.mono HBx.out.size))
              have HP7 := Lib.hid (HPx.out.below b67 HPx.out.1)
              have HO7 := Lib.hid (HOx.out.below b67 (Nat.le_refl _))
              clear b6 bK b67 HPx HOx HBx
              generalize w6.alloc (.cells #[.int .i64 (ptX W v), .int .i64 (ptY W v)] 32) = w7 at *
              refine (setBreak_k _ _ _ v z HO7.out hV.out HH.out HG.out HU.out (by omega) y0 (by omega)).mono ?_
              rintro e w8 ⟨A', c', rfl, O8, b8⟩
              have HP8 := Lib.hid (HP7.out.below b8 HP7.out.1)
              have HO8 := Lib.hid (HO7.out.below b8 (Nat.le_refl _))
              have HB8 := Lib.hid (HB7.out.trans (b8.mono HB7.out.size))
              have HW8 := Lib.hid O8.row
              clear b8 O8 HP7 HO7 HB7
              have kpz := HP8.out.1
              have kp0 := HP8.out.2 0 _ rfl
              have kp1 := HP8.out.2 1 _ rfl
              have kp2 := HP8.out.2 2 _ rfl
              have hWW : (W != W) = false := by simp
              have hHH : (H != H) = false := by simp
              go_wp2
              clear kpz kp0 kp1 kp2
              have bK := (Below.refl w8.heap.size w8).alloc (Nat.le_refl _) (.cells #[.int .i64 W, .int .i64 H, .slice A' n c'] 26)
              have HQ9 := Lib.hid (Cel.new w8 [.int .i64 W, .int .i64 H, .slice A' n c'] 26)
              have HB9 := Lib.hid (HB8.out.trans (bK.mono HB8.out.size))
              have HP9 := Lib.hid (HP8.out.below bK HP8.out.1)
              have HO9 := Lib.hid (HO8.out.below bK (Nat.le_refl _))
              have HW9 := Lib.hid (HW8.out.below bK (Nat.le_refl _))
              clear bK HP8 HO8 HW8 HB8
              generalize w8.alloc (.cells #[.int .i64 W, .int .i64 H, .slice A' n c'] 26) = w9 at *
              generalize w8.heap.size = bq at *
              have kp0 := HP9.out.2 0 _ rfl
              have kp1 := HP9.out.2 1 _ rfl
              have kp2 := HP9.out.2 2 _ rfl
              have kq0 := HQ9.out.2 0 _ rfl
              have kq1 := HQ9.out.2 1 _ rfl
              have kq2 := HQ9.out.2 2 _ rfl
              obtain ⟨b1, o1, rfl, hb1, hc1⟩ := HO9.out.2.2.2 (by omega)
              obtain ⟨b2, o2, rfl, hb2, hc2⟩ := HW9.out.2.2.2 (by omega)
              have HC1 := Lib.hid hc1
              have HC2 := Lib.hid hc2
              have hcw := HW9.out.1
              have hcx := HW9.out.2.1
              unfold maxLen at hcx
              clear hc1 hc2
              go_loopw [26] (fun i wx => ∃ k m : Nat, k ≤ n ∧ i = .int .i64 k ∧ wx = w9.drewN m) (fun i _ => n - (intOf i).toNat)
              case atStart => exact ⟨0, 0, Nat.zero_le _, rfl, rfl⟩
              case round =>
                obtain ⟨k, m, hk, rfl, rfl⟩ := hrel
                by_cases hlt : k < n
                · have c1 := HC1.out k hlt
                  have c2 := HC2.out k hlt
                  by_cases hkv : (k : Int) = v
                  · have e1 : ((k : Int) == v) = true := beq_iff_eq.2 hkv
                    have e2 : ((k : Int) != v) = false := by simp [hkv]
                    have e3 : putF g v.toNat z k = z := by unfold putF; rw [if_pos (by omega)]
                    rw [e3] at c2
                    have e4 : (z != z) = false := by simp
                    clear hkv e3
                    go_wp2
                    go_quiet (fail)
                    go_wp2
                    go_roundw
                    case rel => exact ⟨k + 1, _, by omega, by go_num, rfl⟩
                    case measure => simp [intOf]; omega
                  · have e1 : ((k : Int) == v) = false := beq_eq_false_iff_ne.2 hkv
                    have e2 : ((k : Int) != v) = true := bne_iff_ne.2 hkv
                    have e3 : putF g v.toNat z k = g k := by unfold putF; rw [if_neg (by omega)]
                    rw [e3] at c2
                    have e4 : (g k != g k) = false := by simp
                    clear hkv e3
                    go_wp2
                    go_quiet (fail)
                    go_wp2
                    go_roundw
                    case rel => exact ⟨k + 1, _, by omega, by go_num, rfl⟩
                    case measure => simp [intOf]; omega
                · go_wp2
                  go_ret
                  exact ⟨rfl, below_drewN HB9.out _⟩
  · go_enter Try.func3, Try.ntmps3
    go_wp2_with fail
    refine (a2Long_any _ A0 A1 n0 c0 n1 c1 hm0 hm1).mono ?_
    rintro e w' ⟨rfl, rfl⟩
    go_wp2
    go_ret
    exact ⟨rfl, Below.refl _ _⟩

set_option maxRecDepth 100000 in
theorem lifted (os : Os) (started : os.Started) (H : Type) (enc : TypeId × Value → H) :
    ReturnsInHanded {} Try.checked os 3 .any (Rows.fnPointsSpec.pre6 enc Try.prog Try.f3 Rows.fnPointsRow.domain false) (Rows.fnPointsSpec.post enc Try.prog Try.f3 false true false false) := by
  refine returnsInHanded_of_change (C := Try.checked) own started (by kernel_rfl) Try.func3
    (ChangeSpec.witness6 (enc := enc) (C := Try.checked) false ⟨#[], #[.slice none 0 0, .slice none 0 0], []⟩ 8 (by kernel_rfl) (by kernel_rfl) (by kernel_rfl) (by kernel_rfl)) ?_
  intro W base args ds gs before hval0 hW hcnd _
  have hval : ∀ (j : Nat) t v, Try.f3.params[j]? = some t → args[j]? = some v → Value.okWide Try.prog W .any base t v := hval0
  have hW' := hW
  obtain ⟨p, q, hA0, hV, rfl, hfz, hnd⟩ := hW
  have hA : DataW.TrodAll enc Try.prog W 0 (fun _ => true) true Try.f3.params.toList args.toList ds p := hA0
  rw [Try.params3] at hA hval
  obtain ⟨v0, vs0, d0, ds0, p0, q0, hargs, rfl, rfl, h0, tl0⟩ := trodAll_cons hA
  obtain ⟨v1, vs1, d1, ds1, p1, q1, rfl, rfl, rfl, h1, tl1⟩ := trodAll_cons tl0
  obtain ⟨rfl, rfl, rfl⟩ := trodAll_nil tl1
  obtain rfl : args = #[v0, v1] := by cases args; simp_all
  obtain ⟨rfl, rfl⟩ := trodVars_none hV
  have k0 := h0
  have lt0 : ∀ x ∈ p0, x.block < W.heap.size := by obtain ⟨m, hm⟩ := k0; exact DataW.trod_lt m _ _ _ hm
  have k1 := h1
  have lt1 : ∀ x ∈ p1, x.block < W.heap.size := by obtain ⟨m, hm⟩ := k1; exact DataW.trod_lt m _ _ _ hm
  obtain ⟨A0, n0, c0, rfl⟩ := okWide_slice Try.underlying22 (hval 0 22 v0 rfl rfl)
  obtain ⟨zs0, r0⟩ : ∃ zs, Row .u8 W A0 n0 c0 zs := by
    obtain ⟨fuel, hf⟩ := h0
    obtain ⟨A', n', c', zs, e2, r⟩ := row_of Try.underlying22 Try.underlying5 (by kernel_rfl) hf (fun x hx => lt0 x hx)
    simp [Value.cells] at e2
    obtain ⟨rfl, rfl, rfl⟩ := e2
    exact ⟨zs, r⟩
  obtain ⟨A1, n1, c1, rfl⟩ := okWide_slice Try.underlying22 (hval 1 22 v1 rfl rfl)
  obtain ⟨zs1, r1⟩ : ∃ zs, Row .u8 W A1 n1 c1 zs := by
    obtain ⟨fuel, hf⟩ := h1
    obtain ⟨A', n', c', zs, e2, r⟩ := row_of Try.underlying22 Try.underlying5 (by kernel_rfl) hf (fun x hx => lt1 x hx)
    simp [Value.cells] at e2
    obtain ⟨rfl, rfl, rfl⟩ := e2
    exact ⟨zs, r⟩
  clear hA0 hval0
  refine (walk W A0 n0 c0 zs0 r0 A1 n1 c1 zs1 r1).mono fun e W' ⟨he, bel⟩ => ?_
  subst he
  exact ⟨_, rfl, _, _, _, [], _, [], hW', trodAll_mk1 (shut_bool Try.underlying4 _), (trodAll_cons_mk (Below.trod laidOut (by kernel_rfl) (of_decide_eq_true (by kernel_rfl)) k0 bel lt0) (trodAll_cons_mk (Below.trod laidOut (by kernel_rfl) (of_decide_eq_true (by kernel_rfl)) k1 bel lt1) trodAll_mk0)), rfl, bel.frame _, fun h => by cases h⟩

theorem over : Rows.fnPointsRow.holds Try.pinned (OpenSpec.ofChange Rows.fnPointsSpec) :=
  OpenClaim.holds_of_wide 3 Try.f3 rfl rfl rfl rfl rfl rfl rfl ⟨rfl, rfl, rfl, rfl, rfl⟩ rfl rfl rfl rfl rfl (by kernel_rfl) Try.func3 (by kernel_rfl)
    (of_decide_eq_true (by kernel_rfl)) (by unfold Func.isWrapper; first | (rw [if_pos (by decide +kernel)]; kernel_rfl) | (rw [if_neg (by decide +kernel)]; exact ⟨rfl, rfl⟩))
    (fun os started H enc _ => lifted os started H enc)

theorem proved : Rows.FnPointsSaid := over
#print axioms proved
end Go.Proofs.Ytcnhgfgjmdbddab.fnPoints
