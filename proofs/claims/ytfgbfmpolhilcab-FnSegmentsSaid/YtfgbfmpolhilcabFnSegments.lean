/- Proved: whatever bytes FnSegments is called with (of at most 3000 each; for longer ones the law answers true at once), it returns true and changes nothing. No condition. -/
import Derived.Test.YtfgbfmpolhilcabRows
import Derived.Test.YtfgbfmpolhilcabBase
import Derived.Test.YtfgbfmpolhilcabPan
import Derived.Test.YtfgbfmpolhilcabShape
import Derived.Test.YtfgbfmpolhilcabWlkC
import Derived.Test.YtfgbfmpolhilcabWlk
import Derived.Test.YtfgbfmpolhilcabWls
import Derived.Test.YtfgbfmpolhilcabAll
import Derived.Test.YtfgbfmpolhilcabAllS
import Derived.Test.YtfgbfmpolhilcabAllI
import Derived.Test.YtfgbfmpolhilcabSrc
import Derived.Test.YtfgbfmpolhilcabDrw
import Derived.Test.YtfgbfmpolhilcabPnt
import Derived.Test.YtfgbfmpolhilcabSgm
import Derived.WalkKit
import Derived.ProofKit
import Derived.OpenShut
import Derived.ShutString
import Derived.ChangeOld
import Derived.Below
import Derived.Lib.SmallJoins
namespace Go.Proofs.Ytfgbfmpolhilcab.fnSegments
open Go.ChangeShapes Go.WideShapes Go.ChangeAt Go.RowKit Go.Joins
open Go.ChangeMaps (open_string shut_string)
open Go.Proofs.Ytfgbfmpolhilcab.Base
set_option linter.unusedVariables false
theorem own : ownKnob Try.prog.godebug = none := by kernel_rfl
theorem laidOut : laidOutB Try.prog = true := by kernel_rfl

set_option maxHeartbeats 8000000 in
set_option maxRecDepth 100000 in
theorem walk (w : World) (A0 : Option Addr) (n0 c0 : Nat) (zs0 : Nat → Int) (r0 : Row .u8 w A0 n0 c0 zs0) :
    Calls Try.prog 13 #[.slice A0 n0 c0] w fun e w' => e = .returned (.bool true) ∧ Below w.heap.size w w' := by
  have hm0 : n0 ≤ maxLen := Nat.le_trans r0.1 r0.2.1
  have HR0 := Lib.hid r0
  clear r0
  cases hl : longB n0 0
  · have hl0 : n0 ≤ 3000 := by have := of_decide_eq_false hl; omega
    go_enter Try.func13, Try.ntmps13
    go_wp2_with fail
    refine (a2Long_any _ A0 none n0 c0 0 0 hm0 (Nat.zero_le _)).mono ?_
    rintro e w' ⟨rfl, rfl⟩
    go_wp2_with fail
    refine (a2Panel_any _ A0 n0 c0 zs0 HR0.out (by omega)).mono ?_
    rintro e w1 ⟨W, H, A, n, c, g, rfl, hW, hH, hW5, hH5, hni, hK, O1, b1⟩
    have hv := valid_mk hW hH hni hK
    obtain ⟨m0, m1⟩ := segs_bd hW hH
    obtain ⟨a1, a2⟩ := side_mk hW
    obtain ⟨e1, e2⟩ := side_mk hH
    have m4 : 4 * 1 * 1 ≤ 4 * W * H := Int.mul_le_mul (by omega) e1 (by omega) (by omega)
    have hV := Lib.hid hv
    obtain ⟨M, hM⟩ : ∃ M : Nat, (M : Int) = 4 * W * H := ⟨(4 * W * H).toNat, by omega⟩
    have HM := Lib.hid hM
    have hM1 : 0 < M := by omega
    have hM2 : M ≤ 256 := by omega
    have bN := (Below.refl w1.heap.size w1).alloc (Nat.le_refl _) (.cells #[.int .i64 W, .int .i64 H, .slice A n c] 57)
    have HP2 := Lib.hid (Cel.new w1 [.int .i64 W, .int .i64 H, .slice A n c] 57)
    have HO2 := Lib.hid (O1.row.below bN (Nat.le_refl _))
    have HB2 := Lib.hid (b1.trans (bN.mono b1.size))
    clear hv hni hK hM O1 b1 bN hW hH
    go_wp2_with fail
    generalize w1.alloc (.cells #[.int .i64 W, .int .i64 H, .slice A n c] 57) = w2 at *
    generalize w1.heap.size = bp at *
    refine (countSegs_k _ HO2.out hV.out).mono ?_
    rintro e w3 ⟨rfl, b3⟩
    have HP3 := Lib.hid (HP2.out.below b3 HP2.out.1)
    have HO3 := Lib.hid (HO2.out.below b3 (Nat.le_refl _))
    have HB3 := Lib.hid (HB2.out.trans (b3.mono HB2.out.size))
    clear b3 HP2 HO2 HB2
    have kp0 := HP3.out.2 0 _ rfl
    have kp1 := HP3.out.2 1 _ rfl
    have kp2 := HP3.out.2 2 _ rfl
    go_wp2_with fail
    clear kp0 kp1 kp2
    refine (allWalkers_k _ HO3.out hV.out HM.out).mono ?_
    rintro e w4 ⟨AG, cG, rfl, RG, b4⟩
    have HP4 := Lib.hid (HP3.out.below b4 HP3.out.1)
    have HO4 := Lib.hid (HO3.out.below b4 (Nat.le_refl _))
    have HB4 := Lib.hid (HB3.out.trans (b4.mono HB3.out.size))
    have hgc := RG.1
    have hgm := RG.2.1
    unfold maxLen at hgm
    have HG4 := Lib.hid RG.row
    obtain ⟨bg, og, rfl, -⟩ := RG.row.2.2.2 (by omega)
    clear b4 HP3 HO3 HB3 RG
    have kpz := HP4.out.1
    have kp0 := HP4.out.2 0 _ rfl
    have kp1 := HP4.out.2 1 _ rfl
    have kp2 := HP4.out.2 2 _ rfl
    have hn1 : ((4 * W * H) != (4 * W * H)) = false := by simp
    have hn2 : ((2 * (M : Int)) != 2 * (4 * W * H)) = false := by rw [HM.out]; simp
    go_wp2
    clear kpz kp0 kp1 kp2 hn1 hn2
    go_loopw [8] (fun kv wr => ∃ k : Nat, (k : Int) ≤ 4 * W * H ∧ kv = .int .i64 k ∧ Hid (Below w4.heap.size w4 wr)) (fun kv _ => 300 - (intOf kv).toNat)
    case atStart => exact ⟨0, by omega, rfl, Lib.hid (Below.refl _ _)⟩
    case round =>
      obtain ⟨k, hk, rfl, HJ⟩ := hrel
      have HPr := Lib.hid (HP4.out.below HJ.out HP4.out.1)
      have HOr := Lib.hid (HO4.out.below HJ.out (Nat.le_refl _))
      have HGr := Lib.hid (HG4.out.below HJ.out (Nat.le_refl _))
      have kpz := HPr.out.1
      have kp0 := HPr.out.2 0 _ rfl
      have kp1 := HPr.out.2 1 _ rfl
      have kp2 := HPr.out.2 2 _ rfl
      by_cases hlt : (k : Int) < 4 * W * H
      · have hkM : k < M := by have := HM.out; omega
        go_wp2_with fail
        clear kpz kp0 kp1 kp2
        refine (walkerAt_k _ k HOr.out hV.out hlt).mono ?_
        rintro e w5 ⟨rfl, b5⟩
        have bK := (Below.refl w5.heap.size w5).alloc (Nat.le_refl _) (.cells #[.int .i64 (wtX H k), .int .i64 (wtY H k), .int .i64 1, .int .i64 (wtD H k)] 61)
        have HK6 := Lib.hid (Cel.new w5 [.int .i64 (wtX H k), .int .i64 (wtY H k), .int .i64 1, .int .i64 (wtD H k)] 61)
        have b56 := b5.trans (bK.mono b5.size)
        have HP6 := Lib.hid (HPr.out.below b56 HPr.out.1)
        have HO6 := Lib.hid (HOr.out.below b56 (Nat.le_refl _))
        have HG6 := Lib.hid (segAt_of (HGr.out.below b56 (Nat.le_refl _)) hkM)
        have HGR6 := Lib.hid (HGr.out.below b56 (Nat.le_refl _))
        have HB6 := Lib.hid (HJ.out.trans (b56.mono HJ.out.size))
        clear b5 bK b56 HPr HOr HGr HJ
        go_wp2_with fail
        generalize w5.alloc (.cells #[.int .i64 (wtX H k), .int .i64 (wtY H k), .int .i64 1, .int .i64 (wtD H k)] 61) = w6 at *
        generalize w5.heap.size = bk at *
        have ht0 : (2 * (k : Int)).toNat = 2 * k := by omega
        have ht1 : (2 * (k : Int) + 1).toNat = 2 * k + 1 := by omega
        have hb0 : (0 : Int) ≤ 2 * (k : Int) := by omega
        have hb1 : 2 * (k : Int) < ((2 * M : Nat) : Int) := by omega
        have hb2 : 2 * (k : Int) < 2 * (M : Int) := by omega
        have hb3 : (0 : Int) ≤ 2 * (k : Int) + 1 := by omega
        have hb4 : 2 * (k : Int) + 1 < ((2 * M : Nat) : Int) := by omega
        have hb5 : 2 * (k : Int) + 1 < 2 * (M : Int) := by omega
        have hk256 : (k : Int) ≤ 256 := by omega
        have hw0 : IntKind.i64.wrap (2 * (k : Int)) = 2 * (k : Int) := IntWalk.i64_in _ (by omega)
        have hw1 : IntKind.i64.wrap (2 * (k : Int) + 1) = 2 * (k : Int) + 1 := IntWalk.i64_in _ (by omega)
        have hg0 : ¬ 2 * (k : Int) < 0 := by omega
        have hg1 : ¬ 2 * (k : Int) + 1 < 0 := by omega
        have hg2 : ¬ 2 * (M : Int) ≤ 2 * (k : Int) := by omega
        have hg3 : ¬ 2 * (M : Int) ≤ 2 * (k : Int) + 1 := by omega
        have kpz := HP6.out.1
        have kp0 := HP6.out.2 0 _ rfl
        have kp1 := HP6.out.2 1 _ rfl
        have kp2 := HP6.out.2 2 _ rfl
        have kkz := HK6.out.1
        have kk0 := HK6.out.2 0 _ rfl
        have kk1 := HK6.out.2 1 _ rfl
        have kk2 := HK6.out.2 2 _ rfl
        have kk3 := HK6.out.2 3 _ rfl
        obtain ⟨gz, g0, g1, g2, g3, g4, g5, g6, g7⟩ := id HG6.out
        have OL := Lib.hid (Old.mk_ (Below.refl w6.heap.size w6).drew)
        have q1 : ((1 : Int) != 1) = false := by decide
        have q2 : ((0 : Int) != 0) = false := by decide
        go_region_held3 (fun w' => (∀ b o, b < (w6).heap.size → w'.cell? ⟨b, o, none⟩ = (w6).cell? ⟨b, o, none⟩) ∧ Below (w6).heap.size (w6) w')
          (first | assumption | exact OL.out | exact Old.trans (by assumption) (by assumption))
          (first | (go_at_call 39; refine (validWalker_k _ k ?_ hV.out hlt).mono ?_; exact HO6.out.old (by assumption); rintro e wz ⟨rfl, bz⟩))
        rename_i hS
        have b7 := hS.2
        clear hS OL bz HG6
        clear kpz kp0 kp1 kp2 kkz kk0 kk1 kk2 kk3 gz g0 g1 g2 g3 g4 g5 g6 g7
        obtain ⟨w7, rfl⟩ : ∃ w' : World, w' = wz := ⟨_, rfl⟩
        have HP7 := Lib.hid (HP6.out.below b7 HP6.out.1)
        have HK7 := Lib.hid (HK6.out.below b7 HK6.out.1)
        have HO7 := Lib.hid (HO6.out.below b7 (Nat.le_refl _))
        have HGR7 := Lib.hid (HGR6.out.below b7 (Nat.le_refl _))
        have HB7 := Lib.hid (HB6.out.trans (b7.mono HB6.out.size))
        clear HP6 HK6 HO6 HGR6 HB6 b7
        have kpz := HP7.out.1
        have kp0 := HP7.out.2 0 _ rfl
        have kp1 := HP7.out.2 1 _ rfl
        have kp2 := HP7.out.2 2 _ rfl
        have kkz := HK7.out.1
        have kk0 := HK7.out.2 0 _ rfl
        have kk1 := HK7.out.2 1 _ rfl
        have kk2 := HK7.out.2 2 _ rfl
        have kk3 := HK7.out.2 3 _ rfl
        go_wp2_with fail
        clear kpz kp0 kp1 kp2 kkz kk0 kk1 kk2 kk3
        refine (backWalker_k _ k HO7.out hV.out hlt).mono ?_
        rintro e w8 ⟨rfl, b8⟩
        have HP8 := Lib.hid (HP7.out.below b8 HP7.out.1)
        have HK8 := Lib.hid (HK7.out.below b8 HK7.out.1)
        have HO8 := Lib.hid (HO7.out.below b8 (Nat.le_refl _))
        have HGR8 := Lib.hid (HGR7.out.below b8 (Nat.le_refl _))
        have HB8 := Lib.hid (HB7.out.trans (b8.mono HB7.out.size))
        clear HP7 HK7 HO7 HGR7 HB7 b8
        have bL := (Below.refl w8.heap.size w8).alloc (Nat.le_refl _) (.cells #[.int .i64 (wtX H k + 1), .int .i64 (wtY H k + wtD H k), .int .i64 (-1), .int .i64 (-wtD H k)] 61)
        have HL9 := Lib.hid (Cel.new w8 [.int .i64 (wtX H k + 1), .int .i64 (wtY H k + wtD H k), .int .i64 (-1), .int .i64 (-wtD H k)] 61)
        have kpz := HP8.out.1
        have kp0 := HP8.out.2 0 _ rfl
        have kp1 := HP8.out.2 1 _ rfl
        have kp2 := HP8.out.2 2 _ rfl
        have kkz := HK8.out.1
        have kk0 := HK8.out.2 0 _ rfl
        have kk1 := HK8.out.2 1 _ rfl
        have kk2 := HK8.out.2 2 _ rfl
        have kk3 := HK8.out.2 3 _ rfl
        have HP9 := Lib.hid (HP8.out.below bL HP8.out.1)
        have HK9 := Lib.hid (HK8.out.below bL HK8.out.1)
        have HO9 := Lib.hid (HO8.out.below bL (Nat.le_refl _))
        have HGR9 := Lib.hid (HGR8.out.below bL (Nat.le_refl _))
        have HB9 := Lib.hid (HB8.out.trans (bL.mono HB8.out.size))
        clear HP8 HK8 HO8 HGR8 HB8 bL
        go_wp2_with fail
        clear kpz kp0 kp1 kp2 kkz kk0 kk1 kk2 kk3
        generalize w8.alloc (.cells #[.int .i64 (wtX H k + 1), .int .i64 (wtY H k + wtD H k), .int .i64 (-1), .int .i64 (-wtD H k)] 61) = w9 at *
        generalize w8.heap.size = bl at *
        refine (segmentR_k _ k HO9.out hV.out hlt).mono ?_
        rintro e w10 ⟨rfl, b10⟩
        have HP10 := Lib.hid (HP9.out.below b10 HP9.out.1)
        have HK10 := Lib.hid (HK9.out.below b10 HK9.out.1)
        have HL10 := Lib.hid (HL9.out.below b10 HL9.out.1)
        have HO10 := Lib.hid (HO9.out.below b10 (Nat.le_refl _))
        have HGR10 := Lib.hid (HGR9.out.below b10 (Nat.le_refl _))
        have HB10 := Lib.hid (HB9.out.trans (b10.mono HB9.out.size))
        clear HP9 HK9 HL9 HO9 HGR9 HB9 b10
        have kpz := HP10.out.1
        have kp0 := HP10.out.2 0 _ rfl
        have kp1 := HP10.out.2 1 _ rfl
        have kp2 := HP10.out.2 2 _ rfl
        have kkz := HK10.out.1
        have kk0 := HK10.out.2 0 _ rfl
        have kk1 := HK10.out.2 1 _ rfl
        have kk2 := HK10.out.2 2 _ rfl
        have kk3 := HK10.out.2 3 _ rfl
        have klz := HL10.out.1
        have kl0 := HL10.out.2 0 _ rfl
        have kl1 := HL10.out.2 1 _ rfl
        have kl2 := HL10.out.2 2 _ rfl
        have kl3 := HL10.out.2 3 _ rfl
        obtain ⟨gz, g0, g1, g2, g3, g4, g5, g6, g7⟩ := segAt_of HGR10.out hkM
        have OL := Lib.hid (Old.mk_ (Below.refl w10.heap.size w10).drew)
        go_wp2_with fail
        go_region_held3 (fun w' => (∀ b o, b < (w10).heap.size → w'.cell? ⟨b, o, none⟩ = (w10).cell? ⟨b, o, none⟩) ∧ Below (w10).heap.size (w10) w')
          (first | assumption | exact OL.out | exact Old.trans (by assumption) (by assumption))
          (first | (go_at_call 48; refine (segmentL_k _ k ?_ hV.out hlt).mono ?_; exact HO10.out.old (by assumption); rintro e wy ⟨rfl, by_⟩))
        clear kpz kp0 kp1 kp2 kkz kk0 kk1 kk2 kk3 klz kl0 kl1 kl2 kl3 gz g0 g1 g2 g3 g4 g5 g6 g7
        rename_i hS
        have b11 := hS.2
        clear hS OL by_
        obtain ⟨w11, rfl⟩ : ∃ w' : World, w' = wy := ⟨_, rfl⟩
        have HP11 := Lib.hid (HP10.out.below b11 HP10.out.1)
        have HK11 := Lib.hid (HK10.out.below b11 HK10.out.1)
        have HL11 := Lib.hid (HL10.out.below b11 HL10.out.1)
        have HO11 := Lib.hid (HO10.out.below b11 (Nat.le_refl _))
        have HGR11 := Lib.hid (HGR10.out.below b11 (Nat.le_refl _))
        have HB11 := Lib.hid (HB10.out.trans (b11.mono HB10.out.size))
        clear HP10 HK10 HL10 HO10 HGR10 HB10 b11
        have kpz := HP11.out.1
        have kp0 := HP11.out.2 0 _ rfl
        have kp1 := HP11.out.2 1 _ rfl
        have kp2 := HP11.out.2 2 _ rfl
        have kkz := HK11.out.1
        have kk0 := HK11.out.2 0 _ rfl
        have kk1 := HK11.out.2 1 _ rfl
        have kk2 := HK11.out.2 2 _ rfl
        have kk3 := HK11.out.2 3 _ rfl
        have klz := HL11.out.1
        have kl0 := HL11.out.2 0 _ rfl
        have kl1 := HL11.out.2 1 _ rfl
        have kl2 := HL11.out.2 2 _ rfl
        have kl3 := HL11.out.2 3 _ rfl
        obtain ⟨gz, g0, g1, g2, g3, g4, g5, g6, g7⟩ := segAt_of HGR11.out hkM
        have OL := Lib.hid (Old.mk_ (Below.refl w11.heap.size w11).drew)
        have qk : ((k : Int) != (k : Int)) = false := by simp
        go_wp2_with fail
        clear OL
        go_quiet (fail)
        go_wp2
        go_roundw
        case rel => exact ⟨k + 1, by omega, by go_num, Lib.hid (below_drewN HB11.out _)⟩
        case measure => simp [intOf]; omega
      · go_wp2
        go_ret
        exact ⟨rfl, HB4.out.trans (HJ.out.mono HB4.out.size)⟩
  · go_enter Try.func13, Try.ntmps13
    go_wp2_with fail
    refine (a2Long_any _ A0 none n0 c0 0 0 hm0 (Nat.zero_le _)).mono ?_
    rintro e w' ⟨rfl, rfl⟩
    go_wp2
    go_ret
    exact ⟨rfl, Below.refl _ _⟩

set_option maxRecDepth 100000 in
theorem lifted (os : Os) (started : os.Started) (H : Type) (enc : TypeId × Value → H) :
    ReturnsInHanded {} Try.checked os 13 .any (Rows.fnSegmentsSpec.pre6 enc Try.prog Try.f13 Rows.fnSegmentsRow.domain false) (Rows.fnSegmentsSpec.post enc Try.prog Try.f13 false true false false) := by
  refine returnsInHanded_of_change (C := Try.checked) own started (by kernel_rfl) Try.func13
    (ChangeSpec.witness6 (enc := enc) (C := Try.checked) false ⟨#[], #[.slice none 0 0], []⟩ 8 (by kernel_rfl) (by kernel_rfl) (by kernel_rfl) (by kernel_rfl)) ?_
  intro W base args ds gs before hval0 hW hcnd _
  have hval : ∀ (j : Nat) t v, Try.f13.params[j]? = some t → args[j]? = some v → Value.okWide Try.prog W .any base t v := hval0
  have hW' := hW
  obtain ⟨p, q, hA0, hV, rfl, hfz, hnd⟩ := hW
  have hA : DataW.TrodAll enc Try.prog W 0 (fun _ => true) true Try.f13.params.toList args.toList ds p := hA0
  rw [Try.params13] at hA hval
  obtain ⟨v0, vs0, d0, ds0, p0, q0, hargs, rfl, rfl, h0, tl0⟩ := trodAll_cons hA
  obtain ⟨rfl, rfl, rfl⟩ := trodAll_nil tl0
  obtain rfl : args = #[v0] := by cases args; simp_all
  obtain ⟨rfl, rfl⟩ := trodVars_none hV
  have k0 := h0
  have lt0 : ∀ x ∈ p0, x.block < W.heap.size := by obtain ⟨m, hm⟩ := k0; exact DataW.trod_lt m _ _ _ hm
  obtain ⟨A0, n0, c0, rfl⟩ := okWide_slice Try.underlying44 (hval 0 44 v0 rfl rfl)
  obtain ⟨zs0, r0⟩ : ∃ zs, Row .u8 W A0 n0 c0 zs := by
    obtain ⟨fuel, hf⟩ := h0
    obtain ⟨A', n', c', zs, e2, r⟩ := row_of Try.underlying44 Try.underlying5 (by kernel_rfl) hf (fun x hx => lt0 x hx)
    simp [Value.cells] at e2
    obtain ⟨rfl, rfl, rfl⟩ := e2
    exact ⟨zs, r⟩
  clear hA0 hval0
  refine (walk W A0 n0 c0 zs0 r0).mono fun e W' ⟨he, bel⟩ => ?_
  subst he
  exact ⟨_, rfl, _, _, _, [], _, [], hW', trodAll_mk1 (shut_bool Try.underlying4 _), (trodAll_cons_mk (Below.trod laidOut (by kernel_rfl) (of_decide_eq_true (by kernel_rfl)) k0 bel lt0) trodAll_mk0), rfl, bel.frame _, fun h => by cases h⟩

theorem over : Rows.fnSegmentsRow.holds Try.pinned (OpenSpec.ofChange Rows.fnSegmentsSpec) :=
  OpenClaim.holds_of_wide 13 Try.f13 rfl rfl rfl rfl rfl rfl rfl ⟨rfl, rfl, rfl, rfl, rfl⟩ rfl rfl rfl rfl rfl (by kernel_rfl) Try.func13 (by kernel_rfl)
    (of_decide_eq_true (by kernel_rfl)) (by unfold Func.isWrapper; first | (rw [if_pos (by decide +kernel)]; kernel_rfl) | (rw [if_neg (by decide +kernel)]; exact ⟨rfl, rfl⟩))
    (fun os started H enc _ => lifted os started H enc)

theorem proved : Rows.FnSegmentsSaid := over
#print axioms proved
end Go.Proofs.Ytfgbfmpolhilcab.fnSegments
