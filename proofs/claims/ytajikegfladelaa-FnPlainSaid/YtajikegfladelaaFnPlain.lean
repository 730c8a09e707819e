/- Proved: whatever bytes FnPlain is called with (of at most 3000 each; for longer ones the law answers true at once), it returns true and changes nothing. No condition. -/
import Derived.Test.YtajikegfladelaaRows
import Derived.Test.YtajikegfladelaaBase
import Derived.Test.YtajikegfladelaaPan
import Derived.Test.YtajikegfladelaaNew
import Derived.Test.YtajikegfladelaaSrc
import Derived.Test.YtajikegfladelaaDrw
import Derived.Test.YtajikegfladelaaPnt
import Derived.Test.YtajikegfladelaaPln
import Derived.WalkKit
import Derived.ProofKit
import Derived.OpenShut
import Derived.ShutString
import Derived.ChangeOld
import Derived.Below
import Derived.Lib.SmallJoins
namespace Go.Proofs.Ytajikegfladelaa.fnPlain
open Go.ChangeShapes Go.WideShapes Go.ChangeAt Go.RowKit Go.Joins
open Go.ChangeMaps (open_string shut_string)
open Go.Proofs.Ytajikegfladelaa.Base
set_option linter.unusedVariables false
theorem own : ownKnob Try.prog.godebug = none := by kernel_rfl
theorem laidOut : laidOutB Try.prog = true := by kernel_rfl

set_option maxHeartbeats 8000000 in
set_option maxRecDepth 100000 in
theorem walk (w : World) (A0 : Option Addr) (n0 c0 : Nat) (zs0 : Nat → Int) (r0 : Row .u8 w A0 n0 c0 zs0) :
    Calls Try.prog 4 #[.slice A0 n0 c0] w fun e w' => e = .returned (.bool true) ∧ Below w.heap.size w w' := by
  have hm0 : n0 ≤ maxLen := Nat.le_trans r0.1 r0.2.1
  have HR0 := Lib.hid r0
  clear r0
  cases hl : longB n0 0
  · have hl0 : n0 ≤ 3000 := by have := of_decide_eq_false hl; omega
    go_enter Try.func4, Try.ntmps4
    go_wp2_with fail
    refine (a2Long_any _ A0 none n0 c0 0 0 hm0 (Nat.zero_le _)).mono ?_
    rintro e w' ⟨rfl, rfl⟩
    go_wp2_with fail
    refine (a2At_any _ A0 n0 c0 zs0 0 8 HR0.out (by omega) (by omega) (by omega) hl0).mono ?_
    rintro e w' ⟨a, rfl, a1, a2, rfl⟩
    go_wp2_with fail
    refine (a2At_any _ A0 n0 c0 zs0 1 8 HR0.out (by omega) (by omega) (by omega) hl0).mono ?_
    rintro e w' ⟨b, rfl, b1, b2, rfl⟩
    have hsW : sideB (1 + a) = true := side_yes (by omega) (by omega)
    have hsH : sideB (1 + b) = true := side_yes (by omega) (by omega)
    have a3 : 1 ≤ 1 + a := by omega
    have a4 : 1 + a ≤ 8 := by omega
    have b3 : 1 ≤ 1 + b := by omega
    have b4 : 1 + b ≤ 8 := by omega
    go_wp2_with fail
    generalize 1 + a = W at *
    generalize 1 + b = H at *
    clear a1 a2 b1 b2
    obtain ⟨i1, i2⟩ := inner_bd' hsW hsH
    obtain ⟨N, hN⟩ : ∃ N : Nat, (N : Int) = inner W H := ⟨(inner W H).toNat, by omega⟩
    have hg1 := gcI_pos (b := H) a3
    obtain ⟨G, hG⟩ : ∃ G : Nat, gcI W H = G := ⟨(gcI W H).toNat, by omega⟩
    obtain ⟨ll, hll⟩ : ∃ ll, lcI W H = ll := ⟨_, rfl⟩
    obtain ⟨tt, htt⟩ : ∃ tt, 2 * (W + H) / gcI W H = tt := ⟨_, rfl⟩
    have HI := Lib.hid (PlnIs.mk hG hll htt)
    have HSW := Lib.hid hsW
    have HSH := Lib.hid hsH
    have HN := Lib.hid hN
    obtain ⟨q1, q2, q3, q4, q5, q6, q7⟩ := pln_prod hsW hsH HI.out
    have hls := lc_small8 hsW hsH
    rw [hll] at hls
    obtain ⟨l1, l2⟩ := hls
    have Q1 : ((G : Int) * ll == W * H) = true := beq_iff_eq.2 q1
    have Q1' : ((G : Int) * ll != W * H) = false := by rw [bne_eq_false_iff_eq]; exact q1
    have Q2 : (W % (G : Int) == 0) = true := beq_iff_eq.2 q2
    have Q2' : (W % (G : Int) != 0) = false := by rw [bne_eq_false_iff_eq]; exact q2
    have Q3 : (H % (G : Int) == 0) = true := beq_iff_eq.2 q3
    have Q3' : (H % (G : Int) != 0) = false := by rw [bne_eq_false_iff_eq]; exact q3
    have q8 : 0 ≤ (G : Int) * ll := by omega
    have q9 : (G : Int) * ll ≤ 64 := by omega
    have HM := Lib.hid (ssM_le H)
    clear hsW hsH hN hG hll htt hg1 i1 i2 q1 q2 q3
    refine (specNewPanel_ok _ W H N HSW.out HSH.out HN.out).mono ?_
    rintro e w1 ⟨A2, c2, rfl, R1, bb⟩
    have bN := (Below.refl w1.heap.size w1).alloc (Nat.le_refl _) (.cells #[.int .i64 W, .int .i64 H, .slice A2 N c2] 26)
    have HP2 := Lib.hid (Cel.new w1 [.int .i64 W, .int .i64 H, .slice A2 N c2] 26)
    have HZ2 := Lib.hid (R1.row.below bN (Nat.le_refl _))
    have HB2 := Lib.hid (bb.trans (bN.mono bb.size))
    clear R1 bb bN
    go_wp2_with fail
    generalize w1.alloc (.cells #[.int .i64 W, .int .i64 H, .slice A2 N c2] 26) = w2 at *
    generalize w1.heap.size = bP at *
    refine (curves_f _ HSW.out HSH.out HI.out).mono ?_
    rintro e w3 ⟨rfl, bb⟩
    have HP3 := Lib.hid (HP2.out.below bb HP2.out.1)
    have HZ3 := Lib.hid (HZ2.out.below bb (Nat.le_refl _))
    have HB3 := Lib.hid (HB2.out.trans (bb.mono HB2.out.size))
    clear bb HP2 HZ2 HB2
    go_wp2_with fail
    refine (length_f _ HSW.out HSH.out HI.out).mono ?_
    rintro e w4 ⟨rfl, bb⟩
    have HP4 := Lib.hid (HP3.out.below bb HP3.out.1)
    have HZ4 := Lib.hid (HZ3.out.below bb (Nat.le_refl _))
    have HB4 := Lib.hid (HB3.out.trans (bb.mono HB3.out.size))
    clear bb HP3 HZ3 HB3
    go_wp2_with fail
    refine (touches_f _ HSW.out HSH.out HI.out).mono ?_
    rintro e w5 ⟨rfl, bb⟩
    have HP5 := Lib.hid (HP4.out.below bb HP4.out.1)
    have HZ5 := Lib.hid (HZ4.out.below bb (Nat.le_refl _))
    have HB5 := Lib.hid (HB4.out.trans (bb.mono HB4.out.size))
    clear bb HP4 HZ4 HB4
    have kz := HP5.out.1
    have k0 := HP5.out.2 0 _ rfl
    have k1 := HP5.out.2 1 _ rfl
    have k2 := HP5.out.2 2 _ rfl
    go_wp2_with fail
    clear kz k0 k1 k2
    refine (lengths_f _ HZ5.out HSW.out HSH.out HN.out HI.out).mono ?_
    rintro e w6 ⟨A3, c3, rfl, R6, bb⟩
    have HP6 := Lib.hid (HP5.out.below bb HP5.out.1)
    have HZ6 := Lib.hid (HZ5.out.below bb (Nat.le_refl _))
    have HB6 := Lib.hid (HB5.out.trans (bb.mono HB5.out.size))
    have HL6 := Lib.hid (rowS_one.1 R6.row)
    clear bb R6 HP5 HZ5 HB5
    go_wp2_with fail
    refine (divisor_f _ HSW.out HSH.out HI.out).mono ?_
    rintro e w7 ⟨rfl, bb⟩
    have HP7 := Lib.hid (HP6.out.below bb HP6.out.1)
    have HZ7 := Lib.hid (HZ6.out.below bb (Nat.le_refl _))
    have HL7 := Lib.hid (HL6.out.below bb (Nat.le_refl _))
    have HB7 := Lib.hid (HB6.out.trans (bb.mono HB6.out.size))
    clear bb HP6 HZ6 HB6 HL6
    go_wp2_with fail
    refine (multiple_f _ HSW.out HSH.out HI.out).mono ?_
    rintro e w8 ⟨rfl, bb⟩
    have HP8 := Lib.hid (HP7.out.below bb HP7.out.1)
    have HZ8 := Lib.hid (HZ7.out.below bb (Nat.le_refl _))
    have HL8 := Lib.hid (HL7.out.below bb (Nat.le_refl _))
    have HB8 := Lib.hid (HB7.out.trans (bb.mono HB7.out.size))
    clear bb HP7 HZ7 HB7 HL7
    go_wp2_with fail
    refine (sizes_f _ HSH.out).mono ?_
    rintro e w9 ⟨A4, c4, rfl, R9, bb⟩
    have HP9 := Lib.hid (HP8.out.below bb HP8.out.1)
    have HZ9 := Lib.hid (HZ8.out.below bb (Nat.le_refl _))
    have HL9 := Lib.hid (HL8.out.below bb (Nat.le_refl _))
    have HB9 := Lib.hid (HB8.out.trans (bb.mono HB8.out.size))
    have HS9 := Lib.hid (rowS_one.1 R9.row)
    clear bb R9 HP8 HZ8 HB8 HL8
    obtain ⟨M, hM⟩ : ∃ M, ssM H = M := ⟨_, rfl⟩
    rw [hM] at HS9 HM ⊢
    have HMM := Lib.hid hM
    have hM8 := HM.out
    clear hM
    go_wp2
    clear Q1 Q1' Q2 Q2' Q3 Q3'
    go_loopw [21] (fun iv wr => ∃ k : Nat, k ≤ G ∧ iv = .int .i64 k ∧ Hid (Below w9.heap.size w9 wr)) (fun iv _ => 300 - (intOf iv).toNat)
    case atStart => exact ⟨0, Nat.zero_le _, rfl, Lib.hid (Below.refl _ _)⟩
    case round =>
      obtain ⟨k, hk, rfl, HJ⟩ := hrel
      have HP := Lib.hid (HP9.out.below HJ.out HP9.out.1)
      have HZ := Lib.hid (HZ9.out.below HJ.out (Nat.le_refl _))
      have HL := Lib.hid (HL9.out.below HJ.out (Nat.le_refl _))
      by_cases hlt : k < G
      · have hdec : decide ((k : Int) < (G : Int)) = true := decide_eq_true (by omega)
        have kz := HP.out.1
        have k0 := HP.out.2 0 _ rfl
        have k1 := HP.out.2 1 _ rfl
        have k2 := HP.out.2 2 _ rfl
        go_wp2_with fail
        clear kz k0 k1 k2
        refine (touched_f _ HZ.out HSW.out HSH.out HN.out HI.out hlt).mono ?_
        rintro e wa ⟨rfl, bb⟩
        have HJa := Lib.hid (HJ.out.trans (bb.mono HJ.out.size))
        obtain ⟨bl, ol, rfl, hbl, hc⟩ := (HL.out.below bb (Nat.le_refl _)).2.2.2 (by omega)
        have hck := hc k hlt
        rw [lnF_is HSW.out HSH.out HI.out hlt] at hck
        have hnc := HL.out.1
        have e1 : (4 * ll == 4 * ll) = true := beq_self_eq_true _
        have e2 : (tt == tt) = true := beq_self_eq_true _
        clear bb hc
        go_wp2
        go_roundw
        case rel => exact ⟨k + 1, by omega, by go_num, HJa⟩
        case measure => simp [intOf]; omega
      · obtain rfl : k = G := by omega
        have hdec : decide ((k : Int) < (k : Int)) = false := by simp
        have HSr := Lib.hid (HS9.out.below HJ.out (Nat.le_refl _))
        have HBF := Lib.hid (HB9.out.trans (HJ.out.mono HB9.out.size))
        clear hlt
        go_wp2
        generalize hwo : wr = wo at *
        clear hwo wr
        go_loop [24, 25] (fun fv iv => ∃ j : Nat, j ≤ M ∧ iv = .int .i64 j ∧ fv = .bool (fnd W H j)) (fun _ iv => 300 - (intOf iv).toNat)
        case atStart => exact ⟨0, Nat.zero_le _, rfl, rfl⟩
        case round =>
          obtain ⟨j, hj, rfl, rfl⟩ := hrel
          by_cases hlj : j < M
          · have hdj : decide ((j : Int) < (M : Int)) = true := decide_eq_true (by omega)
            obtain ⟨bl, ol, rfl, hbl, hc⟩ := HSr.out.2.2.2 (by omega)
            have hcj := hc j hlj
            have hnc := HSr.out.1
            clear hc
            have HF := Lib.hid (fnd_succ (W := W) (H := H) j)
            cases hf : fnd W H j
            · obtain ⟨v, hv⟩ : ∃ v, (ssF H j == W) = v := ⟨_, rfl⟩
              have HV := Lib.hid hv
              go_wp2
              go_round
              case rel => exact ⟨j + 1, by omega, by go_num, by rw [HF.out, hf, HV.out]; simp⟩
              case measure => simp [intOf]; omega
            · go_wp2
              go_round
              case rel => exact ⟨j + 1, by omega, by go_num, by rw [HF.out, hf]; simp⟩
              case measure => simp [intOf]; omega
          · obtain rfl : j = M := by omega
            have hf := fnd_all HSW.out HI.out
            rw [HMM.out] at hf
            rw [hf]
            have HE := Lib.hid (show (((k : Int) == 1) == ((k : Int) == 1)) = true from beq_self_eq_true _)
            clear hf
            go_wp2
            go_ret
            exact ⟨ret_bool (by simp), HBF.out⟩
  · go_enter Try.func4, Try.ntmps4
    go_wp2_with fail
    refine (a2Long_any _ A0 none n0 c0 0 0 hm0 (Nat.zero_le _)).mono ?_
    rintro e w' ⟨rfl, rfl⟩
    go_wp2
    go_ret
    exact ⟨rfl, Below.refl _ _⟩

set_option maxRecDepth 100000 in
theorem lifted (os : Os) (started : os.Started) (H : Type) (enc : TypeId × Value → H) :
    ReturnsInHanded {} Try.checked os 4 .any (Rows.fnPlainSpec.pre6 enc Try.prog Try.f4 Rows.fnPlainRow.domain false) (Rows.fnPlainSpec.post enc Try.prog Try.f4 false true false false) := by
  refine returnsInHanded_of_change (C := Try.checked) own started (by kernel_rfl) Try.func4
    (ChangeSpec.witness6 (enc := enc) (C := Try.checked) false ⟨#[], #[.slice none 0 0], []⟩ 8 (by kernel_rfl) (by kernel_rfl) (by kernel_rfl) (by kernel_rfl)) ?_
  intro W base args ds gs before hval0 hW hcnd _
  have hval : ∀ (j : Nat) t v, Try.f4.params[j]? = some t → args[j]? = some v → Value.okWide Try.prog W .any base t v := hval0
  have hW' := hW
  obtain ⟨p, q, hA0, hV, rfl, hfz, hnd⟩ := hW
  have hA : DataW.TrodAll enc Try.prog W 0 (fun _ => true) true Try.f4.params.toList args.toList ds p := hA0
  rw [Try.params4] at hA hval
  obtain ⟨v0, vs0, d0, ds0, p0, q0, hargs, rfl, rfl, h0, tl0⟩ := trodAll_cons hA
  obtain ⟨rfl, rfl, rfl⟩ := trodAll_nil tl0
  obtain rfl : args = #[v0] := by cases args; simp_all
  obtain ⟨rfl, rfl⟩ := trodVars_none hV
  have k0 := h0
  have lt0 : ∀ x ∈ p0, x.block < W.heap.size := by obtain ⟨m, hm⟩ := k0; exact DataW.trod_lt m _ _ _ hm
  obtain ⟨A0, n0, c0, rfl⟩ := okWide_slice Try.underlying22 (hval 0 22 v0 rfl rfl)
  obtain ⟨zs0, r0⟩ : ∃ zs, Row .u8 W A0 n0 c0 zs := by
    obtain ⟨fuel, hf⟩ := h0
    obtain ⟨A', n', c', zs, e2, r⟩ := row_of Try.underlying22 Try.underlying5 (by kernel_rfl) hf (fun x hx => lt0 x hx)
    simp [Value.cells] at e2
    obtain ⟨rfl, rfl, rfl⟩ := e2
    exact ⟨zs, r⟩
  clear hA0 hval0
  refine (walk W A0 n0 c0 zs0 r0).mono fun e W' ⟨he, bel⟩ => ?_
  subst he
  exact ⟨_, rfl, _, _, _, [], _, [], hW', trodAll_mk1 (shut_bool Try.underlying4 _), (trodAll_cons_mk (Below.trod laidOut (by kernel_rfl) (of_decide_eq_true (by kernel_rfl)) k0 bel lt0) trodAll_mk0), rfl, bel.frame _, fun h => by cases h⟩

theorem over : Rows.fnPlainRow.holds Try.pinned (OpenSpec.ofChange Rows.fnPlainSpec) :=
  OpenClaim.holds_of_wide 4 Try.f4 rfl rfl rfl rfl rfl rfl rfl ⟨rfl, rfl, rfl, rfl, rfl⟩ rfl rfl rfl rfl rfl (by kernel_rfl) Try.func4 (by kernel_rfl)
    (of_decide_eq_true (by kernel_rfl)) (by unfold Func.isWrapper; first | (rw [if_pos (by decide +kernel)]; kernel_rfl) | (rw [if_neg (by decide +kernel)]; exact ⟨rfl, rfl⟩))
    (fun os started H enc _ => lifted os started H enc)

theorem proved : Rows.FnPlainSaid := over
#print axioms proved
end Go.Proofs.Ytajikegfladelaa.fnPlain
