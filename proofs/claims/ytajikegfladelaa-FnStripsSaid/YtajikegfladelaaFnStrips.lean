/- Proved: whatever bytes FnStrips is called with (of at most 3000 each; for longer ones the law answers true at once), it returns true and changes nothing. No condition. -/
import Derived.Test.YtajikegfladelaaRows
import Derived.Test.YtajikegfladelaaBase
import Derived.Test.YtajikegfladelaaPan
import Derived.Test.YtajikegfladelaaNew
import Derived.Test.YtajikegfladelaaSrc
import Derived.Test.YtajikegfladelaaDrw
import Derived.Test.YtajikegfladelaaPnt
import Derived.Test.YtajikegfladelaaStk
import Derived.WalkKit
import Derived.ProofKit
import Derived.OpenShut
import Derived.ShutString
import Derived.ChangeOld
import Derived.Below
import Derived.Lib.SmallJoins
namespace Go.Proofs.Ytajikegfladelaa.fnStrips
open Go.ChangeShapes Go.WideShapes Go.ChangeAt Go.RowKit Go.Joins
open Go.ChangeMaps (open_string shut_string)
open Go.Proofs.Ytajikegfladelaa.Base
set_option linter.unusedVariables false
theorem own : ownKnob Try.prog.godebug = none := by kernel_rfl
theorem laidOut : laidOutB Try.prog = true := by kernel_rfl

set_option maxHeartbeats 8000000 in
set_option maxRecDepth 100000 in
theorem walk (w : World) (A0 : Option Addr) (n0 c0 : Nat) (zs0 : Nat → Int) (r0 : Row .u8 w A0 n0 c0 zs0) :
    Calls Try.prog 3 #[.slice A0 n0 c0] w fun e w' => e = .returned (.bool true) ∧ Below w.heap.size w w' := by
  have hm0 : n0 ≤ maxLen := Nat.le_trans r0.1 r0.2.1
  have HR0 := Lib.hid r0
  clear r0
  cases hl : longB n0 0
  · have hl0 : n0 ≤ 3000 := by have := of_decide_eq_false hl; omega
    go_enter Try.func3, Try.ntmps3
    go_wp2_with fail
    refine (a2Long_any _ A0 none n0 c0 0 0 hm0 (Nat.zero_le _)).mono ?_
    rintro e w' ⟨rfl, rfl⟩
    go_wp2_with fail
    refine (a2At_any _ A0 n0 c0 zs0 0 8 HR0.out (by omega) (by omega) (by omega) hl0).mono ?_
    rintro e w' ⟨a, rfl, a1, a2, rfl⟩
    have hsW : sideB (1 + a) = true := side_yes (by omega) (by omega)
    have a3 : 1 ≤ 1 + a := by omega
    have a4 : 1 + a ≤ 8 := by omega
    go_wp2_with fail
    generalize 1 + a = W at *
    clear a1 a2
    obtain ⟨i1, i2⟩ := inner_bd' hsW (show sideB 1 = true by decide)
    obtain ⟨N, hN⟩ : ∃ N : Nat, (N : Int) = inner W 1 := ⟨(inner W 1).toNat, by omega⟩
    have hN112 : N ≤ 112 := by omega
    have HSW := Lib.hid hsW
    have HN := Lib.hid hN
    clear hsW hN i1 i2
    refine (specNewPanel_ok _ W 1 N HSW.out (by decide) HN.out).mono ?_
    rintro e w1 ⟨A2, c2, rfl, R1, bb⟩
    have HQ := Lib.hid (show 0 < N → ∀ b, blk A2 = some b → w.heap.size ≤ b ∧ b < w1.heap.size from fun h b hb => R1.base_lt h b hb)
    have bN := (Below.refl w1.heap.size w1).alloc (Nat.le_refl _) (.cells #[.int .i64 W, .int .i64 1, .slice A2 N c2] 26)
    have HP2 := Lib.hid (Cel.new w1 [.int .i64 W, .int .i64 1, .slice A2 N c2] 26)
    have HO2 := Lib.hid (R1.below bN (Nat.le_refl _))
    have HB2 := Lib.hid (bb.trans (bN.mono bb.size))
    have hbz := bb.size
    have hcm := R1.2.1
    have hnc := R1.1
    unfold maxLen at hcm
    clear R1 bb bN
    go_wp2
    generalize w1.alloc (.cells #[.int .i64 W, .int .i64 1, .slice A2 N c2] 26) = w2 at *
    generalize w1.heap.size = bP at *
    go_loopw [5] (fun iv wr => ∃ (k : Nat) (F : Nat → Int), k ≤ N ∧ iv = .int .i64 k ∧ Hid (Cel wr bP [.int .i64 W, .int .i64 1, .slice A2 N c2]) ∧ Hid (OwnRow wr w.heap.size A2 N c2 F) ∧ Hid (∀ i, i < N → 0 ≤ F i ∧ F i ≤ 2) ∧ Hid (Below w.heap.size w wr)) (fun iv _ => 300 - (intOf iv).toNat)
    case atStart => exact ⟨0, fun _ => 0, Nat.zero_le _, rfl, HP2, HO2, Lib.hid (fun i hi => ⟨by show (0 : Int) ≤ 0; omega, by show (0 : Int) ≤ 2; omega⟩), HB2⟩
    case round =>
      clear HP2 HO2 HB2
      obtain ⟨k, F, hk, rfl, HP, HO, HF, HB⟩ := hrel
      have kz := HP.out.1
      have k2 : wr.cell? ⟨bP, 2, none⟩ = some (.slice A2 N c2) := HP.out.2 2 _ rfl
      by_cases hlt : k < N
      · obtain ⟨b, o, rfl, h1, h2, hc⟩ := HO.out.2.2.2 (by omega)
        obtain ⟨hck, hfk⟩ := hc k hlt
        have hbne : b < bP := (HQ.out (by omega) b rfl).2
        obtain ⟨kq, hkq⟩ : ∃ kq, atV n0 zs0 ((k : Int) + 1) 3 = kq := ⟨_, rfl⟩
        have HKB := Lib.hid (show 0 ≤ kq ∧ kq < 3 from hkq ▸ atV_bd (by omega))
        have HRr := Lib.hid (HR0.out.below HB.out (Nat.le_refl _))
        have HKQ := Lib.hid (show ∀ w', Row .u8 w' A0 n0 c0 zs0 → Calls Try.prog 7 #[.slice A0 n0 c0, .int .i64 ((k : Int) + 1), .int .i64 3] w' (fun e w'' => e = .returned (.int .i64 kq) ∧ w' = w'') from fun w' h => hkq ▸ a2At_is w' A0 n0 c0 zs0 ((k : Int) + 1) 3 h (by omega) (by omega) (by omega) hl0)
        have HRd := Lib.hid (HRr.out.below (Below.refl wr.heap.size wr).drew (Nat.le_refl _))
        have hbw : b < wr.heap.size := h2
        have hkn : (k : Int) < (N : Int) := by omega
        have hk0 : 0 ≤ (k : Int) := by omega
        have hkt : ((k : Int)).toNat = k := by omega
        have hwr : IntKind.i64.wrap ((k : Int) + 1) = (k : Int) + 1 := IntWalk.i64_in _ (by omega)
        have t0 : (wr.setCell ⟨b, o + k, none⟩ (.int .i64 kq)).cell? ⟨bP, 2, none⟩ = some (.slice (some ⟨b, o, none⟩) N c2) := (World.cell?_setCell_other _ _ _ _ (fun h => by injection h; omega)).trans k2
        clear hc hkq
        go_wp2_with fail
        go_region_held3 (fun w' => w'.cell? ⟨bP, 2, none⟩ = some (.slice (some ⟨b, o, none⟩) N c2))
          (first | exact k2 | exact t0 | go_keep | assumption)
          (first | (go_at_call 7; (first | refine (HKQ.out _ HRd.out).mono ?_ | refine (HKQ.out _ HRr.out).mono ?_); rintro e wb ⟨rfl, rfl⟩))
        rename_i hSx
        clear hSx t0 hwr hkt
        go_wp2
        go_roundw
        case rel => exact ⟨k + 1, putF F k kq, by omega, by go_num, Lib.hid (cel_set (HP.out.below (Below.refl wr.heap.size wr).drew HP.out.1) (by omega) _), Lib.hid ((HO.out.below (Below.refl wr.heap.size wr).drew (Nat.le_refl _)).put hlt kq (WalkArith.wf_i64 (by have := HKB.out; omega))), Lib.hid (put_kinds HF.out HKB.out.1 HKB.out.2), Lib.hid ((HB.out.trans ((Below.refl wr.heap.size wr).drew.mono HB.out.size)).setCell (by show w.heap.size ≤ b; omega) _)⟩
        case measure => simp [intOf]; omega
      · obtain rfl : k = N := by omega
        have HV := Lib.hid (strip_valid HSW.out HN.out HF.out)
        obtain ⟨t, ht⟩ : ∃ t, 1 + cntK 1 F k = t := ⟨_, rfl⟩
        have HT := Lib.hid ht
        clear hlt ht
        have k0 := HP.out.2 0 _ rfl
        have k1 := HP.out.2 1 _ rfl
        go_wp2_with fail
        clear k0 k1 k2 kz
        refine (stripcurves_k _ HO.out.row HV.out).mono ?_
        rintro e w3 ⟨rfl, bb⟩
        rw [HT.out]
        have HP3 := Lib.hid (HP.out.below bb HP.out.1)
        have HO3 := Lib.hid (HO.out.row.below bb (Nat.le_refl _))
        have HB3 := Lib.hid (HB.out.trans (bb.mono HB.out.size))
        clear bb HP HO HB
        have kz := HP3.out.1
        have k0 := HP3.out.2 0 _ rfl
        have k1 := HP3.out.2 1 _ rfl
        have k2 := HP3.out.2 2 _ rfl
        go_wp2_with fail
        clear k0 k1 k2 kz
        refine (stripcount_k _ HO3.out HV.out).mono ?_
        rintro e w4 ⟨rfl, bb⟩
        rw [HT.out]
        have HF4 := Lib.hid (HB3.out.trans (bb.mono HB3.out.size))
        have et : (t == t) = true := beq_self_eq_true _
        clear bb
        go_wp2
        go_ret
        exact ⟨rfl, HF4.out⟩
  · go_enter Try.func3, Try.ntmps3
    go_wp2_with fail
    refine (a2Long_any _ A0 none n0 c0 0 0 hm0 (Nat.zero_le _)).mono ?_
    rintro e w' ⟨rfl, rfl⟩
    go_wp2
    go_ret
    exact ⟨rfl, Below.refl _ _⟩

set_option maxRecDepth 100000 in
theorem lifted (os : Os) (started : os.Started) (H : Type) (enc : TypeId × Value → H) :
    ReturnsInHanded {} Try.checked os 3 .any (Rows.fnStripsSpec.pre6 enc Try.prog Try.f3 Rows.fnStripsRow.domain false) (Rows.fnStripsSpec.post enc Try.prog Try.f3 false true false false) := by
  refine returnsInHanded_of_change (C := Try.checked) own started (by kernel_rfl) Try.func3
    (ChangeSpec.witness6 (enc := enc) (C := Try.checked) false ⟨#[], #[.slice none 0 0], []⟩ 8 (by kernel_rfl) (by kernel_rfl) (by kernel_rfl) (by kernel_rfl)) ?_
  intro W base args ds gs before hval0 hW hcnd _
  have hval : ∀ (j : Nat) t v, Try.f3.params[j]? = some t → args[j]? = some v → Value.okWide Try.prog W .any base t v := hval0
  have hW' := hW
  obtain ⟨p, q, hA0, hV, rfl, hfz, hnd⟩ := hW
  have hA : DataW.TrodAll enc Try.prog W 0 (fun _ => true) true Try.f3.params.toList args.toList ds p := hA0
  rw [Try.params3] at hA hval
  obtain ⟨v0, vs0, d0, ds0, p0, q0, hargs, rfl, rfl, h0, tl0⟩ := trodAll_cons hA
  obtain ⟨rfl, rfl, rfl⟩ := trodAll_nil tl0
  obtain rfl : args = #[v0] := by cases args; simp_all
  obtain ⟨rfl, rfl⟩ := trodVars_none hV
  have k0 := h0
  have lt0 : ∀ x ∈ p0, x.block < W.heap.size := by obtain ⟨m, hm⟩ := k0; exact DataW.trod_lt m _ _ _ hm
  obtain ⟨A0, n0, c0, rfl⟩ := okWide_slice Try.underlying22 (hval 0 22 v0 rfl rfl)
  obtain ⟨zs0, r0⟩ : ∃ zs, Row .u8 W A0 n0 c0 zs := by
    obtain ⟨fuel, hf⟩ := h0
    obtain ⟨A', n', c', zs, e2, r⟩ := row_of Try.underlying22 Try.underlying5 (by kernel_rfl) hf (fun x hx => lt0 x hx)
    simp [Value.cells] at e2
    obtain ⟨rfl, rfl, rfl⟩ := e2
    exact ⟨zs, r⟩
  clear hA0 hval0
  refine (walk W A0 n0 c0 zs0 r0).mono fun e W' ⟨he, bel⟩ => ?_
  subst he
  exact ⟨_, rfl, _, _, _, [], _, [], hW', trodAll_mk1 (shut_bool Try.underlying4 _), (trodAll_cons_mk (Below.trod laidOut (by kernel_rfl) (of_decide_eq_true (by kernel_rfl)) k0 bel lt0) trodAll_mk0), rfl, bel.frame _, fun h => by cases h⟩

theorem over : Rows.fnStripsRow.holds Try.pinned (OpenSpec.ofChange Rows.fnStripsSpec) :=
  OpenClaim.holds_of_wide 3 Try.f3 rfl rfl rfl rfl rfl rfl rfl ⟨rfl, rfl, rfl, rfl, rfl⟩ rfl rfl rfl rfl rfl (by kernel_rfl) Try.func3 (by kernel_rfl)
    (of_decide_eq_true (by kernel_rfl)) (by unfold Func.isWrapper; first | (rw [if_pos (by decide +kernel)]; kernel_rfl) | (rw [if_neg (by decide +kernel)]; exact ⟨rfl, rfl⟩))
    (fun os started H enc _ => lifted os started H enc)

theorem proved : Rows.FnStripsSaid := over
#print axioms proved
end Go.Proofs.Ytajikegfladelaa.fnStrips
