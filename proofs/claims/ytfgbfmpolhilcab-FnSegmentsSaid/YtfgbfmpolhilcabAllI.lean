/-
  AllWalkers: the program's.
-/
import Derived.Test.YtfgbfmpolhilcabAllS
namespace Go.Proofs.Ytfgbfmpolhilcab.Base
open Go.RowKit
set_option linter.unusedVariables false
set_option linter.unusedSimpArgs false

set_option maxRecDepth 100000 in
set_option maxHeartbeats 2000000 in
theorem impl_allWalkers (w : World) (W H : Int) (A : Option Addr) (n c : Nat) (f : Nat → Int) (hr : Row .i64 w A n c f) :
    Calls Try.prog 53 #[.agg #[.int .i64 W, .int .i64 H, .slice A n c]] w (AllOut w.heap.size W H n f w) := by
  have HL := Lib.hid (show Below w.heap.size w (w.alloc (.cells #[.int .i64 W, .int .i64 H, .slice A n c] 57)) from (Below.refl _ _).alloc (Nat.le_refl _) _)
  have HR := Lib.hid hr
  clear hr
  cases hv : validB W H n f
  · obtain ⟨e1, e2⟩ := segN_no hv
    have HV := Lib.hid hv
    clear hv
    have E1 := Lib.hid e1
    have E2 := Lib.hid e2
    clear e1 e2
    go_enter Try.func53, Try.ntmps53
    go_wp2_with fail
    refine (implOk_is HV.out (HR.out.below HL.out (Nat.le_refl _))).mono ?_
    rintro e w1 ⟨rfl, b1⟩
    have HB := Lib.hid (HL.out.trans (b1.mono (by first | exact Nat.le_refl _ | (simp; done) | (simp; omega) | omega)))
    clear b1
    go_wp2
    go_ret2
    refine ⟨none, 0, ?_, ?_, HB.out⟩
    · unfold allN
      rw [E1.out, E2.out]
      rfl
    · have E : allN W H n f = 0 := by unfold allN; rw [E1.out]; rfl
      rw [E]
      exact ⟨Nat.le_refl _, Nat.zero_le _, fun i hi => absurd hi (by omega), fun h => absurd h (by omega)⟩
  · obtain ⟨hW, hH, -, -⟩ := validB_yes hv
    obtain ⟨e1, e2⟩ := segN_yes hv
    obtain ⟨m0, m1⟩ := segs_bd hW hH
    obtain ⟨a1, a2⟩ := side_mk hW
    obtain ⟨b1, b2⟩ := side_mk hH
    have HW := Lib.hid hW
    have HH := Lib.hid hH
    have HV := Lib.hid hv
    have E1 := Lib.hid e1
    have E2 := Lib.hid e2
    clear hv e1 e2 hW hH
    obtain ⟨i0, hi, hz0, hz1, hz2⟩ := info_parts infoWalker
    go_enter Try.func53, Try.ntmps53
    go_wp2_with fail
    refine (implOk_is HV.out (HR.out.below HL.out (Nat.le_refl _))).mono ?_
    rintro e w1 ⟨rfl, c1⟩
    obtain ⟨hc1, hf1⟩ := bcell c1
    go_wp2_with fail
    refine (sizeOf_any _ W H A n c).mono ?_
    rintro e w2 ⟨rfl, c2⟩
    have HL2 := Lib.hid (HL.out.trans ((c1.trans (c2.mono c1.size)).mono (by first | exact Nat.le_refl _ | (simp; done) | (simp; omega) | omega)))
    clear hc1 hf1 c1 c2
    go_wp2_with fail
    refine (implSegs _ W H HW.out HH.out).mono ?_
    rintro e w3 ⟨rfl, c3⟩
    have K3 := Lib.hid ((Cel.new w2 [.int .i64 W, .int .i64 H] 116).below c3 (by first | exact Nat.le_refl _ | (simp; done) | (simp; omega) | omega))
    have HB3 := Lib.hid (show Below (w2.heap.size + 1) (w2.alloc (.cells #[.int .i64 W, .int .i64 H] 116)) w3 from c3.mono (by first | exact Nat.le_refl _ | (simp; done) | (simp; omega) | omega))
    clear c3
    have hz3 := HB3.out.size
    go_wp2_with (first
      | (at_make; refine wpList_make_own _ rfl (.const (.int .i64 0)) (.tmp 15) 73 rfl (w2.heap.size + 1) 61 i0 _ 4 Try.underlying73 hi hz0 hz1 .i64 .i64 (2 * (4 * W * H)) (2 * (4 * W * H)).toNat (by rfl) (by rfl) (by omega) (by rw [hz2]; omega) (by unfold maxLen; omega) (by simpa using hz3) ?_; intro w4 hown4 hgrow4; have K4 := Lib.hid (K3.out.grownR hgrow4 (fun e => by cases e)); have s0 := K4.out.2 0 _ rfl; have s1 := K4.out.2 1 _ rfl; have HB4 := Lib.hid (HB3.out.grown hgrow4 (by simpa using hz3) (fun b e => by cases e)); have HO4 := Lib.hid hown4; clear hown4 hgrow4 K3 HB3))
    refine (implSegs _ W H HW.out HH.out).mono ?_
    rintro e w5 ⟨rfl, c5⟩
    have HO5 := Lib.hid (owns_below HO4.out c5)
    have HB5 := Lib.hid (HB4.out.trans (c5.mono (Nat.le_trans (by simp) HB4.out.size)))
    clear c5 HO4 HB4 K4 s0 s1
    go_wp2
    go_loopw [5, 19] (fun out kv wr => ∃ k : Nat, (k : Int) ≤ 4 * W * H ∧ kv = .int .i64 k ∧ Hid (wr.ownsRow (w2.heap.size + 1) 61 4 out (2 * k) (ivs (wls H k))) ∧ Hid (Below (w2.heap.size + 1) (w2.alloc (.cells #[.int .i64 W, .int .i64 H] 116)) wr))
      (fun _ kv _ => 300 - (intOf kv).toNat)
    case atStart => exact ⟨0, by omega, rfl, HO5, HB5⟩
    case round =>
      obtain ⟨k, hk, rfl, HO, HB⟩ := hrel
      have KS := (Cel.new w2 [.int .i64 W, .int .i64 H] 116).below HB.out (by simp)
      have s0 := KS.2 0 _ rfl
      have s1 := KS.2 1 _ rfl
      have hp := KS.1
      clear KS
      by_cases hlt : (k : Int) < 4 * W * H
      · go_wp2_with fail
        obtain ⟨g1, g2, g3, g4, g5, g6, g7, g8⟩ := wt_rng (s := k) HW.out HH.out hlt
        refine (implWalker _ W H k HH.out (by omega) (by omega)).mono ?_
        rintro e w6 ⟨rfl, c6⟩
        go_wp2
        have B6 := Lib.hid c6
        clear c6 s0 s1
        have K0 := Lib.hid (Cel.new w6 [.int .i64 (wtX H k), .int .i64 (wtY H k), .int .i64 1, .int .i64 (wtD H k)] 61)
        have hbase : w2.heap.size + 1 ≤ wr.heap.size := by omega
        have hw2 := B6.out.size
        go_region_held3 (fun w' => w'.cell? ⟨w6.heap.size, 0, none⟩ = some (.int .i64 (wtX H k)) ∧ w'.cell? ⟨w6.heap.size, 1, none⟩ = some (.int .i64 (wtY H k)) ∧ w'.cell? ⟨w6.heap.size, 2, none⟩ = some (.int .i64 1) ∧ w'.cell? ⟨w6.heap.size, 3, none⟩ = some (.int .i64 (wtD H k)))
          (first | exact ⟨r0, r1, r2, r3⟩ | exact ⟨q0, q1, q2, q3⟩ | go_keep | (simp [go_sem]; done))
          (first
            | (go_at_call 90; refine (implBack _ (wtX H k) (wtY H k) 1 (wtD H k) g1 (by omega) g3 g4 rfl g5).mono ?_; rintro e wa ⟨rfl, ba⟩; have HA := Lib.hid (below_step B6.out ba); have hza := HA.out.size; have KA := Lib.hid (cel_step K0.out ba); have q0 := KA.out.2 0 _ rfl; have q1 := KA.out.2 1 _ rfl; have q2 := KA.out.2 2 _ rfl; have q3 := KA.out.2 3 _ rfl; clear ba)
            | (refine step_append_lies _ (by rfl) _ _ _ (by rfl) (w2.heap.size + 1) 61 i0 _ 4 32 Try.underlying73 hi hz0 hz1 hz2 rfl (by omega) u5 (2 * k) (ivs (wls H k)) (by rfl) (by first | exact ((owns_below HO.out HA.out).alloc _).drew | exact (owns_below HO.out HA.out).alloc _) ⟨wa.heap.size, 0, none⟩ 2 2 [.int .i64 (wtX H k), .int .i64 (wtY H k), .int .i64 1, .int .i64 (wtD H k), .int .i64 (wtX H k + 1), .int .i64 (wtY H k + wtD H k), .int .i64 (-1), .int .i64 (-wtD H k)] (by rfl) (by rfl) (World.news_of_block (cs := #[.int .i64 (wtX H k), .int .i64 (wtY H k), .int .i64 1, .int .i64 (wtD H k), .int .i64 (wtX H k + 1), .int .i64 (wtY H k + wtD H k), .int .i64 (-1), .int .i64 (-wtD H k)]) (t := 61) (fr := (0, 0)) (heap_alloc_new wa _)) (ivs_one (wl8 H k)) (by omega) (by unfold maxLen; omega) (by omega) (by simp; omega) (wa.heap.size + 1) (by simp) ?_; intro gg cap wz hown1 hgrow hat hlt1; have KC : Hid (Cel wz w6.heap.size [.int .i64 (wtX H k), .int .i64 (wtY H k), .int .i64 1, .int .i64 (wtD H k)]) := Lib.hid (cel_grow KA.out hgrow (by first | exact ((Below.refl _ _).alloc (Nat.le_refl _) _).drew | exact (Below.refl _ _).alloc (Nat.le_refl _) _ | exact (Below.refl _ _).drew.alloc (Nat.le_refl _) _) (fun e => owns_far (b := w6.heap.size) HO.out hw2 e.symm)); have r0 := KC.out.2 0 _ rfl; have r1 := KC.out.2 1 _ rfl; have r2 := KC.out.2 2 _ rfl; have r3 := KC.out.2 3 _ rfl; clear hat))
        have HB1 := Lib.hid (below_grow (HB.out.trans (HA.out.mono hbase)) hgrow (by first | exact ((Below.refl _ _).alloc (Nat.le_refl _) _).drew | exact (Below.refl _ _).alloc (Nat.le_refl _) _ | exact (Below.refl _ _).drew.alloc (Nat.le_refl _) _) (by omega) (fun b e => (HO.out.lt b e).1))
        have HO1 := Lib.hid (owns_next hown1)
        clear hown1 hgrow q0 q1 q2 q3 r0 r1 r2 r3 KA KC HA K0 HO HB B6
        go_wp2
        go_roundw
        case rel => exact ⟨k + 1, by omega, by go_num, HO1, HB1⟩
        case measure => simp [intOf]; omega
      · go_wp2
        go_ret2
        have ek : k = (4 * W * H).toNat := by omega
        obtain ⟨A', c', rfl, ho⟩ := ownS_of_owns HO.out (wls_wf HW.out HH.out k (by omega))
        have hz2' := HL2.out.size
        refine ⟨A', c', ?_, ?_, HL2.out.trans (((Below.refl _ _).alloc (Nat.le_refl _) _).trans (HB.out.mono (by simp)) |>.mono hz2')⟩
        · unfold allN
          rw [E1.out, E2.out, ek]
          rfl
        · unfold allN allF
          rw [E1.out, ← ek]
          exact ⟨ho.1, ho.2.1, ho.2.2.1, fun hn => by obtain ⟨b, o, q1, q2, q3⟩ := ho.2.2.2 hn; exact ⟨b, o, q1, by omega, q3⟩⟩
end Go.Proofs.Ytfgbfmpolhilcab.Base
