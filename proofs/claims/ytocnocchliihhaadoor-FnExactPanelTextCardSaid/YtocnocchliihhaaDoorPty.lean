/-
  PanelText: the program's.
-/
import Derived.Test.YtocnocchliihhaaDoorPtx
import Derived.Test.YtocnocchliihhaaDoorBld
import Derived.Test.YtocnocchliihhaaDoorDci
import Derived.Test.YtocnocchliihhaaDoorPan
namespace Go.Proofs.YtocnocchliihhaaDoor.Base
open Go Go.RowKit
set_option linter.unusedVariables false
set_option linter.unusedSimpArgs false

theorem sgU_at3 (k : Int) (h : 0 ≤ k ∧ k ≤ 2) : (k = 0 ∧ sgU k = 43) ∨ (k = 1 ∧ sgU k = 124) ∨ (k = 2 ∧ sgU k = 45) := by
  rcases (show k = 0 ∨ k = 1 ∨ k = 2 by omega) with rfl | rfl | rfl <;> simp [sgU]
set_option maxRecDepth 100000 in
set_option maxHeartbeats 4000000 in
theorem impl_panelText (w : World) (W H : Int) (A : Option Addr) (n c : Nat) (f : Nat → Int) (hr : Row .i64 w A n c f) (hT : Lib.TabIs Tryd.prog w "internal/strconv.uint64pow10" .u64 Lib.pow10Tab) :
    Calls Tryd.prog 37 #[.agg #[.int .i64 W, .int .i64 H, .slice A n c]] w (Gives (.string (txT W H n f)) w) := by
  have HL := Lib.hid (show Below w.heap.size w (w.alloc (.cells #[.int .i64 W, .int .i64 H, .slice A n c] 26)) from (Below.refl _ _).alloc (Nat.le_refl _) _)
  have HR := Lib.hid hr
  have HTB := Lib.hid hT
  clear hr hT
  cases hv : validB W H n f
  · have e1 : txT W H n f = ⟨#[]⟩ := by simp [txT, hv]
    rw [e1]
    have HV := Lib.hid hv
    clear hv e1
    go_enter Tryd.func37, Tryd.ntmps37
    go_wp2_with fail
    refine (implOk_is HV.out (HR.out.below HL.out (Nat.le_refl _))).mono ?_
    rintro e w1 ⟨rfl, b1⟩
    have HB := Lib.hid (HL.out.trans (b1.mono (by simp)))
    clear b1
    go_wp2
    go_ret
    exact ⟨rfl, HB.out⟩
  · have e1 : txT W H n f = ⟨(txl W H f n).toArray⟩ := by simp [txT, hv]
    rw [e1]
    obtain ⟨hW, hH, hn, hK⟩ := validB_yes hv
    obtain ⟨a1, a2⟩ := side_mk hW
    obtain ⟨b1, b2⟩ := side_mk hH
    have hl0 := txh_len hW hH
    obtain ⟨q1, q2⟩ := inner_bd' hW hH
    have hn112 : n ≤ 112 := by omega
    have HKi := Lib.hid (kinds_iff.1 hK)
    obtain ⟨R, hR⟩ : ∃ R : ByteArray, ⟨(txl W H f n).toArray⟩ = R := ⟨_, rfl⟩
    rw [hR]
    have HRR := Lib.hid hR
    have HV := Lib.hid hv
    have hnc := HR.out.1
    have hcm := HR.out.2.1
    unfold maxLen at hcm
    clear hv e1 hR hW hH hn hK q1 q2
    have hcat := txh_cat W H
    obtain ⟨sW, hsW⟩ : ∃ s, decS W = s := ⟨_, rfl⟩
    obtain ⟨sH, hsH⟩ : ∃ s, decS H = s := ⟨_, rfl⟩
    have hdW : sW.size ≤ 21 := by rw [← hsW]; have := Lib.itoa_length_le W (by omega) (by omega); simpa [decS, ByteArray.size] using this
    have hdH : sH.size ≤ 21 := by rw [← hsH]; have := Lib.itoa_length_le H (by omega) (by omega); simpa [decS, ByteArray.size] using this
    rw [hsW, hsH] at hcat
    have HSW := Lib.hid hsW
    have HSH := Lib.hid hsH
    have HCAT := Lib.hid hcat
    have y1 : ¬ (9223372036854775807 < sW.size + 1) := by omega
    have y2 : ¬ (9223372036854775807 < sW.size + 1 + sH.size) := by omega
    have y3 : ¬ (9223372036854775807 < sW.size + 1 + sH.size + 1) := by omega
    have z1 : (sW ++ (⟨#[120]⟩ : ByteArray)).size = sW.size + 1 := by rw [ByteArray.size_append]; rfl
    have z2 : ((sW ++ (⟨#[120]⟩ : ByteArray)) ++ sH).size = sW.size + 1 + sH.size := by rw [ByteArray.size_append, z1]
    have z3 : ([] : List UInt8).length + (((sW ++ (⟨#[120]⟩ : ByteArray)) ++ sH) ++ (⟨#[58]⟩ : ByteArray)).size ≤ 2000000 := by
      rw [ByteArray.size_append, z2]
      have : (⟨#[58]⟩ : ByteArray).size = 1 := rfl
      simp only [List.length_nil]
      omega
    have HZ3 := Lib.hid z3
    clear hsW hsH hcat z3
    go_enter Tryd.func37, Tryd.ntmps37
    go_wp2_with fail
    refine (implOk_is HV.out (HR.out.below HL.out (Nat.le_refl _))).mono ?_
    rintro e w1 ⟨rfl, b3⟩
    have HX1 := Lib.hid ((Cel.new w [.int .i64 W, .int .i64 H, .slice A n c] 26).below b3 (by simp))
    have HB1 := Lib.hid (HL.out.trans (b3.mono (by simp)))
    have hpz := HX1.out.1
    clear b3 HL
    have bN := (Below.refl w1.heap.size w1).alloc (Nat.le_refl _) (.cells #[.pointer none, .slice none 0 0] 107)
    have HX := Lib.hid (HX1.out.below bN HX1.out.1)
    have HB := Lib.hid (HB1.out.trans (bN.mono HB1.out.size))
    have HLb := Lib.hid (Bld.new w1)
    have HTB2 := Lib.hid (tab_below HTB.out HB.out)
    have hz2 : w1.heap.size + 1 = (w1.alloc (.cells #[.pointer none, .slice none 0 0] 107)).heap.size := by simp
    clear bN HX1 HB1
    have k0 := HX.out.2 0 _ rfl
    have k1 := HX.out.2 1 _ rfl
    have k2 := HX.out.2 2 _ rfl
    have kz := HX.out.1
    go_wp2_with fail
    generalize w1.alloc (.cells #[.pointer none, .slice none 0 0] 107) = w2 at *
    generalize w1.heap.size = b at *
    have hB2 := HB.out.size
    go_region_with (first
      | (go_at_call 72; (with_reducible refine (HSW.out ▸ impl_decimal W (by omega) (by omega) _ (tab_below HTB2.out ((Below.refl w2.heap.size w2).drew))).mono ?_); rintro e wa ⟨rfl, ba⟩; have HA : Hid (Below w2.heap.size w2 wa) := Lib.hid (((Below.refl w2.heap.size w2).drew).trans ba); have m1 := cell_be k1 HA.out kz; have haz := HA.out.size)
      | (go_at_call 72; (with_reducible refine (HSH.out ▸ impl_decimal H (by omega) (by omega) _ (tab_below HTB2.out HA.out)).mono ?_); rintro e wc ⟨rfl, bc⟩; have HC : Hid (Below w2.heap.size w2 wc) := Lib.hid (HA.out.trans (bc.mono haz)); have hcz := HC.out.size)
      | (go_at_call 71; (with_reducible refine (bld_str b b [] _ _ (HLb.out.b HC.out) HZ3.out (by omega)).mono ?_); rintro e wd ⟨rfl, hbl, bd⟩))
    all_goals
      have HD : Hid (Below b w2 wd) := Lib.hid ((HC.out.mono (by omega)).trans bd)
      have HL0 : Hid (Bld b b (txl W H f 0) wd) := Lib.hid (by
        rw [txl_0]
        have h := hbl
        rw [HCAT.out] at h
        exact h)
      clear hbl bd bc ba HA HC m1 haz hcz y1 y2 y3 z1 z2 k0 k1 k2 HLb HTB2 hdW hdH
      have HX3 := Lib.hid (HX.out.below HD.out (by omega))
      have HB3 := Lib.hid (HB.out.trans (HD.out.mono (by omega)))
      have k0 := HX3.out.2 0 _ rfl
      have k1 := HX3.out.2 1 _ rfl
      have k2 := HX3.out.2 2 _ rfl
      have kz3 := HX3.out.1
      go_wp2
      clear k0 k1 k2
      go_loopw [22] (fun kv wr => ∃ k : Nat, k ≤ n ∧ kv = .int .i64 k ∧ Hid (Bld b b (txl W H f k) wr) ∧ Hid (Below b wd wr)) (fun kv _ => n - (intOf kv).toNat)
      case atStart => exact ⟨0, Nat.zero_le _, rfl, HL0, Lib.hid (Below.refl _ _)⟩
      case round =>
        clear HL0
        obtain ⟨k, hk, rfl, HU, HBr⟩ := hrel
        have hBr := HBr.out.size
        have hbl := HU.out.lt
        have hll := txl_len W H f k
        have HBw := Lib.hid (HB3.out.trans (HBr.out.mono (by omega)))
        by_cases hlt : k < n
        · have hfk := HKi.out k hlt
          obtain ⟨bA, oA, rfl, hbA, hcA⟩ := HR.out.2.2.2 (by omega)
          have s3 : wr.cell? ⟨bA, oA + k, none⟩ = some (.int .i64 (f k)) := cell_be (hcA k hlt) HBw.out hbA
          have hbAr : bA < wr.heap.size := by have := HBw.out.size; omega
          clear hcA
          rcases sgU_at3 (f k) hfk with ⟨e1, e2⟩ | ⟨e1, e2⟩ | ⟨e1, e2⟩ <;> rw [e1] at s3 <;> have E2 := Lib.hid e2 <;> clear e1 e2 hfk <;>
          · go_wp2_with fail
            refine (bld_byte b b (txl W H f k) (sgU (f k)) _ (by rw [E2.out]; rfl) wr HU.out (by omega) (by omega)).mono ?_
            rintro e w6 ⟨rfl, hb6, b6⟩
            have HL6 := Lib.hid hb6
            have HB6 := Lib.hid (HBr.out.trans b6)
            clear hb6 b6
            go_wp2
            go_roundw
            case rel => exact ⟨k + 1, by omega, by go_num, Lib.hid (by rw [txl_succ]; exact HL6.out), HB6⟩
            case measure => simp [intOf]; omega
        · obtain rfl : k = n := by omega
          clear hll
          go_wp2_with fail
          refine (bld_text b b (txl W H f k) wr HU.out (by omega)).mono ?_
          rw [HRR.out]
          rintro e w6 ⟨rfl, b6⟩
          go_wp2
          go_ret
          exact ⟨rfl, HBw.out.trans (b6.mono (by omega))⟩
end Go.Proofs.YtocnocchliihhaaDoor.Base
