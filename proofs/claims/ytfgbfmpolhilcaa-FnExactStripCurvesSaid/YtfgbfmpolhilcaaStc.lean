/-
  StripCurves, the model's and the program's.
-/
import Derived.Test.YtfgbfmpolhilcaaNum
import Derived.Test.YtfgbfmpolhilcaaShape
namespace Go.Proofs.Ytfgbfmpolhilcaa.Base
open Go Go.RowKit
set_option linter.unusedVariables false
set_option linter.unusedSimpArgs false

def stN (W H : Int) (n : Nat) (f : Nat → Int) : Int := if validB W H n f then (if H = 1 then 1 + cntK 1 f n else 0) else 0
def stC (W H : Int) (n : Nat) (f : Nat → Int) : Int := if validB W H n f then (if H = 1 then 0 else 6) else 1
theorem st_no {W H : Int} {n : Nat} {f : Nat → Int} (h : validB W H n f = false) : stN W H n f = 0 ∧ stC W H n f = 1 := by simp [stN, stC, h]
theorem st_high {W H : Int} {n : Nat} {f : Nat → Int} (h : validB W H n f = true) (h1 : H ≠ 1) : stN W H n f = 0 ∧ stC W H n f = 6 := by simp [stN, stC, h, h1]
theorem st_yes {W H : Int} {n : Nat} {f : Nat → Int} (h : validB W H n f = true) (h1 : H = 1) : stN W H n f = 1 + cntK 1 f n ∧ stC W H n f = 0 := by
  unfold stN stC
  rw [if_pos h, if_pos h, if_pos h1, if_pos h1]
  exact ⟨rfl, rfl⟩
theorem spec_stripCurves (w : World) (W H : Int) (A : Option Addr) (n c : Nat) (f : Nat → Int) (hr : Row .i64 w A n c f) :
    Calls Try.prog 37 #[.agg #[.int .i64 W, .int .i64 H, .slice A n c]] w (Gives (.tuple #[.int .i64 (stN W H n f), .int .i64 (stC W H n f)]) w) := by
  have HR := Lib.hid hr
  clear hr
  have HL := Lib.hid (show Below w.heap.size w (w.alloc (.cells #[.int .i64 W, .int .i64 H, .slice A n c] 49)) from (Below.refl _ _).alloc (Nat.le_refl _) _)
  have HX := Lib.hid (Box.new w 49 W H A n c)
  cases hv : validB W H n f
  · obtain ⟨e1, e2⟩ := st_no hv
    rw [e1, e2]
    have HV := Lib.hid hv
    clear hv e1 e2
    go_enter Try.func37, Try.ntmps37
    go_wp2_with fail
    refine (specOk_is HV.out HX.out (HR.out.below HL.out (Nat.le_refl _))).mono ?_
    rintro e w1 ⟨m, rfl, rfl⟩
    go_wp2
    go_ret2
    exact ⟨rfl, below_drewN HL.out m⟩
  · by_cases h1 : H = 1
    · obtain ⟨e1, e2⟩ := st_yes hv h1
      rw [e1, e2]
      have HV := Lib.hid hv
      have h1b : (H == 1) = true := beq_iff_eq.2 h1
      have h1c : (H != 1) = false := by rw [bne_eq_false_iff_eq]; exact h1
      obtain ⟨sW, sH, hni, -⟩ := validB_yes hv
      have hi := inner_bd sW sH
      have hn112 : n ≤ 112 := by omega
      clear sW sH hni hi
      have hcm := HR.out.2.1
      have hnc := HR.out.1
      unfold maxLen at hcm
      clear hv e1 e2 h1
      go_enter Try.func37, Try.ntmps37
      go_wp2_with fail
      refine (specOk_is HV.out HX.out (HR.out.below HL.out (Nat.le_refl _))).mono ?_
      rintro e w1 ⟨m, rfl, rfl⟩
      have hB := below_drewN HL.out m
      obtain ⟨-, -, -, hcell⟩ := HR.out.below hB (Nat.le_refl _)
      obtain ⟨kz, -, k1, k2⟩ := HX.out.below (below_of_drew (m := m) rfl) HX.out.1
      generalize (w.alloc (.cells #[.int .i64 W, .int .i64 H, .slice A n c] 49)).drewN m = w2 at *
      go_wp2
      go_loop [4, 5] (fun s i => ∃ (k : Nat) (r : Int), k ≤ n ∧ 1 ≤ r ∧ r ≤ k + 1 ∧ i = .int .i64 k ∧ s = .int .i64 r ∧ Hid (r = 1 + cntK 1 f k)) (fun _ i => n - (intOf i).toNat)
      case atStart => exact ⟨0, 1, Nat.zero_le _, by omega, by omega, rfl, rfl, Lib.hid rfl⟩
      case round =>
        obtain ⟨k, r, hk, hr1, hr2, rfl, rfl, HC⟩ := hrel
        by_cases hlt : k < n
        · obtain ⟨b, o, rfl, hbl, hc⟩ := hcell (by omega)
          have hck := hc k hlt
          clear hc hcell
          by_cases hz : f k = 1
          · have hzb : (f k == 1) = true := beq_iff_eq.2 hz
            have HS := Lib.hid (show r + 1 = 1 + cntK 1 f (k + 1) by simp [cntK, hz, HC.out]; omega)
            clear hz
            go_wp2
            go_round
            case rel => exact ⟨k + 1, r + 1, by omega, by omega, by omega, by go_num, rfl, HS⟩
            case measure => simp [intOf]; omega
          · have hzb : (f k == 1) = false := beq_eq_false_iff_ne.2 hz
            have HS := Lib.hid (show r = 1 + cntK 1 f (k + 1) by simp [cntK, hz, HC.out])
            clear hz
            go_wp2
            go_round
            case rel => exact ⟨k + 1, r, by omega, by omega, by omega, by go_num, rfl, HS⟩
            case measure => simp [intOf]; omega
        · have e : k = n := by omega
          have HS := Lib.hid (show r = 1 + cntK 1 f n by rw [HC.out, e])
          clear hcell e
          go_wp2
          go_ret2
          exact ⟨ret_ints HS.out rfl, hB⟩
    · obtain ⟨e1, e2⟩ := st_high hv h1
      rw [e1, e2]
      have HV := Lib.hid hv
      have h1b : (H == 1) = false := beq_eq_false_iff_ne.2 h1
      have h1c : (H != 1) = true := bne_iff_ne.2 h1
      clear hv e1 e2 h1
      go_enter Try.func37, Try.ntmps37
      go_wp2_with fail
      refine (specOk_is HV.out HX.out (HR.out.below HL.out (Nat.le_refl _))).mono ?_
      rintro e w1 ⟨m, rfl, rfl⟩
      have hB := below_drewN HL.out m
      obtain ⟨kz, -, k1, k2⟩ := HX.out.below (below_of_drew (m := m) rfl) HX.out.1
      generalize (w.alloc (.cells #[.int .i64 W, .int .i64 H, .slice A n c] 49)).drewN m = w2 at *
      go_wp2
      go_ret2
      exact ⟨rfl, hB⟩
theorem impl_stripCurves (w : World) (W H : Int) (A : Option Addr) (n c : Nat) (f : Nat → Int) (hr : Row .i64 w A n c f) :
    Calls Try.prog 39 #[.agg #[.int .i64 W, .int .i64 H, .slice A n c]] w (Gives (.tuple #[.int .i64 (stN W H n f), .int .i64 (stC W H n f)]) w) := by
  have HR := Lib.hid hr
  clear hr
  have HL := Lib.hid (show Below w.heap.size w (w.alloc (.cells #[.int .i64 W, .int .i64 H, .slice A n c] 49)) from (Below.refl _ _).alloc (Nat.le_refl _) _)
  have HX := Lib.hid (Box.new w 49 W H A n c)
  have HC := Lib.hid (impl_countBreaks (w.alloc (.cells #[.int .i64 W, .int .i64 H, .slice A n c] 49)) W H A n c f 1 (HR.out.below HL.out (Nat.le_refl _)))
  cases hv : validB W H n f
  · obtain ⟨e1, e2⟩ := st_no hv
    have e3 : cntC W H n f 1 = 1 := by simp [cntC, hv]
    have e4 : cntP W H n f 1 = 0 := by simp [cntP, e3]
    rw [e3, e4] at HC
    rw [e1, e2]
    clear hv e1 e2 e3 e4
    go_enter Try.func39, Try.ntmps39
    go_wp2_with fail
    refine HC.out.mono ?_
    rintro e w1 ⟨rfl, b1⟩
    go_wp2
    go_ret2
    exact ⟨rfl, HL.out.trans (b1.mono (by simp))⟩
  · have e3 : cntC W H n f 1 = 0 := by simp [cntC, hv, inB]
    have e4 : cntP W H n f 1 = cntK 1 f n := by simp [cntP, e3]
    rw [e3, e4] at HC
    obtain ⟨sW, sH, hni, -⟩ := validB_yes hv
    have hi := inner_bd sW sH
    have hn112 : n ≤ 112 := by omega
    clear sW sH hni hi
    have hcm := HR.out.2.1
    have hnc := HR.out.1
    unfold maxLen at hcm
    obtain ⟨c1, c2⟩ := cntK_bd 1 f n
    by_cases h1 : H = 1
    · obtain ⟨e1, e2⟩ := st_yes hv h1
      rw [e1, e2]
      have h1b : (H == 1) = true := beq_iff_eq.2 h1
      have h1c : (H != 1) = false := by rw [bne_eq_false_iff_eq]; exact h1
      clear hv e1 e2 h1 e3 e4
      go_enter Try.func39, Try.ntmps39
      go_wp2_with fail
      refine HC.out.mono ?_
      rintro e w1 ⟨rfl, b1⟩
      obtain ⟨kz, -, k1, k2⟩ := HX.out.below b1 HX.out.1
      have HB := Lib.hid (HL.out.trans (b1.mono (by simp)))
      clear b1
      go_wp2
      go_ret2
      exact ⟨ret_ints (by omega) rfl, HB.out⟩
    · obtain ⟨e1, e2⟩ := st_high hv h1
      rw [e1, e2]
      have h1b : (H == 1) = false := beq_eq_false_iff_ne.2 h1
      have h1c : (H != 1) = true := bne_iff_ne.2 h1
      clear hv e1 e2 h1 e3 e4
      go_enter Try.func39, Try.ntmps39
      go_wp2_with fail
      refine HC.out.mono ?_
      rintro e w1 ⟨rfl, b1⟩
      obtain ⟨kz, -, k1, k2⟩ := HX.out.below b1 HX.out.1
      have HB := Lib.hid (HL.out.trans (b1.mono (by simp)))
      clear b1
      go_wp2
      go_ret2
      exact ⟨rfl, HB.out⟩
end Go.Proofs.Ytfgbfmpolhilcaa.Base
