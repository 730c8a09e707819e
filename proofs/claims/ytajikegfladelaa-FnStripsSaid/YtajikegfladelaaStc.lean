/-
  StripCurves, the model's and the program's.
-/
import Derived.Test.YtajikegfladelaaNum
import Derived.Test.YtajikegfladelaaShape
namespace Go.Proofs.Ytajikegfladelaa.Base
open Go Go.RowKit
set_option linter.unusedVariables false
set_option linter.unusedSimpArgs false

def stN (W H : Int) (n : Nat) (f : Nat → Int) : Int := if validB W H n f then (if H = 1 then 1 + cntK 1 f n else 0) else 0
def stC (W H : Int) (n : Nat) (f : Nat → Int) : Int := if validB W H n f then (if H = 1 then 0 else 6) else 1
theorem st_no {W H : Int} {n : Nat} {f : Nat → Int} (h : validB W H n f = false) : stN W H n f = 0 ∧ stC W H n f = 1 := by simp [stN, stC, h]
theorem st_high {W H : Int} {n : Nat} {f : Nat → Int} (h : validB W H n f = true) (h1 : H ≠ 1) : stN W H n f = 0 ∧ stC W H n f = 6 := by simp [stN, stC, h, h1]
theorem st_yes {W H : Int} {n : Nat} {f : Nat → Int} (h : validB W H n f = true) (h1 : H = 1) : stN W H n f = 1 + cntK 1 f n ∧ stC W H n f = 0 := by
  unfold stN stC
  rw [if_pos h, if_pos h, if_pos h1, if_pos h1]
  exact ⟨rfl, rfl⟩
theorem impl_stripCurves (w : World) (W H : Int) (A : Option Addr) (n c : Nat) (f : Nat → Int) (hr : Row .i64 w A n c f) :
    Calls Try.prog 8 #[.agg #[.int .i64 W, .int .i64 H, .slice A n c]] w (Gives (.tuple #[.int .i64 (stN W H n f), .int .i64 (stC W H n f)]) w) := by
  have HR := Lib.hid hr
  clear hr
  have HL := Lib.hid (show Below w.heap.size w (w.alloc (.cells #[.int .i64 W, .int .i64 H, .slice A n c] 26)) from (Below.refl _ _).alloc (Nat.le_refl _) _)
  have HX := Lib.hid (Box.new w 26 W H A n c)
  have HC := Lib.hid (impl_countBreaks (w.alloc (.cells #[.int .i64 W, .int .i64 H, .slice A n c] 26)) W H A n c f 1 (HR.out.below HL.out (Nat.le_refl _)))
  cases hv : validB W H n f
  · obtain ⟨e1, e2⟩ := st_no hv
    have e3 : cntC W H n f 1 = 1 := by simp [cntC, hv]
    have e4 : cntP W H n f 1 = 0 := by simp [cntP, e3]
    rw [e3, e4] at HC
    rw [e1, e2]
    clear hv e1 e2 e3 e4
    go_enter Try.func8, Try.ntmps8
    go_wp2_with fail
    refine HC.out.mono ?_
    rintro e w1 ⟨rfl, b1⟩
    go_wp2
    go_ret2
    exact ⟨rfl, HL.out.trans (b1.mono (by simp))⟩
  · have e3 : cntC W H n f 1 = 0 := by simp [cntC, hv, inB]
    have e4 : cntP W H n f 1 = cntK 1 f n := by simp [cntP, e3]
    rw [e3, e4] at HC
    obtain ⟨sW, sH, hni, -⟩ := validB_yes hv
    have hi := inner_bd sW sH
    have hn112 : n ≤ 112 := by omega
    clear sW sH hni hi
    have hcm := HR.out.2.1
    have hnc := HR.out.1
    unfold maxLen at hcm
    obtain ⟨c1, c2⟩ := cntK_bd 1 f n
    by_cases h1 : H = 1
    · obtain ⟨e1, e2⟩ := st_yes hv h1
      rw [e1, e2]
      have h1b : (H == 1) = true := beq_iff_eq.2 h1
      have h1c : (H != 1) = false := by rw [bne_eq_false_iff_eq]; exact h1
      clear hv e1 e2 h1 e3 e4
      go_enter Try.func8, Try.ntmps8
      go_wp2_with fail
      refine HC.out.mono ?_
      rintro e w1 ⟨rfl, b1⟩
      obtain ⟨kz, -, k1, k2⟩ := HX.out.below b1 HX.out.1
      have HB := Lib.hid (HL.out.trans (b1.mono (by simp)))
      clear b1
      go_wp2
      go_ret2
      exact ⟨ret_ints (by omega) rfl, HB.out⟩
    · obtain ⟨e1, e2⟩ := st_high hv h1
      rw [e1, e2]
      have h1b : (H == 1) = false := beq_eq_false_iff_ne.2 h1
      have h1c : (H != 1) = true := bne_iff_ne.2 h1
      clear hv e1 e2 h1 e3 e4
      go_enter Try.func8, Try.ntmps8
      go_wp2_with fail
      refine HC.out.mono ?_
      rintro e w1 ⟨rfl, b1⟩
      obtain ⟨kz, -, k1, k2⟩ := HX.out.below b1 HX.out.1
      have HB := Lib.hid (HL.out.trans (b1.mono (by simp)))
      clear b1
      go_wp2
      go_ret2
      exact ⟨rfl, HB.out⟩
end Go.Proofs.Ytajikegfladelaa.Base
