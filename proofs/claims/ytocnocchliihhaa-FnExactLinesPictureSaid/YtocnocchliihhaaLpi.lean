/-
  LinesPicture: the program's.
-/
import Derived.Test.YtocnocchliihhaaLpc
import Derived.Test.YtocnocchliihhaaDwl
import Derived.Test.YtocnocchliihhaaPan
namespace Go.Proofs.Ytocnocchliihhaa.Base
open Go Go.RowKit
set_option linter.unusedVariables false
set_option linter.unusedSimpArgs false

theorem segSign_is (x y : Nat) (hx : x ≤ 100) (hy : y ≤ 100) (w : World) : Calls Try.prog 29 #[.agg #[.int .i64 (x : Int), .int .i64 (y : Int)]] w (Gives (.int .u8 ((lnc x y).toNat : Int)) w) := by
  by_cases hpar : (x + y) % 2 = 0
  · rw [show lnc x y = 47 from if_pos hpar]
    have p2 : (((x : Int) + y).tmod 2 == 0) = true := by rw [show ((x : Int) + y).tmod 2 = (((x + y) % 2 : Nat) : Int) from rfl, hpar]; rfl
    have p1 : (((x : Int) + y) % 2 == 0) = true := beq_iff_eq.2 (by omega)
    clear hpar
    go_enter Try.func29, Try.ntmps29
    go_wp2
    go_ret
    exact ⟨rfl, by go_grown⟩
  · rw [show lnc x y = 92 from if_neg hpar]
    have p1 : (((x : Int) + y) % 2 == 0) = false := beq_eq_false_iff_ne.2 (by omega)
    have p2 : (((x : Int) + y).tmod 2 == 0) = false := by rw [show ((x : Int) + y).tmod 2 = (((x + y) % 2 : Nat) : Int) from rfl]; exact beq_eq_false_iff_ne.2 (by omega)
    clear hpar
    go_enter Try.func29, Try.ntmps29
    go_wp2
    go_ret
    exact ⟨rfl, by go_grown⟩
set_option maxHeartbeats 1000000 in
theorem impl_linesPicture (w : World) (W H : Int) (A : Option Addr) (n c : Nat) (f : Nat → Int) (hr : Row .i64 w A n c f) :
    Calls Try.prog 15 #[.agg #[.int .i64 W, .int .i64 H, .slice A n c]] w (TextsC (lpN W H n f) (lpG W H) (lpC W H n f) w.heap.size w) := by
  have HL := Lib.hid (show Below w.heap.size w (w.alloc (.cells #[.int .i64 W, .int .i64 H, .slice A n c] 29)) from (Below.refl _ _).alloc (Nat.le_refl _) _)
  have HR := Lib.hid hr
  clear hr
  cases hv : validB W H n f
  · have e1 : lpN W H n f = 0 := by simp [lpN, hv]
    have e2 : lpC W H n f = 1 := by simp [lpC, hv]
    rw [e1, e2]
    have HV := Lib.hid hv
    clear hv e1 e2
    go_enter Try.func15, Try.ntmps15
    go_wp2_with fail
    refine (implOk_is HV.out (HR.out.below HL.out (Nat.le_refl _))).mono ?_
    rintro e w1 ⟨rfl, b1⟩
    have HB := Lib.hid (HL.out.trans (b1.mono (by simp)))
    clear b1
    go_wp2
    go_ret2
    exact ⟨none, 0, rfl, ⟨Nat.le_refl _, Nat.zero_le _, fun h => absurd h (by omega)⟩, HB.out⟩
  · obtain ⟨hW, hH, -, -⟩ := validB_yes hv
    obtain ⟨a1, a2⟩ := side_mk hW
    obtain ⟨b1, b2⟩ := side_mk hH
    obtain ⟨a, rfl⟩ : ∃ a : Nat, W = a := ⟨W.toNat, by omega⟩
    obtain ⟨b, rfl⟩ : ∃ b : Nat, H = b := ⟨H.toNat, by omega⟩
    have e1 : lpN a b n f = 2 * b := by simp [lpN, hv]; omega
    have e2 : lpC a b n f = 0 := by simp [lpC, hv]
    have e3 : lpG (a : Int) (b : Int) = fun i => ⟨(lnr i (2 * a)).toArray⟩ := by funext i; unfold lpG; rw [show (2 * (a : Int)).toNat = 2 * a by omega]
    rw [e1, e2, e3]
    have HV := Lib.hid hv
    clear hv e1 e2 e3 hW hH
    go_enter Try.func15, Try.ntmps15
    go_wp2_with fail
    refine (implOk_is HV.out (HR.out.below HL.out (Nat.le_refl _))).mono ?_
    rintro e w1 ⟨rfl, b3⟩
    have HX := Lib.hid ((Cel.new w [.int .i64 a, .int .i64 b, .slice A n c] 29).below b3 (by simp))
    have HB := Lib.hid (HL.out.trans (b3.mono (by simp)))
    clear b3 HL
    have k0 := HX.out.2 0 _ rfl
    have k1 := HX.out.2 1 _ rfl
    have kz := HX.out.1
    have hB := HB.out.size
    have HD := Lib.hid (drawn_l w1 (2 * a) (2 * b) (by omega) (by omega) lnc (Lib.hid (fun x y wr hx hy _ => segSign_is x y (by omega) (by omega) wr)))
    have q1 : ((2 * a : Nat) : Int) = 2 * (a : Int) := by omega
    have q2 : ((2 * b : Nat) : Int) = 2 * (b : Int) := by omega
    rw [q1, q2] at HD
    clear q1 q2
    go_wp2_with fail
    refine HD.out.mono ?_
    rintro e w2 ⟨A2, c2, rfl, hO, b4⟩
    have HO := Lib.hid hO
    have HB2 := Lib.hid (HB.out.trans (b4.mono hB))
    clear hO b4 HD k0 k1 kz
    go_wp2
    go_ret2
    obtain ⟨h1, h2, h3⟩ := HO.out
    exact ⟨A2, c2, rfl, ⟨h1, h2, fun hn => by obtain ⟨b', o, e, g1, g2, g3⟩ := h3 hn; exact ⟨b', o, e, by omega, g2, g3⟩⟩, HB2.out⟩
end Go.Proofs.Ytocnocchliihhaa.Base
