/-
  SetBreak, the program's.
-/
import Derived.Test.YtjgclemfehfgiaaDoorSetB
namespace Go.Proofs.YtjgclemfehfgiaaDoor.Base
open Go.RowKit
set_option linter.unusedVariables false

theorem implSet_bad (w : World) (W H : Int) (A : Option Addr) (n c : Nat) (f : Nat → Int) (x y z : Int) (hr : Row .i64 w A n c f) (hc : setC W H n f x y z ≠ 0) :
    Calls Tryd.prog 60 #[.agg #[.int .i64 W, .int .i64 H, .slice A n c], .agg #[.int .i64 x, .int .i64 y], .int .i64 z] w (PanelOut 0 0 0 f (setC W H n f x y z) w) := by
  have HR := Lib.hid hr
  have HS := Lib.hid (Start.mk_ w W H A n c x y)
  clear hr
  cases hv : validB W H n f
  · have e : setC W H n f x y z = 1 := by simp [setC, hv, codeP]
    rw [e]
    have HV := Lib.hid hv
    have HN := Lib.hid (code_1 (x := x) (y := y) hv)
    clear e hc hv
    go_enter Tryd.func60, Tryd.ntmps60
    go_wp2_with fail
    refine (implOk_is HV.out (HR.out.below HS.out.bel (Nat.le_refl _))).mono ?_
    rintro e w1 ⟨rfl, b1⟩
    have HS1 := Lib.hid (HS.out.below b1)
    clear b1
    obtain ⟨-, k0, k1, k2⟩ := id HS1.out.box
    obtain ⟨-, d0, d1⟩ := id HS1.out.dot
    go_wp2_with fail
    clear k0 k1 k2 d0 d1
    refine (impl_numberOf _ W H A n c f x y (HR.out.below HS1.out.bel (Nat.le_refl _))).mono ?_
    rintro e w2 ⟨rfl, b2⟩
    rw [HN.out.1, HN.out.2]
    obtain ⟨hB, -, -, q0, q1, q2, f0, f1, f2, hlt⟩ := HS1.out.below b2
    clear b2
    go_wp2
    refine bodyPost_ret ?_ rfl ⟨none, 0, rfl, ownRow_nil _ _ _, ((hB.setCell (by simp; omega) _).setCell (by simp; omega) _).setCell (by simp; omega) _⟩
    simp [results, Tryd.results60, go_sem, q0, q1, q2]
  · have HV := Lib.hid hv
    cases hk : inB z 0 2
    · have e : setC W H n f x y z = 2 := by
        cases hh : hasB W H x y <;> simp [setC, hv, hh, hk, codeP]
      rw [e]
      have HK := Lib.hid hk
      clear e hc hv hk
      go_enter Tryd.func60, Tryd.ntmps60
      go_wp2_with fail
      refine (implOk_is HV.out (HR.out.below HS.out.bel (Nat.le_refl _))).mono ?_
      rintro e w1 ⟨rfl, b1⟩
      obtain ⟨hB, -, -, q0, q1, q2, f0, f1, f2, hlt⟩ := HS.out.below b1
      clear b1
      go_wp2_with fail
      refine (isBreak_is HK.out _).mono ?_
      rintro e w2 ⟨rfl, rfl⟩
      go_wp2
      refine bodyPost_ret ?_ rfl ⟨none, 0, rfl, ownRow_nil _ _ _, ((hB.setCell (by simp; omega) _).setCell (by simp; omega) _).setCell (by simp; omega) _⟩
      simp [results, Tryd.results60, go_sem, q0, q1, q2]
    · have e : setC W H n f x y z = codeP W H n f x y := by simp [setC, hk]
      rw [e] at hc ⊢
      have HK := Lib.hid hk
      have hcb : (codeP W H n f x y == 0) = false := beq_eq_false_iff_ne.2 hc
      have hcb' : (codeP W H n f x y != 0) = true := bne_iff_ne.2 hc
      clear e hc hv hk
      go_enter Tryd.func60, Tryd.ntmps60
      go_wp2_with fail
      refine (implOk_is HV.out (HR.out.below HS.out.bel (Nat.le_refl _))).mono ?_
      rintro e w1 ⟨rfl, b1⟩
      have HS1 := Lib.hid (HS.out.below b1)
      clear b1
      go_wp2_with fail
      refine (isBreak_is HK.out _).mono ?_
      rintro e w2 ⟨rfl, rfl⟩
      obtain ⟨-, k0, k1, k2⟩ := id HS1.out.box
      obtain ⟨-, d0, d1⟩ := id HS1.out.dot
      go_wp2_with fail
      clear k0 k1 k2 d0 d1
      refine (impl_numberOf _ W H A n c f x y (HR.out.below HS1.out.bel (Nat.le_refl _))).mono ?_
      rintro e w2 ⟨rfl, b2⟩
      obtain ⟨hB, -, -, q0, q1, q2, f0, f1, f2, hlt⟩ := HS1.out.below b2
      clear b2
      go_wp2
      refine bodyPost_ret ?_ rfl ⟨none, 0, rfl, ownRow_nil _ _ _, ((hB.setCell (by simp; omega) _).setCell (by simp; omega) _).setCell (by simp; omega) _⟩
      simp [results, Tryd.results60, go_sem, q0, q1, q2]

theorem implSet_ok (w : World) (W H : Int) (A : Option Addr) (n c : Nat) (f : Nat → Int) (x y z : Int) (hr : Row .i64 w A n c f) (hn2 : n ≤ 1048576) (hc : setC W H n f x y z = 0) :
    Calls Tryd.prog 60 #[.agg #[.int .i64 W, .int .i64 H, .slice A n c], .agg #[.int .i64 x, .int .i64 y], .int .i64 z] w (PanelOut W H n (putF f (numN W x y).toNat z) 0 w) := by
  have HR := Lib.hid hr
  have HS := Lib.hid (Start.mk_ w W H A n c x y)
  obtain ⟨hv, hh, he, hk, hcc⟩ := setC_zero hc
  obtain ⟨hW, hH, hin, -⟩ := validB_yes hv
  obtain ⟨l1, l2⟩ := num_lt hW hH hh he
  have l3 : numN W x y < (n : Int) := by rw [hin]; exact l2
  have hzz := in_yes hk
  have hwz : (Lit.int .i64 z).wf = true := WalkArith.wf_i64 (by omega)
  have hnum : numP W H n f x y = numN W x y := by unfold numP; rw [if_pos hcc]
  have HV := Lib.hid hv
  have HK := Lib.hid hk
  have HC := Lib.hid hcc
  have HN := Lib.hid hnum
  have HWZ := Lib.hid hwz
  have hn : 0 < n := by omega
  have hkn : (numN W x y).toNat < n := by omega
  have hncm : n ≤ 9223372036854775807 := by omega
  clear hr hc hv hh he hk hcc hin l2 hwz hnum
  go_enter Tryd.func60, Tryd.ntmps60
  go_wp2_with fail
  refine (implOk_is HV.out (HR.out.below HS.out.bel (Nat.le_refl _))).mono ?_
  rintro e w1 ⟨rfl, b1⟩
  have HS1 := Lib.hid (HS.out.below b1)
  clear b1
  go_wp2_with fail
  refine (isBreak_is HK.out _).mono ?_
  rintro e w2 ⟨rfl, rfl⟩
  obtain ⟨-, k0, k1, k2⟩ := id HS1.out.box
  obtain ⟨-, d0, d1⟩ := id HS1.out.dot
  go_wp2_with fail
  clear k0 k1 k2 d0 d1
  refine (impl_numberOf _ W H A n c f x y (HR.out.below HS1.out.bel (Nat.le_refl _))).mono ?_
  rintro e w3 ⟨rfl, b2⟩
  rw [HN.out, HC.out]
  have HS3 := Lib.hid (HS1.out.below b2)
  have hlt3 := HS3.out.lt
  have hz3 : w.heap.size ≤ w3.heap.size := HS3.out.bel.size
  clear b2 HS1
  obtain ⟨-, k0, k1, k2⟩ := id HS3.out.box
  go_wp2_with fail
  clear k0 k1 k2
  refine (lib_clone _ A n c f (HR.out.below HS3.out.bel (Nat.le_refl _)) hn hn2).mono ?_
  rintro e w6 ⟨A', c', rfl, hO, b4⟩
  have HS6 := Lib.hid (HS3.out.below b4)
  obtain ⟨b, o, rfl, hb1, hb2, hcell⟩ := hO.2.2.2 hn
  obtain ⟨hc6, hf6⟩ := hcell _ hkn
  have HO6 := Lib.hid hO
  have b7 : Below w3.heap.size w6 (w6.setCell ⟨b, o + (numN W x y).toNat, none⟩ (.int .i64 z)) := (Below.refl _ _).setCell hb1 _
  have HO7 := Lib.hid (HO6.out.put hkn z HWZ.out)
  have HS7 := Lib.hid (HS6.out.belowB b7 hlt3)
  obtain ⟨hB, hbox, -, q0, q1, q2, f0, f1, f2, hlt⟩ := id HS6.out
  obtain ⟨-, k0, k1, k2⟩ := hbox
  have hne0 : ¬ b = w.heap.size := by omega
  have hne2 : ¬ b = w.heap.size + 1 + 1 := by omega
  clear hcell b4 HS3 HS b7 hB hlt
  generalize hw7 : w6.setCell ⟨b, o + (numN W x y).toNat, none⟩ (.int .i64 z) = w7 at *
  obtain ⟨hB, -, -, q0, q1, q2, f0, f1, f2, hlt⟩ := HS7.out
  subst hw7
  go_wp2_with fail
  refine bodyPost_ret ?_ rfl ⟨some ⟨b, o, none⟩, c', rfl, (ownRow_setBox HO7.out hlt3 _ _ _).mono hz3, ((hB.setCell (by simp; omega) _).setCell (by simp; omega) _).setCell (by simp; omega) _⟩
  simp [results, Tryd.results60, go_sem, q0, q1, q2]
end Go.Proofs.YtjgclemfehfgiaaDoor.Base
