/-
  The four curves at an inner point are equal in pairs.
-/
import Derived.Test.YtbpdjmjkjiddjaaDoorCri
namespace Go.Proofs.YtbpdjmjkjiddjaaDoor.Base
open Go Go.RowKit
set_option linter.unusedVariables false
set_option linter.unusedSimpArgs false
/-- four curves that are equal in pairs -/
def Pairs4 (a b c d : Int) : Prop := (a = d ∧ b = c) ∨ (a = c ∧ b = d) ∨ (a = b ∧ c = d)
/-- the four curves at an inner point -/
theorem pt_pairs {W H : Int} {n : Nat} {f : Nat → Int} {x y : Int} (hv : validB W H n f = true) (hp : hasB W H x y = true) (he : edgeB W H x y = false) :
    ∃ z0 z1 z2 z3 : Nat, me0 H (trE W H f).of x y = z0 ∧ me1 H (trE W H f).of x y = z1 ∧ me2 H (trE W H f).of x y = z2 ∧ me3 H (trE W H f).of x y = z3 ∧ Pairs4 z0 z1 z2 z3 ∧ z0 ≤ 256 ∧ z1 ≤ 256 ∧ z2 ≤ 256 ∧ z3 ≤ 256 := by
  obtain ⟨hW, hH, hn, -⟩ := validB_yes hv
  obtain ⟨m0, m1⟩ := segs_bd hW hH
  have hcn := cnN_le hv
  obtain ⟨u1, u2, u3, u4, u5⟩ := has_yes hp
  have u6 : ¬ (x = 0 ∨ y = 0 ∨ x = 2 * W ∨ y = 2 * H) := of_decide_eq_false he
  have hc : Closed W H n f (trE W H f).of := trs_closed hv (4 * W * H).toNat (by omega)
  obtain ⟨⟨r0, r0'⟩, ⟨r1, r1'⟩, ⟨r2, r2'⟩, ⟨r3, r3'⟩⟩ := segs_in hv (x := x) (y := y) (by omega) (by omega) (by omega) (by omega) u5
  have q0 := meet hc (wk_mk hv (ex := -1) (ey := -1) rfl rfl hp (has_mk (by omega) (by omega) (by omega) (by omega) (by omega)))
  have q1 := meet hc (wk_mk hv (ex := 1) (ey := -1) rfl rfl hp (has_mk (by omega) (by omega) (by omega) (by omega) (by omega)))
  have q2 := meet hc (wk_mk hv (ex := -1) (ey := 1) rfl rfl hp (has_mk (by omega) (by omega) (by omega) (by omega) (by omega)))
  generalize tkOf W H f x y = t at q0 q1 q2
  have rng : ∀ s : Int, 0 ≤ s → s < ((4 * W * H).toNat : Int) → 0 ≤ (trE W H f).of s.toNat ∧ (trE W H f).of s.toNat < cnN W H f := fun s h1 h2 =>
    ⟨trs_done hv (4 * W * H).toNat s.toNat (by omega) (by omega), (trs_of_ge W H f (4 * W * H).toNat s.toNat).2.1⟩
  have e0 : 0 ≤ me0 H (trE W H f).of x y ∧ me0 H (trE W H f).of x y < cnN W H f := rng _ r0 r0'
  have e1 : 0 ≤ me1 H (trE W H f).of x y ∧ me1 H (trE W H f).of x y < cnN W H f := rng _ r1 r1'
  have e2 : 0 ≤ me2 H (trE W H f).of x y ∧ me2 H (trE W H f).of x y < cnN W H f := rng _ r2 r2'
  have e3 : 0 ≤ me3 H (trE W H f).of x y ∧ me3 H (trE W H f).of x y < cnN W H f := rng _ r3 r3'
  have hpr : Pairs4 (me0 H (trE W H f).of x y) (me1 H (trE W H f).of x y) (me2 H (trE W H f).of x y) (me3 H (trE W H f).of x y) := by
    unfold Pairs4 me0 me1 me2 me3
    by_cases t1 : t = 1
    · subst t1
      simp only [if_true, show ¬ ((1 : Int) = 2) by decide, if_false, Int.neg_neg] at q0 q1
      exact .inr (.inl ⟨q0, q1⟩)
    · by_cases t2 : t = 2
      · subst t2
        simp only [if_true, show ¬ ((2 : Int) = 1) by decide, if_false, Int.neg_neg] at q0 q2
        exact .inr (.inr ⟨q0, q2⟩)
      · simp only [if_neg t1, if_neg t2, Int.neg_neg] at q0 q1
        exact .inl ⟨q0, q1⟩
  refine ⟨(me0 H (trE W H f).of x y).toNat, (me1 H (trE W H f).of x y).toNat, (me2 H (trE W H f).of x y).toNat, (me3 H (trE W H f).of x y).toNat, by omega, by omega, by omega, by omega, ?_, by omega, by omega, by omega, by omega⟩
  rw [show (((me0 H (trE W H f).of x y).toNat : Nat) : Int) = me0 H (trE W H f).of x y by omega, show (((me1 H (trE W H f).of x y).toNat : Nat) : Int) = me1 H (trE W H f).of x y by omega, show (((me2 H (trE W H f).of x y).toNat : Nat) : Int) = me2 H (trE W H f).of x y by omega, show (((me3 H (trE W H f).of x y).toNat : Nat) : Int) = me3 H (trE W H f).of x y by omega]
  exact hpr
theorem code_in {W H : Int} {n : Nat} {f : Nat → Int} {x y : Int} (h : codeP W H n f x y = 0) : validB W H n f = true ∧ hasB W H x y = true ∧ edgeB W H x y = false := by
  unfold codeP at h
  cases h1 : validB W H n f
  · simp [h1] at h
  · cases h2 : hasB W H x y
    · simp [h1, h2] at h
    · cases h3 : edgeB W H x y
      · exact ⟨rfl, rfl, rfl⟩
      · simp [h1, h2, h3] at h
end Go.Proofs.YtbpdjmjkjiddjaaDoor.Base
