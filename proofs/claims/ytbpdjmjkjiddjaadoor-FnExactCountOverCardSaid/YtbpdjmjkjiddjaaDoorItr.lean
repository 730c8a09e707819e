/-
  A step of a valid walker is valid; steps one after the other.
-/
import Derived.Test.YtbpdjmjkjiddjaaDoorTrn
namespace Go.Proofs.YtbpdjmjkjiddjaaDoor.Base
open Go.RowKit
set_option linter.unusedVariables false

theorem step_go {W H x y dx dy : Int} {n : Nat} {f : Nat → Int} (h : wkB W H n f x y dx dy = true) :
    wkB W H n f (x + dx) (y + dy) (stDX W H f x y dx dy) (stDY W H f x y dx dy) = true := by
  obtain ⟨hv, hg⟩ := wk_valid h
  obtain ⟨hW, hH, -, -⟩ := validB_yes hv
  obtain ⟨a1, a2⟩ := side_mk hW
  obtain ⟨b1, b2⟩ := side_mk hH
  obtain ⟨s1, s2, p1, p2⟩ := go_yes hg
  obtain ⟨x1, x2, y1, y2, q1⟩ := has_yes p1
  obtain ⟨u1, u2, v1, v2, q2⟩ := has_yes p2
  have d1 := sign_yes s1
  have d2 := sign_yes s2
  have key : ∀ ex ey : Int, (ex = 1 ∨ ex = -1) → (ey = 1 ∨ ey = -1) → 0 ≤ x + dx + ex → x + dx + ex ≤ 2 * W → 0 ≤ y + dy + ey → y + dy + ey ≤ 2 * H → wkB W H n f (x + dx) (y + dy) ex ey = true := fun ex ey h1 h2 h3 h4 h5 h6 => by
    have t1 : signB ex = true := decide_eq_true h1
    have t2 : signB ey = true := decide_eq_true h2
    rw [wk_is hv, go_is t1 t2 p2]
    unfold hasB inB
    simp [h3, h4, h5, h6]
    omega
  unfold stDX stDY
  by_cases hx : x + dx = 0 ∨ x + dx = 2 * W
  · rw [tk_A hx]
    exact key _ _ (by simp; omega) (by simp; omega) (by simp; omega) (by simp; omega) (by simp; omega) (by simp; omega)
  · by_cases hy : y + dy = 0 ∨ y + dy = 2 * H
    · rw [tk_B hx hy]
      exact key _ _ (by simp; omega) (by simp; omega) (by simp; omega) (by simp; omega) (by simp; omega) (by simp; omega)
    · generalize tkOf W H f (x + dx) (y + dy) = t
      apply key <;> (first | (split <;> omega) | omega)

/-- a walker -/
abbrev W4 := Int × Int × Int × Int
def stp (W H : Int) (f : Nat → Int) (v : W4) : W4 := (v.1 + v.2.2.1, v.2.1 + v.2.2.2, stDX W H f v.1 v.2.1 v.2.2.1 v.2.2.2, stDY W H f v.1 v.2.1 v.2.2.1 v.2.2.2)
def stps (W H : Int) (f : Nat → Int) : Nat → W4 → W4
  | 0, v => v
  | k + 1, v => stp W H f (stps W H f k v)
def okW (W H : Int) (n : Nat) (f : Nat → Int) (v : W4) : Bool := wkB W H n f v.1 v.2.1 v.2.2.1 v.2.2.2
theorem stps_ok {W H : Int} {n : Nat} {f : Nat → Int} {v : W4} (h : okW W H n f v = true) : ∀ k, okW W H n f (stps W H f k v) = true
  | 0 => h
  | k + 1 => step_go (stps_ok h k)
theorem stps_add {W H : Int} {f : Nat → Int} (v : W4) (a : Nat) : ∀ b, stps W H f (a + b) v = stps W H f b (stps W H f a v)
  | 0 => rfl
  | b + 1 => by rw [← Nat.add_assoc]; exact congrArg _ (stps_add v a b)
end Go.Proofs.YtbpdjmjkjiddjaaDoor.Base
