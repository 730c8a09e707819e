/-
  FnSteps: the contracts at valid walkers.
-/
import Derived.Test.YtajikegfladelaaDoorTrn
import Derived.Test.YtajikegfladelaaDoorItr
import Derived.Test.YtajikegfladelaaDoorWsc
import Derived.Test.YtajikegfladelaaDoorWlk
namespace Go.Proofs.YtajikegfladelaaDoor.Base
open Go.RowKit
set_option linter.unusedVariables false

theorem back_ok {W H x y dx dy : Int} {n : Nat} {f : Nat → Int} (h : wkB W H n f x y dx dy = true) : wkB W H n f (x + dx) (y + dy) (-dx) (-dy) = true := by
  obtain ⟨hv, hg⟩ := wk_valid h
  obtain ⟨s1, s2, p1, p2⟩ := go_yes hg
  have d1 : signB (-dx) = true := by rcases sign_yes s1 with e | e <;> rw [e] <;> rfl
  have d2 : signB (-dy) = true := by rcases sign_yes s2 with e | e <;> rw [e] <;> rfl
  rw [wk_is hv, go_is d1 d2 p2, show x + dx + -dx = x by omega, show y + dy + -dy = y by omega]
  exact p1
section
variable {W H : Int} {A : Option Addr} {n c : Nat} {f : Nat → Int}
theorem step_k (w : World) (x y dx dy : Int) (hr : Row .i64 w A n c f) (hT : Cel w 0 [.int .i64 1, .int .i64 1, .int .i64 (-1), .int .i64 1, .int .i64 1, .int .i64 (-1)]) (hw : wkB W H n f x y dx dy = true) :
    Calls Tryd.prog 17 #[.agg #[.int .i64 W, .int .i64 H, .slice A n c], .agg #[.int .i64 x, .int .i64 y, .int .i64 dx, .int .i64 dy]] w (Gives (.tuple #[.agg #[.int .i64 (x + dx), .int .i64 (y + dy), .int .i64 (stDX W H f x y dx dy), .int .i64 (stDY W H f x y dx dy)], .int .i64 0]) w) := by
  have h := impl_stepWalker w W H A n c f x y dx dy hr hT
  simpa only [bkV_yes hw, wkC_yes hw] using h
theorem back_k (w : World) (x y dx dy : Int) (hr : Row .i64 w A n c f) (hw : wkB W H n f x y dx dy = true) :
    Calls Tryd.prog 24 #[.agg #[.int .i64 W, .int .i64 H, .slice A n c], .agg #[.int .i64 x, .int .i64 y, .int .i64 dx, .int .i64 dy]] w (Gives (.tuple #[.agg #[.int .i64 (x + dx), .int .i64 (y + dy), .int .i64 (-dx), .int .i64 (-dy)], .int .i64 0]) w) := by
  have h := impl_backWalker w W H A n c f x y dx dy hr
  simpa only [bkV_yes hw, wkC_yes hw] using h
theorem turns_k (w : World) (x y dx dy : Int) (hr : Row .i64 w A n c f) (hw : wkB W H n f x y dx dy = true) :
    Calls Tryd.prog 25 #[.agg #[.int .i64 W, .int .i64 H, .slice A n c], .agg #[.int .i64 x, .int .i64 y, .int .i64 dx, .int .i64 dy]] w (Gives (.tuple #[.bool (decide (tkOf W H f (x + dx) (y + dy) ≠ 0)), .int .i64 0]) w) := by
  have h := impl_turnsOf w W H A n c f x y dx dy hr
  have e : tnB W H n f x y dx dy = decide (tkOf W H f (x + dx) (y + dy) ≠ 0) := by unfold tnB; rw [if_pos hw]
  simpa only [wkC_yes hw, e] using h
theorem vw_k (w : World) (x y dx dy : Int) (hr : Row .i64 w A n c f) (hw : wkB W H n f x y dx dy = true) :
    Calls Tryd.prog 26 #[.agg #[.int .i64 W, .int .i64 H, .slice A n c], .agg #[.int .i64 x, .int .i64 y, .int .i64 dx, .int .i64 dy]] w (Gives (.bool true) w) := by
  have h := spec_validWalker w W H A n c f x y dx dy hr
  rwa [hw] at h
theorem steps_k (w : World) (x y dx dy s : Int) (v : W4) (hr : Row .i64 w A n c f) (hT : Cel w 0 [.int .i64 1, .int .i64 1, .int .i64 (-1), .int .i64 1, .int .i64 1, .int .i64 (-1)]) (hw : wkB W H n f x y dx dy = true) (h0 : 0 ≤ s) (h1 : s ≤ 10000) (hv : stps W H f s.toNat (x, y, dx, dy) = v) :
    Calls Tryd.prog 21 #[.agg #[.int .i64 W, .int .i64 H, .slice A n c], .agg #[.int .i64 x, .int .i64 y, .int .i64 dx, .int .i64 dy], .int .i64 s] w (Gives (.tuple #[.agg #[.int .i64 v.1, .int .i64 v.2.1, .int .i64 v.2.2.1, .int .i64 v.2.2.2], .int .i64 0]) w) := by
  have h := impl_walkStepsOk w W H A n c f x y dx dy s hr hT hw (decide_eq_true ⟨h0, h1⟩)
  rw [hv] at h
  exact h
/-- the way back is that of the walker that has been turned back -/
theorem again_k (w : World) (x y dx dy e1 e2 : Int) (hr : Row .i64 w A n c f) (hT : Cel w 0 [.int .i64 1, .int .i64 1, .int .i64 (-1), .int .i64 1, .int .i64 1, .int .i64 (-1)]) (hw : wkB W H n f x y dx dy = true) (h1 : stDX W H f x y dx dy = e1) (h2 : stDY W H f x y dx dy = e2) :
    Calls Tryd.prog 17 #[.agg #[.int .i64 W, .int .i64 H, .slice A n c], .agg #[.int .i64 (x + dx + e1), .int .i64 (y + dy + e2), .int .i64 (-e1), .int .i64 (-e2)]] w (Gives (.tuple #[.agg #[.int .i64 (x + dx), .int .i64 (y + dy), .int .i64 (-dx), .int .i64 (-dy)], .int .i64 0]) w) := by
  have hv := step_go hw
  rw [h1, h2] at hv
  have h := step_k (A := A) (c := c) w (x + dx + e1) (y + dy + e2) (-e1) (-e2) hr hT (back_ok hv)
  have q1 : x + dx + e1 + -e1 = x + dx := by omega
  have q2 : y + dy + e2 + -e2 = y + dy := by omega
  have q3 : stDX W H f (x + dx + e1) (y + dy + e2) (-e1) (-e2) = -dx := by
    unfold stDX at h1 ⊢
    rw [q1, q2, ← h1]
    split <;> omega
  have q4 : stDY W H f (x + dx + e1) (y + dy + e2) (-e1) (-e2) = -dy := by
    unfold stDY at h2 ⊢
    rw [q1, q2, ← h2]
    split <;> omega
  rw [q1, q2, q3, q4] at h
  exact h
end
/-- how a walker is turned -/
theorem turn_cases {W H x y dx dy : Int} {n : Nat} {f : Nat → Int} (h : wkB W H n f x y dx dy = true) :
    (tkOf W H f (x + dx) (y + dy) = 0 ∧ stDX W H f x y dx dy = dx ∧ stDY W H f x y dx dy = dy) ∨
    (tkOf W H f (x + dx) (y + dy) = 1 ∧ stDX W H f x y dx dy = -dx ∧ stDY W H f x y dx dy = dy) ∨
    (tkOf W H f (x + dx) (y + dy) = 2 ∧ stDX W H f x y dx dy = dx ∧ stDY W H f x y dx dy = -dy) := by
  obtain ⟨hv, hg⟩ := wk_valid h
  obtain ⟨hW, hH, hn, hK⟩ := validB_yes hv
  obtain ⟨-, -, -, p2⟩ := go_yes hg
  unfold stDX stDY
  rcases tk_kind hn hK hW hH p2 with e | e | e <;> simp [e]
end Go.Proofs.YtajikegfladelaaDoor.Base
