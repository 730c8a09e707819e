/-
  The two walkers along a segment are valid.
-/
import Derived.Test.YtbpdjmjkjiddjaaDoorAll
import Derived.Test.YtbpdjmjkjiddjaaDoorWlk
namespace Go.Proofs.YtbpdjmjkjiddjaaDoor.Base
open Go.RowKit
set_option linter.unusedVariables false

theorem has_mk {W H x y : Int} (h1 : 0 ≤ x) (h2 : x ≤ 2 * W) (h3 : 0 ≤ y) (h4 : y ≤ 2 * H) (h5 : (x + y) % 2 = 1) : hasB W H x y = true := by
  unfold hasB inB
  simp [h1, h2, h3, h4, h5]
theorem seg_pts {W H : Int} {k : Nat} (hW : sideB W = true) (hH : sideB H = true) (h : (k : Int) < 4 * W * H) :
    hasB W H (wtX H k) (wtY H k) = true ∧ hasB W H (wtX H k + 1) (wtY H k + wtD H k) = true ∧ signB (wtD H k) = true ∧ segOf H (wtX H k) (wtY H k) 1 (wtD H k) = k ∧ segOf H (wtX H k + 1) (wtY H k + wtD H k) (-1) (-wtD H k) = k := by
  obtain ⟨a1, a2⟩ := side_mk hW
  obtain ⟨g1, g2, g3, g4, g5, g6, g7, g8⟩ := wt_rng hW hH h
  obtain ⟨b1, b2, b3, b4, b5, b6⟩ := wt_bd (s := (k : Int)) hH (by omega) g6
  have hx : (k : Int) / (2 * H) + 1 ≤ 2 * W := by
    have : (k : Int) / (2 * H) < 2 * W := Int.ediv_lt_of_lt_mul (by omega) (by rw [Int.mul_comm 2 W, Int.mul_assoc W 2 (2 * H), ← Int.mul_assoc 2 2 H, ← Int.mul_assoc W (2 * 2) H, Int.mul_comm W (2 * 2)]; exact h)
    omega
  have hs : (k : Int) / (2 * H) * 2 * H + (k : Int) % (2 * H) = k := by
    rw [Int.mul_assoc]
    have := Int.mul_ediv_add_emod (k : Int) (2 * H)
    rw [Int.mul_comm] at this
    exact this
  by_cases hp : ((k : Int) / (2 * H) + (k : Int) % (2 * H)) % 2 = 1
  · have ey : wtY H k = (k : Int) % (2 * H) := if_pos hp
    have ed : wtD H k = 1 := if_pos hp
    have ex : wtX H k = (k : Int) / (2 * H) := rfl
    rw [ey, ed, ex]
    clear g1 g2 g3 g4 g5 g7 g8
    refine ⟨has_mk b1 (by omega) b3 (by omega) hp, has_mk (by omega) (by omega) (by omega) (by omega) (by omega), rfl, ?_, ?_⟩
    · have e1 : lowI ((k : Int) / (2 * H)) 1 = (k : Int) / (2 * H) := by unfold lowI; first | omega | (split <;> omega) | simp
      have e2 : lowI ((k : Int) % (2 * H)) 1 = (k : Int) % (2 * H) := by unfold lowI; first | omega | (split <;> omega) | simp
      unfold segOf
      rw [e1, e2]
      exact hs
    · have e1 : lowI ((k : Int) / (2 * H) + 1) (-1) = (k : Int) / (2 * H) := by unfold lowI; first | omega | (split <;> omega) | simp
      have e2 : lowI ((k : Int) % (2 * H) + 1) (-1) = (k : Int) % (2 * H) := by unfold lowI; first | omega | (split <;> omega) | simp
      unfold segOf
      rw [e1, e2]
      exact hs
  · have ey : wtY H k = (k : Int) % (2 * H) + 1 := if_neg hp
    have ed : wtD H k = -1 := if_neg hp
    have ex : wtX H k = (k : Int) / (2 * H) := rfl
    rw [ey, ed, ex]
    clear g1 g2 g3 g4 g5 g7 g8
    refine ⟨has_mk b1 (by omega) (by omega) (by omega) (by omega), has_mk (by omega) (by omega) (by omega) (by omega) (by omega), rfl, ?_, ?_⟩
    · have e1 : lowI ((k : Int) / (2 * H)) 1 = (k : Int) / (2 * H) := by unfold lowI; first | omega | (split <;> omega) | simp
      have e2 : lowI ((k : Int) % (2 * H) + 1) (-1) = (k : Int) % (2 * H) := by unfold lowI; first | omega | (split <;> omega) | simp
      unfold segOf
      rw [e1, e2]
      exact hs
    · have e1 : lowI ((k : Int) / (2 * H) + 1) (-1) = (k : Int) / (2 * H) := by unfold lowI; first | omega | (split <;> omega) | simp
      have e2 : lowI ((k : Int) % (2 * H) + 1 + -1) (- -1) = (k : Int) % (2 * H) := by unfold lowI; first | omega | (split <;> omega) | simp
      unfold segOf
      rw [e1, e2]
      exact hs
theorem seg_go {W H : Int} {n : Nat} {f : Nat → Int} {k : Nat} (hv : validB W H n f = true) (h : (k : Int) < 4 * W * H) :
    wkB W H n f (wtX H k) (wtY H k) 1 (wtD H k) = true ∧ wkB W H n f (wtX H k + 1) (wtY H k + wtD H k) (-1) (-wtD H k) = true := by
  obtain ⟨hW, hH, -, -⟩ := validB_yes hv
  obtain ⟨p1, p2, p3, -, -⟩ := seg_pts hW hH h
  have p4 : signB (-wtD H k) = true := by rcases sign_yes p3 with e | e <;> rw [e] <;> rfl
  rw [wk_is hv, wk_is hv, go_is rfl p3 p1, go_is rfl p4 p2]
  refine ⟨p2, ?_⟩
  rw [show wtX H k + 1 + -1 = wtX H k by omega, show wtY H k + wtD H k + -wtD H k = wtY H k by omega]
  exact p1
end Go.Proofs.YtbpdjmjkjiddjaaDoor.Base
