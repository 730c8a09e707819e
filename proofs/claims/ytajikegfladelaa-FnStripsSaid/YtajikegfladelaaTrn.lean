/-
  How a point turns: the program's.
-/
import Derived.Test.YtajikegfladelaaStp
import Derived.Test.YtajikegfladelaaShape
namespace Go.Proofs.Ytajikegfladelaa.Base
open Go.RowKit
set_option linter.unusedVariables false
set_option linter.unusedSimpArgs false

theorem tk_A {W H : Int} {f : Nat → Int} {x y : Int} (h : x = 0 ∨ x = 2 * W) : tkOf W H f x y = 1 := if_pos h
theorem tk_B {W H : Int} {f : Nat → Int} {x y : Int} (h : ¬ (x = 0 ∨ x = 2 * W)) (h2 : y = 0 ∨ y = 2 * H) : tkOf W H f x y = 2 := by unfold tkOf; rw [if_neg h, if_pos h2]
theorem tk_C {W H : Int} {f : Nat → Int} {x y : Int} (h : ¬ (x = 0 ∨ x = 2 * W)) (h2 : ¬ (y = 0 ∨ y = 2 * H)) : tkOf W H f x y = f (numN W x y).toNat := by unfold tkOf; rw [if_neg h, if_neg h2]
theorem edge_mk {W H x y : Int} (h : ¬ (x = 0 ∨ x = 2 * W)) (h2 : ¬ (y = 0 ∨ y = 2 * H)) : edgeB W H x y = false := by
  unfold edgeB
  exact decide_eq_false (by omega)
/-- the kinds of a valid panel -/
theorem kind_of {n : Nat} {f : Nat → Int} (h : kindsB n f = true) {i : Nat} (hi : i < n) : f i = 0 ∨ f i = 1 ∨ f i = 2 := by
  have := kinds_iff.1 h i hi
  omega
theorem specStep (w : World) (p : Nat) (W H : Int) (A : Option Addr) (n c : Nat) (f : Nat → Int) (x y dx dy : Int) (hb : Box w p W H A n c) (hr : Row .i64 w A n c f) (hn : (n : Int) = inner W H) (hK : kindsB n f = true) (hW : sideB W = true) (hH : sideB H = true) (x1 : 0 ≤ x) (x2 : x ≤ 16) (y1 : 0 ≤ y) (y2 : y ≤ 16) (hx : signB dx = true) (hy : signB dy = true)
    (h3 : hasB W H (x + dx) (y + dy) = true) :
    Calls Try.prog 36 #[.pointer (some ⟨p, 0, none⟩), .agg #[.int .i64 x, .int .i64 y, .int .i64 dx, .int .i64 dy]] w (Gives (.agg #[.int .i64 (x + dx), .int .i64 (y + dy), .int .i64 (stDX W H f x y dx dy), .int .i64 (stDY W H f x y dx dy)]) w) := by
  unfold stDX stDY
  by_cases hA : x + dx = 0 ∨ x + dx = 2 * W
  · rw [tk_A hA, if_pos rfl, if_neg (by omega)]
    rcases hA with h | h
    · exact specStepA1 w p W H A n c f x y dx dy hb hr hn hW hH x1 x2 y1 y2 hx hy h3 h
    · exact specStepA2 w p W H A n c f x y dx dy hb hr hn hW hH x1 x2 y1 y2 hx hy h3 h
  · by_cases hB : y + dy = 0 ∨ y + dy = 2 * H
    · rw [tk_B hA hB, if_neg (by omega), if_pos rfl]
      rcases hB with h | h
      · exact specStepB1 w p W H A n c f x y dx dy hb hr hn hW hH x1 x2 y1 y2 hx hy h3 h
      · exact specStepB2 w p W H A n c f x y dx dy hb hr hn hW hH x1 x2 y1 y2 hx hy h3 h
    · rw [tk_C hA hB]
      have he := edge_mk hA hB
      obtain ⟨l1, l2⟩ := num_lt hW hH h3 he
      have l3 : numN W (x + dx) (y + dy) < (n : Int) := by rw [hn]; exact l2
      rcases kind_of hK (show (numN W (x + dx) (y + dy)).toNat < n by omega) with h | h | h
      · rw [h, if_neg (by omega), if_neg (by omega)]
        exact specStepC0 w p W H A n c f x y dx dy hb hr hn hW hH x1 x2 y1 y2 hx hy h3 ⟨he, h⟩
      · rw [h, if_pos rfl, if_neg (by omega)]
        exact specStepC1 w p W H A n c f x y dx dy hb hr hn hW hH x1 x2 y1 y2 hx hy h3 ⟨he, h⟩
      · rw [h, if_neg (by omega), if_pos rfl]
        exact specStepC2 w p W H A n c f x y dx dy hb hr hn hW hH x1 x2 y1 y2 hx hy h3 ⟨he, h⟩
end Go.Proofs.Ytajikegfladelaa.Base

namespace Go.Proofs.Ytajikegfladelaa.Base
open Go.RowKit
set_option linter.unusedVariables false
set_option linter.unusedSimpArgs false

def tnB (W H : Int) (n : Nat) (f : Nat → Int) (x y dx dy : Int) : Bool := if wkB W H n f x y dx dy then decide (tkOf W H f (x + dx) (y + dy) ≠ 0) else false
theorem tnB_no {W H : Int} {n : Nat} {f : Nat → Int} {x y dx dy : Int} (h : wkB W H n f x y dx dy = false) : tnB W H n f x y dx dy = false := by simp [tnB, h]
theorem tnB_0 {W H : Int} {n : Nat} {f : Nat → Int} {x y dx dy : Int} (h : wkB W H n f x y dx dy = true) (h2 : tkOf W H f (x + dx) (y + dy) = 0) : tnB W H n f x y dx dy = false := by simp [tnB, h, h2]
theorem tnB_1 {W H : Int} {n : Nat} {f : Nat → Int} {x y dx dy : Int} (h : wkB W H n f x y dx dy = true) (h2 : tkOf W H f (x + dx) (y + dy) ≠ 0) : tnB W H n f x y dx dy = true := by simp [tnB, h, h2]
theorem tk_kind {W H : Int} {n : Nat} {f : Nat → Int} {x y : Int} (hn : (n : Int) = inner W H) (hK : kindsB n f = true) (hW : sideB W = true) (hH : sideB H = true) (h3 : hasB W H x y = true) : tkOf W H f x y = 0 ∨ tkOf W H f x y = 1 ∨ tkOf W H f x y = 2 := by
  by_cases hA : x = 0 ∨ x = 2 * W
  · exact .inr (.inl (tk_A hA))
  · by_cases hB : y = 0 ∨ y = 2 * H
    · exact .inr (.inr (tk_B hA hB))
    · rw [tk_C hA hB]
      have he := edge_mk hA hB
      obtain ⟨l1, l2⟩ := num_lt hW hH h3 he
      exact kind_of hK (by omega)
theorem goAll {W H x y dx dy : Int} {n : Nat} {f : Nat → Int} (h : wkB W H n f x y dx dy = true) : (n : Int) = inner W H ∧ kindsB n f = true := by
  obtain ⟨hv, -⟩ := wk_valid h
  obtain ⟨-, -, h3, h4⟩ := validB_yes hv
  exact ⟨h3, h4⟩

end Go.Proofs.Ytajikegfladelaa.Base

namespace Go.Proofs.Ytajikegfladelaa.Base
open Go.RowKit
set_option linter.unusedVariables false
set_option linter.unusedSimpArgs false

end Go.Proofs.Ytajikegfladelaa.Base
