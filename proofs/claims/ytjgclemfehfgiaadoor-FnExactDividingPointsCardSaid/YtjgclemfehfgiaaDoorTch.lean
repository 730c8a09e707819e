/-
  TouchesOf: the border points of a curve: the model, the starts of curves, spec's contract.
-/
import Derived.Test.YtjgclemfehfgiaaDoorCta
namespace Go.Proofs.YtjgclemfehfgiaaDoor.Base
open Go Go.RowKit
set_option linter.unusedVariables false
set_option linter.unusedSimpArgs false

/-- of the first j points of v's walk, how many lie on the border -/
def tchN (W H : Int) (f : Nat → Int) (v : W4) : Nat → Nat
  | 0 => 0
  | j + 1 => tchN W H f v j + (if edgeB W H (stps W H f j v).1 (stps W H f j v).2.1 then 1 else 0)
theorem tchN_succ (W H : Int) (f : Nat → Int) (v : W4) (j : Nat) : tchN W H f v (j + 1) = tchN W H f v j + (if edgeB W H (stps W H f j v).1 (stps W H f j v).2.1 then 1 else 0) := rfl
theorem tchN_le (W H : Int) (f : Nat → Int) (v : W4) : ∀ j, tchN W H f v j ≤ j
  | 0 => Nat.le_refl _
  | j + 1 => by rw [tchN_succ]; have := tchN_le W H f v j; split <;> omega
/-- the state behind all segments -/
noncomputable def trE (W H : Int) (f : Nat → Int) : Tr := trs W H f (4 * W * H).toNat
/-- the walker with which the curve s starts -/
noncomputable def cuW (W H : Int) (f : Nat → Int) (s : Nat) : W4 := wkr H ((trE W H f).st s)
/-- the code of a panel and the index of a curve -/
noncomputable def cuC (W H : Int) (n : Nat) (f : Nat → Int) (s : Int) : Int := if validB W H n f then (if inB s 0 ((cnN W H f : Int) - 1) then 0 else 2) else 1
noncomputable def toV (W H : Int) (n : Nat) (f : Nat → Int) (s : Int) : Int := if cuC W H n f s = 0 then tchN W H f (cuW W H f s.toNat) (per W H f (cuW W H f s.toNat)) else 0
theorem cu_bad {W H : Int} {n : Nat} {f : Nat → Int} {s : Int} (h : validB W H n f = false) : cuC W H n f s = 1 := by simp [cuC, h]
theorem cu_out {W H : Int} {n : Nat} {f : Nat → Int} {s : Int} (h : validB W H n f = true) (h2 : inB s 0 ((cnN W H f : Int) - 1) = false) : cuC W H n f s = 2 := by simp [cuC, h, h2]
theorem cu_in {W H : Int} {n : Nat} {f : Nat → Int} {s : Int} (h : validB W H n f = true) (h2 : inB s 0 ((cnN W H f : Int) - 1) = true) : cuC W H n f s = 0 := by simp [cuC, h, h2]
theorem toV_0 {W H : Int} {n : Nat} {f : Nat → Int} {s : Int} (h : cuC W H n f s ≠ 0) : toV W H n f s = 0 := by simp [toV, h]
theorem toV_1 {W H : Int} {n : Nat} {f : Nat → Int} {s : Int} (h : cuC W H n f s = 0) : toV W H n f s = tchN W H f (cuW W H f s.toNat) (per W H f (cuW W H f s.toNat)) := by simp [toV, h]

theorem ptl_get (W H : Int) (f : Nat → Int) (v : W4) : ∀ (j i : Nat), i < j → (ivs (ptl W H f v j))[i * 2]? = some (.int .i64 (stps W H f i v).1) ∧ (ivs (ptl W H f v j))[i * 2 + 1]? = some (.int .i64 (stps W H f i v).2.1)
  | 0, i, h => absurd h (by omega)
  | j + 1, i, h => by
    have hl : (ivs (ptl W H f v j)).length = 2 * j := by simp [ivs, ptl_length]
    rw [show ivs (ptl W H f v (j + 1)) = ivs (ptl W H f v j) ++ ivs [(stps W H f j v).1, (stps W H f j v).2.1] from ivs_app _ _]
    rcases Nat.lt_or_ge i j with h' | h'
    · rw [List.getElem?_append_left (by omega), List.getElem?_append_left (by omega)]
      exact ptl_get W H f v j i h'
    · rw [List.getElem?_append_right (by omega), List.getElem?_append_right (by omega), hl, show i * 2 - 2 * j = 0 by omega, show i * 2 + 1 - 2 * j = 1 by omega, show i = j by omega]
      exact ⟨rfl, rfl⟩
theorem stl_length (W H : Int) (f : Nat → Int) : ∀ k, (stl W H f k).length = 4 * (trs W H f k).cnt
  | 0 => rfl
  | k + 1 => by
    have ih := stl_length W H f k
    rcases Int.lt_or_le ((trs W H f k).of k) 0 with h | h
    · rw [trs_no h, stl, if_pos h, List.length_append, ih]
      show _ + 4 = 4 * (_ + 1)
      omega
    · rw [trs_yes h, stl, if_neg (by omega), ih]
theorem stl_get (W H : Int) (f : Nat → Int) : ∀ (k i : Nat), i < (trs W H f k).cnt →
    (ivs (stl W H f k))[i * 4]? = some (.int .i64 (wtX H ((trs W H f k).st i))) ∧ (ivs (stl W H f k))[i * 4 + 1]? = some (.int .i64 (wtY H ((trs W H f k).st i))) ∧
    (ivs (stl W H f k))[i * 4 + 2]? = some (.int .i64 1) ∧ (ivs (stl W H f k))[i * 4 + 3]? = some (.int .i64 (wtD H ((trs W H f k).st i)))
  | 0, i, hi => absurd hi (by show ¬ i < 0; omega)
  | k + 1, i, hi => by
    have hl : (ivs (stl W H f k)).length = 4 * (trs W H f k).cnt := by simp [ivs, stl_length]
    rcases Int.lt_or_le ((trs W H f k).of k) 0 with h | h
    · rw [trs_no h] at hi ⊢
      simp only at hi ⊢
      rw [stl, if_pos h, show ivs (stl W H f k ++ [wtX H k, wtY H k, 1, wtD H k]) = ivs (stl W H f k) ++ ivs [wtX H k, wtY H k, 1, wtD H k] from ivs_app _ _]
      rcases Nat.lt_or_ge i (trs W H f k).cnt with h' | h'
      · rw [if_neg (by omega), List.getElem?_append_left (by omega), List.getElem?_append_left (by omega), List.getElem?_append_left (by omega), List.getElem?_append_left (by omega)]
        exact stl_get W H f k i h'
      · have e : i = (trs W H f k).cnt := by omega
        rw [if_pos e, List.getElem?_append_right (by omega), List.getElem?_append_right (by omega), List.getElem?_append_right (by omega), List.getElem?_append_right (by omega), hl, show i * 4 - 4 * (trs W H f k).cnt = 0 by omega, show i * 4 + 1 - 4 * (trs W H f k).cnt = 1 by omega, show i * 4 + 2 - 4 * (trs W H f k).cnt = 2 by omega, show i * 4 + 3 - 4 * (trs W H f k).cnt = 3 by omega]
        exact ⟨rfl, rfl, rfl, rfl⟩
    · rw [trs_yes h] at hi ⊢
      rw [stl, if_neg (by omega)]
      exact stl_get W H f k i hi
/-- the walker with which a curve starts is valid -/
theorem cuW_ok {W H : Int} {n : Nat} {f : Nat → Int} {i : Nat} (hv : validB W H n f = true) (hi : i < cnN W H f) : okW W H n f (cuW W H f i) = true := by
  obtain ⟨hW, hH, -, -⟩ := validB_yes hv
  obtain ⟨m0, m1⟩ := segs_bd hW hH
  have h := trs_st (W := W) (H := H) (f := f) (4 * W * H).toNat i hi
  exact (wkr_ok hv (k := (trE W H f).st i) (by unfold trE; omega)).1

end Go.Proofs.YtjgclemfehfgiaaDoor.Base

namespace Go.Proofs.YtjgclemfehfgiaaDoor.Base
open Go Go.RowKit
set_option linter.unusedVariables false
set_option linter.unusedSimpArgs false
attribute [local go_sem] Oper.semAt_some

theorem impl_hasCurve (w : World) (W H s : Int) (A A1 A2 : Option Addr) (n c n1 c1 n2 c2 : Nat) (h1 : n1 ≤ 1000) :
    Calls Tryd.prog 140 #[.agg #[.int .i64 W, .int .i64 H, .slice A n c, .slice A1 n1 c1, .slice A2 n2 c2], .int .i64 s] w (Gives (.bool (inB s 0 ((n1 : Int) - 1))) w) := by
  have hm : n1 ≤ maxLen := by unfold maxLen; omega
  have HL := Lib.hid (show Below w.heap.size w (w.alloc (.cells #[.int .i64 W, .int .i64 H, .slice A n c, .slice A1 n1 c1, .slice A2 n2 c2] 168)) from (Below.refl _ _).alloc (Nat.le_refl _) _)
  by_cases h : s < 0
  · have e : inB s 0 ((n1 : Int) - 1) = false := by unfold inB; simp; omega
    have g : decide (0 ≤ s) = false := by simp; omega
    rw [e]
    go_enter Tryd.func140, Tryd.ntmps140
    go_wp2
    go_ret
    exact ⟨rfl, HL.out⟩
  · by_cases h2 : s < n1
    · have e : inB s 0 ((n1 : Int) - 1) = true := by unfold inB; simp; omega
      rw [e]
      go_enter Tryd.func140, Tryd.ntmps140
      go_wp2_with fail
      refine (impl_count _ W H A A1 A2 n c n1 c1 n2 c2 hm).mono ?_
      rintro e w1 ⟨rfl, b1⟩
      go_wp2
      go_ret
      exact ⟨rfl, HL.out.trans (b1.mono (by first | exact Nat.le_refl _ | (simp; done) | (simp; omega) | omega))⟩
    · have e : inB s 0 ((n1 : Int) - 1) = false := by unfold inB; simp; omega
      have g2 : decide (s < (n1 : Int)) = false := by simp; omega
      rw [e]
      go_enter Tryd.func140, Tryd.ntmps140
      go_wp2_with fail
      refine (impl_count _ W H A A1 A2 n c n1 c1 n2 c2 hm).mono ?_
      rintro e w1 ⟨rfl, b1⟩
      go_wp2
      go_ret
      exact ⟨by first | rfl | (rw [← g2]; rfl) | simp [g2], HL.out.trans (b1.mono (by first | exact Nat.le_refl _ | (simp; done) | (simp; omega) | omega))⟩
theorem hasCurve_is {w : World} {W H s : Int} {A A1 A2 : Option Addr} {n c n1 c1 n2 c2 : Nat} {v : Bool} (h1 : n1 ≤ 1000) (h : inB s 0 ((n1 : Int) - 1) = v) :
    Calls Tryd.prog 140 #[.agg #[.int .i64 W, .int .i64 H, .slice A n c, .slice A1 n1 c1, .slice A2 n2 c2], .int .i64 s] w (Gives (.bool v) w) := by
  rw [← h]; exact impl_hasCurve w W H s A A1 A2 n c n1 c1 n2 c2 h1

section
variable (w : World) (W H : Int) (A : Option Addr) (n c : Nat) (f : Nat → Int) (s : Int)
end
end Go.Proofs.YtjgclemfehfgiaaDoor.Base
