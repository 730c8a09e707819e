/-
  CurveLengths: spec's and the program's.
-/
import Derived.Test.YtajikegfladelaaDoorTch
import Derived.Test.YtajikegfladelaaDoorPrt
import Derived.Test.YtajikegfladelaaDoorIls
import Derived.Shelf.RegionOpen
namespace Go.Proofs.YtajikegfladelaaDoor.Base
open Go Go.RowKit
set_option linter.unusedVariables false
set_option linter.unusedSimpArgs false

/-- the length of the curve i -/
noncomputable def lnF (W H : Int) (f : Nat → Int) (i : Nat) : Int := (per W H f (cuW W H f i) : Int)
noncomputable def lnN (W H : Int) (n : Nat) (f : Nat → Int) : Nat := if validB W H n f then cnN W H f else 0
noncomputable def lns (W H : Int) (f : Nat → Int) : Nat → List Int
  | 0 => []
  | k + 1 => lns W H f k ++ [lnF W H f k]
theorem lns_length (W H : Int) (f : Nat → Int) : ∀ k, (lns W H f k).length = k
  | 0 => rfl
  | k + 1 => by simp [lns, lns_length W H f k]
theorem lns_get (W H : Int) (f : Nat → Int) : ∀ (k i : Nat), i < k → (ivs (lns W H f k))[i]? = some (.int .i64 (lnF W H f i))
  | 0, i, h => absurd h (by omega)
  | k + 1, i, h => by
    have hl : (ivs (lns W H f k)).length = k := by simp [ivs, lns_length]
    rw [show ivs (lns W H f (k + 1)) = ivs (lns W H f k) ++ ivs [lnF W H f k] from ivs_app _ _]
    rcases Nat.lt_or_ge i k with h' | h'
    · rw [List.getElem?_append_left (by omega)]
      exact lns_get W H f k i h'
    · rw [List.getElem?_append_right (by omega), hl, show i - k = 0 by omega, show k = i by omega]
      rfl
theorem lnN_no {W H : Int} {n : Nat} {f : Nat → Int} (h : validB W H n f = false) : lnN W H n f = 0 := by simp [lnN, h]
theorem lnN_yes {W H : Int} {n : Nat} {f : Nat → Int} (h : validB W H n f = true) : lnN W H n f = cnN W H f := by simp [lnN, h]
theorem lnN_le (W H : Int) (n : Nat) (f : Nat → Int) : lnN W H n f ≤ 256 := by
  cases hv : validB W H n f
  · rw [lnN_no hv]; omega
  · rw [lnN_yes hv]; exact cnN_le hv
theorem lnF_rng {W H : Int} {n : Nat} {f : Nat → Int} {i : Nat} (hv : validB W H n f = true) (hi : i < cnN W H f) : 0 ≤ lnF W H f i ∧ lnF W H f i ≤ 1156 := by
  have h := per_is (cuW_ok hv hi)
  unfold lnF
  have h1 := h.1
  have h2 := h.2.1
  omega
/-- how often the curve i is among all segments' curves: its length -/
theorem ln_cnt {W H : Int} {n : Nat} {f : Nat → Int} {i : Nat} (hv : validB W H n f = true) (hi : i < cnN W H f) : (cntE (trE W H f).of i (4 * W * H).toNat : Int) = lnF W H f i := by
  obtain ⟨hW, hH, -, -⟩ := validB_yes hv
  obtain ⟨m0, m1⟩ := segs_bd hW hH
  have h := trs_len hv (4 * W * H).toNat (by omega) i hi
  unfold lnF cuW trE
  rw [h]

end Go.Proofs.YtajikegfladelaaDoor.Base
