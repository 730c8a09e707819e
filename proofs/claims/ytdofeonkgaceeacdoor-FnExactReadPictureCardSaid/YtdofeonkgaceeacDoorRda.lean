/-
  The kinds that a picture without faults tells, in the order of the inner points.
-/
import Derived.Test.YtdofeonkgaceeacDoorRdp
import Derived.Test.YtdofeonkgaceeacDoorNum
namespace Go.Proofs.YtdofeonkgaceeacDoor.Base
open Go Go.RowKit
open Go.PlainAid (bt get_bt bt_nonneg bt_le)
set_option linter.unusedVariables false
set_option linter.unusedSimpArgs false

/-- the kind of the break with number i in a picture of lines g -/
def picF (W : Int) (g : Nat → ByteArray) (i : Nat) : Int := kindI (bt (g (ptY W i).toNat) (ptX W i).toNat)
def picL (W : Int) (g : Nat → ByteArray) (L : List Value) : Prop := ∀ i, i < L.length → L[i]? = some (.int .i64 (picF W g i))
/-- how many inner points line y has ahead of column k -/
def cntR (W H : Int) (y k : Nat) : Int := if 1 ≤ (y : Int) ∧ (y : Int) + 1 ≤ 2 * H then (if (y : Int) % 2 = 1 then min (((k - 1) / 2 : Nat) : Int) (W - 1) else ((k / 2 : Nat) : Int)) else 0
def rowR (W H : Int) (y : Nat) : Int := if (y : Int) ≤ 1 then 0 else if (y : Int) ≤ 2 * H then rowN W y else inner W H
theorem rowR_succ {W H : Int} (a1 : 1 ≤ W) (b1 : 1 ≤ H) {M y : Nat} (hM : (M : Int) = 2 * W + 1) : rowR W H (y + 1) = rowR W H y + cntR W H y M := by
  have he := rowN_end W H
  have h1 := rowN_one W
  unfold rowR cntR
  by_cases h0 : (y : Int) = 0
  · rw [if_pos (by omega), if_pos (by omega), if_neg (by omega)]
    rfl
  · by_cases h2 : (y : Int) + 1 ≤ 2 * H
    · have hs := rowN_succ W y (by omega)
      have c1 : ¬ (((y + 1 : Nat) : Int) ≤ 1) := by omega
      have c2 : ((y + 1 : Nat) : Int) ≤ 2 * H := by omega
      have c3 : 1 ≤ (y : Int) ∧ (y : Int) + 1 ≤ 2 * H := by omega
      have e : ((y + 1 : Nat) : Int) = (y : Int) + 1 := by omega
      rw [if_neg c1, if_pos c2, if_pos c3, e, hs]
      by_cases h3 : (y : Int) ≤ 1
      · rw [if_pos h3, show (y : Int) = 1 by omega, h1]
        simp only [show (1 : Int) % 2 = 1 by decide, if_true]
        omega
      · have c4 : (y : Int) ≤ 2 * H := by omega
        rw [if_neg h3, if_pos c4]
        by_cases h5 : (y : Int) % 2 = 1
        · rw [if_pos h5, if_pos h5]
          omega
        · rw [if_neg h5, if_neg h5]
          omega
    · have c1 : ¬ (((y + 1 : Nat) : Int) ≤ 1) := by omega
      have c2 : ¬ (((y + 1 : Nat) : Int) ≤ 2 * H) := by omega
      have c3 : ¬ (1 ≤ (y : Int) ∧ (y : Int) + 1 ≤ 2 * H) := by omega
      have c4 : ¬ ((y : Int) ≤ 1) := by omega
      rw [if_neg c1, if_neg c2, if_neg c3, if_neg c4]
      by_cases h5 : (y : Int) ≤ 2 * H
      · rw [if_pos h5, ← he, show (y : Int) = 2 * H by omega]
        omega
      · rw [if_neg h5]
        omega
theorem line_pic {W H : Int} (hW : sideB W = true) (hH : sideB H = true) {M n : Nat} (hM : (M : Int) = 2 * W + 1) (hn : (n : Int) = 2 * H + 1) {g : Nat → ByteArray} {y : Nat} (hy : y < n) (hg : GoodL W H M g y) {L : List Value} (hL : picL W g L) (hl : (L.length : Int) = rowR W H y) :
    ∀ k, k ≤ M → picL W g (lineL W H (g y) y L k) ∧ ((lineL W H (g y) y L k).length : Int) = rowR W H y + cntR W H y k
  | 0, _ => by
    refine ⟨hL, ?_⟩
    show (L.length : Int) = _
    obtain ⟨a1, a2⟩ := side_mk hW
    rw [hl]
    unfold cntR
    split
    · split <;> simp <;> omega
    · omega
  | k + 1, hk => by
    obtain ⟨h1, h2⟩ := line_pic hW hH hM hn hy hg hL hl k (by omega)
    obtain ⟨a1, a2⟩ := side_mk hW
    obtain ⟨b1, b2⟩ := side_mk hH
    have hc : chF W H k y (bt (g y) k) = 0 := hg.2 k (by omega)
    show picL W g (nextL W H k y (bt (g y) k) (lineL W H (g y) y L k)) ∧ ((nextL W H k y (bt (g y) k) (lineL W H (g y) y L k)).length : Int) = _
    generalize lineL W H (g y) y L k = S at *
    unfold nextL
    rw [hc]
    simp only [decide_true, Bool.and_true]
    cases hin : inB2 W H k y
    · simp only [Bool.false_eq_true, if_false]
      refine ⟨h1, ?_⟩
      rw [h2]
      unfold inB2 hasB edgeB inB at hin
      simp only [Bool.and_eq_false_iff, Bool.not_eq_false', decide_eq_true_eq, decide_eq_false_iff_not] at hin
      unfold cntR
      split
      · split <;> omega
      · rfl
    · simp only [if_true]
      have hin' := hin
      unfold inB2 at hin'
      simp only [Bool.and_eq_true, Bool.not_eq_true'] at hin'
      obtain ⟨i1, i2⟩ := hin'
      have hlt := num_lt hW hH i1 i2
      obtain ⟨j1, j2, j3, j4⟩ := edge_no i2
      have hp : (k : Int) + y = 2 * (((k : Int) + y) / 2) + 1 := by
        unfold hasB at i1
        simp only [Bool.and_eq_true, decide_eq_true_eq] at i1
        omega
      have hnum : (S.length : Int) = numN W k y := by
        rw [h2]
        unfold numN rowR cntR
        have h11 := rowN_one W
        by_cases hy1 : (y : Int) = 1
        · rw [if_pos (by omega), if_pos (by omega), if_pos (by omega), hy1, h11]
          omega
        · rw [if_neg (by omega), if_pos (by omega), if_pos (by omega)]
          split <;> omega
      have hY : ptY W (S.length : Int) = y := by
        refine (pt_only (H := H) a1 b1 (by omega) (by omega) (by omega) (by omega) ?_ ?_).symm
        · rw [hnum]; unfold numN; omega
        · by_cases h : (y : Int) + 1 = 2 * H
          · exact .inl h
          · refine .inr ?_
            rw [hnum, rowN_succ W y (by omega)]
            unfold numN
            split <;> omega
      have hX : ptX W (S.length : Int) = k := by
        have h := (pt_rows (W := W) (k := (S.length : Int)) a1 (by omega)).2.2.2
        rw [hY] at h
        rw [h, hnum]
        unfold numN
        omega
      refine ⟨fun i hi => ?_, ?_⟩
      · rw [List.length_append, List.length_singleton] at hi
        rcases Nat.lt_succ_iff_lt_or_eq.1 hi with h | rfl
        · rw [List.getElem?_append_left h]
          exact h1 i h
        · rw [List.getElem?_append_right (Nat.le_refl _), Nat.sub_self]
          show some _ = some _
          unfold picF
          rw [hX, hY]
          rfl
      · rw [List.length_append, List.length_singleton]
        have : ((S.length + 1 : Nat) : Int) = (S.length : Int) + 1 := by omega
        rw [this, h2]
        have c3 : 1 ≤ (y : Int) ∧ (y : Int) + 1 ≤ 2 * H := by omega
        unfold cntR
        rw [if_pos c3, if_pos c3]
        split <;> omega
theorem all_pic {W H : Int} (hW : sideB W = true) (hH : sideB H = true) {M n : Nat} (hM : (M : Int) = 2 * W + 1) (hn : (n : Int) = 2 * H + 1) {g : Nat → ByteArray} (hg : ∀ j, j < n → GoodL W H M g j) :
    ∀ y, y ≤ n → picL W g (allL W H M g y) ∧ ((allL W H M g y).length : Int) = rowR W H y
  | 0, _ => ⟨fun i hi => absurd hi (Nat.not_lt_zero _), by unfold rowR; rw [if_pos (by omega)]; rfl⟩
  | y + 1, hy => by
    obtain ⟨h1, h2⟩ := all_pic hW hH hM hn hg y (by omega)
    obtain ⟨a1, a2⟩ := side_mk hW
    obtain ⟨b1, b2⟩ := side_mk hH
    obtain ⟨h3, h4⟩ := line_pic hW hH hM hn (by omega) (hg y (by omega)) h1 h2 M (Nat.le_refl _)
    exact ⟨h3, h4.trans (rowR_succ a1 b1 hM).symm⟩
theorem all_inner {W H : Int} (hW : sideB W = true) (hH : sideB H = true) {M n : Nat} (hM : (M : Int) = 2 * W + 1) (hn : (n : Int) = 2 * H + 1) {g : Nat → ByteArray} (hg : ∀ j, j < n → GoodL W H M g j) :
    picL W g (allL W H M g n) ∧ ((allL W H M g n).length : Int) = inner W H := by
  obtain ⟨h1, h2⟩ := all_pic hW hH hM hn hg n (Nat.le_refl _)
  obtain ⟨b1, b2⟩ := side_mk hH
  refine ⟨h1, h2.trans ?_⟩
  unfold rowR
  rw [if_neg (by omega), if_neg (by omega)]
end Go.Proofs.YtdofeonkgaceeacDoor.Base
