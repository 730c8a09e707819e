/-
  The symmetries of panels: where they move points, numbers of inner points and kinds of breaks.
-/
import Derived.Test.YtbpdjmjkjiddjaaDoorNum
import Derived.Test.YtbpdjmjkjiddjaaDoorSet
namespace Go.Proofs.YtbpdjmjkjiddjaaDoor.Base
open Go.RowKit
set_option linter.unusedVariables false
set_option linter.unusedSimpArgs false

def swB (s : Int) : Bool := decide (4 ≤ s)
def acB (s : Int) : Bool := decide (s % 2 = 1)
def dnB (s : Int) : Bool := decide (s / 2 % 2 = 1)
def mvW (W H s : Int) : Int := if swB s then H else W
def mvH (W H s : Int) : Int := if swB s then W else H
def mvX (W H s x y : Int) : Int := if acB s then 2 * mvW W H s - (if swB s then y else x) else (if swB s then y else x)
def mvY (W H s x y : Int) : Int := if dnB s then 2 * mvH W H s - (if swB s then x else y) else (if swB s then x else y)
def bkX (W H s x y : Int) : Int := if swB s then (if dnB s then 2 * W - y else y) else (if acB s then 2 * W - x else x)
def bkY (W H s x y : Int) : Int := if swB s then (if acB s then 2 * H - x else x) else (if dnB s then 2 * H - y else y)
theorem mv_bk (W H s x y : Int) : mvX W H s (bkX W H s x y) (bkY W H s x y) = x ∧ mvY W H s (bkX W H s x y) (bkY W H s x y) = y := by
  unfold mvX mvY bkX bkY mvW mvH
  cases swB s <;> cases acB s <;> cases dnB s <;> simp <;> omega
theorem bk_mv (W H s x y : Int) : bkX W H s (mvX W H s x y) (mvY W H s x y) = x ∧ bkY W H s (mvX W H s x y) (mvY W H s x y) = y := by
  unfold mvX mvY bkX bkY mvW mvH
  cases swB s <;> cases acB s <;> cases dnB s <;> simp <;> omega
theorem hasM {W H x y : Int} (h : 0 ≤ x ∧ x ≤ 2 * W ∧ 0 ≤ y ∧ y ≤ 2 * H ∧ (x + y) % 2 = 1) : hasB W H x y = true := by
  have h1 : inB x 0 (2 * W) = true := decide_eq_true ⟨h.1, h.2.1⟩
  have h2 : inB y 0 (2 * H) = true := decide_eq_true ⟨h.2.2.1, h.2.2.2.1⟩
  simp [hasB, h1, h2, h.2.2.2.2]
theorem edgeM {W H x y : Int} (h : x ≠ 0 ∧ y ≠ 0 ∧ x ≠ 2 * W ∧ y ≠ 2 * H) : edgeB W H x y = false := decide_eq_false (by omega)
theorem mv_has {W H s x y : Int} (h : hasB W H x y = true) : hasB (mvW W H s) (mvH W H s) (mvX W H s x y) (mvY W H s x y) = true := by
  obtain ⟨h1, h2, h3, h4, h5⟩ := has_yes h
  refine hasM ?_
  unfold mvX mvY mvW mvH
  cases swB s <;> cases acB s <;> cases dnB s <;> simp <;> omega
theorem mv_edge {W H s x y : Int} (h : edgeB W H x y = false) : edgeB (mvW W H s) (mvH W H s) (mvX W H s x y) (mvY W H s x y) = false := by
  obtain ⟨h1, h2, h3, h4⟩ := edge_no h
  refine edgeM ?_
  unfold mvX mvY mvW mvH
  cases swB s <;> cases acB s <;> cases dnB s <;> simp <;> omega
theorem bk_has {W H s x y : Int} (h : hasB (mvW W H s) (mvH W H s) x y = true) : hasB W H (bkX W H s x y) (bkY W H s x y) = true := by
  obtain ⟨h1, h2, h3, h4, h5⟩ := has_yes h
  refine hasM ?_
  unfold mvW at h2
  unfold mvH at h4
  unfold bkX bkY
  cases hs : swB s <;> cases acB s <;> cases dnB s <;> simp [hs] at h2 h4 ⊢ <;> omega
theorem bk_edge {W H s x y : Int} (h : edgeB (mvW W H s) (mvH W H s) x y = false) : edgeB W H (bkX W H s x y) (bkY W H s x y) = false := by
  obtain ⟨h1, h2, h3, h4⟩ := edge_no h
  refine edgeM ?_
  unfold mvW at h3
  unfold mvH at h4
  unfold bkX bkY
  cases hs : swB s <;> cases acB s <;> cases dnB s <;> simp [hs] at h3 h4 ⊢ <;> omega
theorem mv_side {W H s : Int} (hW : sideB W = true) (hH : sideB H = true) : sideB (mvW W H s) = true ∧ sideB (mvH W H s) = true := by
  unfold mvW mvH
  cases swB s
  · exact ⟨hW, hH⟩
  · exact ⟨hH, hW⟩
theorem mv_inner (W H s : Int) : inner (mvW W H s) (mvH W H s) = inner W H := by
  unfold mvW mvH inner
  cases swB s
  · rfl
  · exact Int.add_comm _ _
theorem ptn_is {W H k : Int} (hW : sideB W = true) (hH : sideB H = true) (hk : 0 ≤ k) (hk' : k < inner W H) :
    hasB W H (ptX W k) (ptY W k) = true ∧ edgeB W H (ptX W k) (ptY W k) = false ∧ numN W (ptX W k) (ptY W k) = k := by
  obtain ⟨a1, a2⟩ := side_mk hW
  obtain ⟨b1, b2⟩ := side_mk hH
  obtain ⟨p1, p2, p3, p4⟩ := pt_rows a1 hk
  have p5 := pt_end a1 b1 hk hk'
  have p6 := rowN_succ W (ptY W k) p1
  have p7 : (0 ≤ ptX W k ∧ 1 ≤ ptX W k) ∧ ptX W k ≤ 2 * W - 1 ∧ (ptX W k + ptY W k) % 2 = 1 := by
    split at p6 <;> omega
  refine ⟨hasM ⟨by omega, by omega, by omega, by omega, p7.2.2⟩, edgeM ⟨by omega, by omega, by omega, by omega⟩, ?_⟩
  unfold numN
  split at p6 <;> omega
theorem num_pt {W H x y : Int} (hW : sideB W = true) (hH : sideB H = true) (h : hasB W H x y = true) (h' : edgeB W H x y = false) : ptX W (numN W x y) = x ∧ ptY W (numN W x y) = y := by
  obtain ⟨a1, a2⟩ := side_mk hW
  obtain ⟨b1, b2⟩ := side_mk hH
  obtain ⟨x1, x2, y1, y2, hp⟩ := has_yes h
  obtain ⟨e1, e2, e3, e4⟩ := edge_no h'
  obtain ⟨n1, n2⟩ := num_lt hW hH h h'
  have hs := rowN_succ W y (by omega)
  have hy : y = ptY W (numN W x y) := pt_only a1 b1 n1 n2 (by omega) (by omega) (by unfold numN; omega) (by
    right
    unfold numN
    split at hs <;> omega)
  obtain ⟨p1, p2, p3, p4⟩ := pt_rows (W := W) a1 n1
  refine ⟨?_, hy.symm⟩
  rw [p4, ← hy]
  unfold numN
  split at hs <;> omega
/-- the inner point that a symmetry moves to the inner point i, and the one to which it moves the inner point k -/
def srcI (W H s i : Int) : Int := numN W (bkX W H s (ptX (mvW W H s) i) (ptY (mvW W H s) i)) (bkY W H s (ptX (mvW W H s) i) (ptY (mvW W H s) i))
def dstI (W H s k : Int) : Int := numN (mvW W H s) (mvX W H s (ptX W k) (ptY W k)) (mvY W H s (ptX W k) (ptY W k))
theorem src_bd {W H s i : Int} (hW : sideB W = true) (hH : sideB H = true) (h0 : 0 ≤ i) (h1 : i < inner W H) : 0 ≤ srcI W H s i ∧ srcI W H s i < inner W H := by
  obtain ⟨s1, s2⟩ := mv_side (s := s) hW hH
  obtain ⟨p1, p2, -⟩ := ptn_is s1 s2 h0 (by rw [mv_inner]; exact h1)
  exact num_lt hW hH (bk_has p1) (bk_edge p2)
theorem dst_bd {W H s k : Int} (hW : sideB W = true) (hH : sideB H = true) (h0 : 0 ≤ k) (h1 : k < inner W H) : 0 ≤ dstI W H s k ∧ dstI W H s k < inner W H := by
  obtain ⟨s1, s2⟩ := mv_side (s := s) hW hH
  obtain ⟨p1, p2, -⟩ := ptn_is hW hH h0 h1
  rw [← mv_inner W H s]
  exact num_lt s1 s2 (mv_has p1) (mv_edge p2)
theorem src_dst {W H s k : Int} (hW : sideB W = true) (hH : sideB H = true) (h0 : 0 ≤ k) (h1 : k < inner W H) : srcI W H s (dstI W H s k) = k := by
  obtain ⟨s1, s2⟩ := mv_side (s := s) hW hH
  obtain ⟨p1, p2, p3⟩ := ptn_is hW hH h0 h1
  obtain ⟨q1, q2⟩ := num_pt s1 s2 (mv_has (s := s) p1) (mv_edge (s := s) p2)
  unfold srcI dstI
  rw [q1, q2, (bk_mv W H s _ _).1, (bk_mv W H s _ _).2, p3]
theorem dst_src {W H s i : Int} (hW : sideB W = true) (hH : sideB H = true) (h0 : 0 ≤ i) (h1 : i < inner W H) : dstI W H s (srcI W H s i) = i := by
  obtain ⟨s1, s2⟩ := mv_side (s := s) hW hH
  obtain ⟨p1, p2, p3⟩ := ptn_is s1 s2 h0 (by rw [mv_inner]; exact h1)
  obtain ⟨q1, q2⟩ := num_pt hW hH (bk_has p1) (bk_edge p2)
  unfold srcI dstI
  rw [q1, q2, (mv_bk W H s _ _).1, (mv_bk W H s _ _).2, p3]
/-- what a symmetry makes of a kind of break -/
def kdS (s z : Int) : Int := if swB s && decide (z ≠ 0) then 3 - z else z
theorem kd_bd {s z : Int} (h : 0 ≤ z ∧ z ≤ 2) : 0 ≤ kdS s z ∧ kdS s z ≤ 2 := by
  unfold kdS
  split
  · rename_i hh
    simp at hh
    omega
  · exact h
/-- the breaks of the panel to which a symmetry moves a panel -/
def mpF (W H s : Int) (f : Nat → Int) (i : Nat) : Int := kdS s (f (srcI W H s i).toNat)
/-- the same behind k rounds -/
def mpK (W H s : Int) (f : Nat → Int) (k : Nat) (i : Nat) : Int := if srcI W H s i < (k : Int) then mpF W H s f i else 0
theorem mpK_zero {W H s : Int} {f : Nat → Int} {n : Nat} (hW : sideB W = true) (hH : sideB H = true) (hn : (n : Int) = inner W H) (i : Nat) (hi : i < n) : mpK W H s f 0 i = 0 := by
  have := (src_bd (s := s) hW hH (i := i) (by omega) (by omega)).1
  unfold mpK
  rw [if_neg (by omega)]
theorem mpK_all {W H s : Int} {f : Nat → Int} {n : Nat} (hW : sideB W = true) (hH : sideB H = true) (hn : (n : Int) = inner W H) (i : Nat) (hi : i < n) : mpK W H s f n i = mpF W H s f i := by
  have := (src_bd (s := s) hW hH (i := i) (by omega) (by omega)).2
  unfold mpK
  rw [if_pos (by omega)]
theorem mpK_put {W H s : Int} {f : Nat → Int} {n k : Nat} (hW : sideB W = true) (hH : sideB H = true) (hn : (n : Int) = inner W H) (hk : k < n) (i : Nat) (hi : i < n) :
    putF (mpK W H s f k) (dstI W H s k).toNat (kdS s (f k)) i = mpK W H s f (k + 1) i := by
  have d := dst_bd (s := s) hW hH (k := k) (by omega) (by omega)
  unfold putF
  by_cases e : i = (dstI W H s k).toNat
  · rw [if_pos e]
    have ei : (i : Int) = dstI W H s k := by omega
    have es := src_dst (s := s) hW hH (k := k) (by omega) (by omega)
    unfold mpK mpF
    rw [ei, es, if_pos (by omega), Int.toNat_natCast]
  · rw [if_neg e]
    have es : srcI W H s i ≠ k := fun h => e (by
      have := dst_src (s := s) hW hH (i := i) (by omega) (by omega)
      rw [h] at this
      omega)
    unfold mpK
    by_cases h : srcI W H s i < (k : Int)
    · rw [if_pos h, if_pos (by omega)]
    · rw [if_neg h, if_neg (by omega)]
theorem mpF_bd {W H s : Int} {f : Nat → Int} {n : Nat} (hW : sideB W = true) (hH : sideB H = true) (hn : (n : Int) = inner W H) (hK : kindsB n f = true) (i : Nat) (hi : i < n) : 0 ≤ mpF W H s f i ∧ mpF W H s f i ≤ 2 := by
  have := src_bd (s := s) hW hH (i := i) (by omega) (by omega)
  exact kd_bd (kinds_iff.1 hK _ (by omega))
/-- the code of a panel and a symmetry -/
def mpC (W H : Int) (n : Nat) (f : Nat → Int) (s : Int) : Int := if validB W H n f then (if inB s 0 7 then 0 else 2) else 1
theorem mpC_1 {W H : Int} {n : Nat} {f : Nat → Int} {s : Int} (h : validB W H n f = false) : mpC W H n f s = 1 := by simp [mpC, h]
theorem mpC_2 {W H : Int} {n : Nat} {f : Nat → Int} {s : Int} (h : validB W H n f = true) (h2 : inB s 0 7 = false) : mpC W H n f s = 2 := by simp [mpC, h, h2]
theorem mpC_0 {W H : Int} {n : Nat} {f : Nat → Int} {s : Int} (h : validB W H n f = true) (h2 : inB s 0 7 = true) : mpC W H n f s = 0 := by simp [mpC, h, h2]
end Go.Proofs.YtbpdjmjkjiddjaaDoor.Base
