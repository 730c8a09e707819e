/-
  Numbers of inner points, spec's and the program's.
-/
import Derived.Test.YtjgclemfehfgiaaPan
namespace Go.Proofs.Ytjgclemfehfgiaa.Base
open Go.RowKit
set_option linter.unusedVariables false

/-- the number of the first inner point with some Y -/
def rowN (W y : Int) : Int := (y - 1) * W - y / 2
def numN (W x y : Int) : Int := rowN W y + (x - 1) / 2
theorem rowN_one (W : Int) : rowN W 1 = 0 := by simp [rowN]
theorem rowN_succ (W k : Int) (h : 1 ≤ k) : rowN W (k + 1) = rowN W k + W - (if k % 2 = 1 then 1 else 0) := by
  unfold rowN
  have e : (k + 1 - 1) * W = (k - 1) * W + W := by rw [show k + 1 - 1 = (k - 1) + 1 by omega, Int.add_mul, Int.one_mul]
  rw [e]
  split <;> omega
theorem rowN_bd {W k : Int} (h1 : 1 ≤ W) (h2 : W ≤ 8) (h3 : 1 ≤ k) (h4 : k ≤ 16) : 0 ≤ rowN W k ∧ rowN W k ≤ 120 := by
  unfold rowN
  have p1 : (k - 1) * 1 ≤ (k - 1) * W := Int.mul_le_mul_of_nonneg_left h1 (by omega)
  have p2 : (k - 1) * W ≤ 15 * 8 := Int.mul_le_mul (by omega) h2 (by omega) (by omega)
  omega

theorem numN_bd {W H x y : Int} (a1 : 1 ≤ W) (a2 : W ≤ 8) (x1 : 1 ≤ x) (x2 : x ≤ 16) (y1 : 1 ≤ y) (y2 : y ≤ 16) : 0 ≤ numN W x y ∧ numN W x y ≤ 128 := by
  have := rowN_bd a1 a2 y1 y2
  unfold numN
  omega
/-- the program's way to the same number -/
theorem numN_rows (W x y : Int) (y1 : 1 ≤ y) : numN W x y = (y - 1) / 2 * (2 * W - 1) + (if y % 2 = 0 then W - 1 else 0) + (x - 1) / 2 := by
  unfold numN rowN
  have e1 : (y - 1) / 2 * (2 * W - 1) = (y - 1) / 2 * W + (y - 1) / 2 * W - (y - 1) / 2 := by
    rw [Int.mul_sub, Int.mul_one, ← Int.mul_assoc, Int.mul_comm _ 2, Int.mul_assoc]; omega
  have e2 : (y - 1) * W = (y - 1) / 2 * W + (y - 1) / 2 * W + (if y % 2 = 0 then W else 0) := by
    have h : y - 1 = (y - 1) / 2 + (y - 1) / 2 + (if y % 2 = 0 then 1 else 0) := by split <;> omega
    conv => lhs; rw [h]
    rw [Int.add_mul, Int.add_mul]
    split <;> simp
  rw [e1, e2]
  split <;> omega

theorem keep4 {w w1 w2 : World} {p q r p' : Addr} {u v x u' : Value} (h : w1.cell? p = some u ∧ w1.cell? q = some v ∧ w1.cell? r = some x ∧ w1.cell? p' = some u' ∧ Below w.heap.size w w1)
    (b : Below w1.heap.size w1 w2) : w2.cell? p = some u ∧ w2.cell? q = some v ∧ w2.cell? r = some x ∧ w2.cell? p' = some u' ∧ Below w.heap.size w w2 :=
  ⟨(b.cell (World.block_lt_of_cell? _ _ h.1)).trans h.1, (b.cell (World.block_lt_of_cell? _ _ h.2.1)).trans h.2.1, (b.cell (World.block_lt_of_cell? _ _ h.2.2.1)).trans h.2.2.1, (b.cell (World.block_lt_of_cell? _ _ h.2.2.2.1)).trans h.2.2.2.1, h.2.2.2.2.trans (b.mono h.2.2.2.2.size)⟩

end Go.Proofs.Ytjgclemfehfgiaa.Base

namespace Go.Proofs.Ytjgclemfehfgiaa.Base
open Go.RowKit
set_option linter.unusedVariables false

/-- the code of a panel and an inner point -/
def codeP (W H : Int) (n : Nat) (f : Nat → Int) (x y : Int) : Int := if validB W H n f then (if hasB W H x y then (if edgeB W H x y then 6 else 0) else 2) else 1
def numP (W H : Int) (n : Nat) (f : Nat → Int) (x y : Int) : Int := if codeP W H n f x y = 0 then numN W x y else 0
theorem code_1 {W H : Int} {n : Nat} {f : Nat → Int} {x y : Int} (h : validB W H n f = false) : codeP W H n f x y = 1 ∧ numP W H n f x y = 0 := by simp [numP, codeP, h]
theorem code_2 {W H : Int} {n : Nat} {f : Nat → Int} {x y : Int} (h : validB W H n f = true) (h2 : hasB W H x y = false) : codeP W H n f x y = 2 ∧ numP W H n f x y = 0 := by simp [numP, codeP, h, h2]
theorem code_6 {W H : Int} {n : Nat} {f : Nat → Int} {x y : Int} (h : validB W H n f = true) (h2 : hasB W H x y = true) (h3 : edgeB W H x y = true) : codeP W H n f x y = 6 ∧ numP W H n f x y = 0 := by simp [numP, codeP, h, h2, h3]
theorem code_0 {W H : Int} {n : Nat} {f : Nat → Int} {x y : Int} (h : validB W H n f = true) (h2 : hasB W H x y = true) (h3 : edgeB W H x y = false) : codeP W H n f x y = 0 ∧ numP W H n f x y = numN W x y := by simp [numP, codeP, h, h2, h3]
theorem edge_no {W H x y : Int} (h : edgeB W H x y = false) : x ≠ 0 ∧ y ≠ 0 ∧ x ≠ 2 * W ∧ y ≠ 2 * H := by
  simp [edgeB] at h; exact h
theorem inside {W H x y : Int} (hW : sideB W = true) (hH : sideB H = true) (h2 : hasB W H x y = true) (h3 : edgeB W H x y = false) : 1 ≤ x ∧ x ≤ 16 ∧ 1 ≤ y ∧ y ≤ 16 := by
  obtain ⟨a1, a2⟩ := side_mk hW
  obtain ⟨b1, b2⟩ := side_mk hH
  obtain ⟨x1, x2, y1, y2, _⟩ := has_yes h2
  obtain ⟨e1, e2, e3, e4⟩ := edge_no h3
  omega

theorem rowN_mono {W : Int} (a1 : 1 ≤ W) (k : Int) (hk : 1 ≤ k) (d : Nat) : rowN W k ≤ rowN W (k + d) := by
  induction d with
  | zero => simp
  | succ d ih =>
    have := rowN_succ W (k + d) (by omega)
    rw [show k + ((d + 1 : Nat) : Int) = k + (d : Int) + 1 by omega, this]
    split <;> omega
theorem rowN_end (W H : Int) : rowN W (2 * H) = inner W H := by
  unfold rowN inner
  have e1 : (2 * H - 1) * W = H * W + H * W - W := by rw [Int.sub_mul, Int.one_mul, Int.mul_assoc]; omega
  have e2 : W * (H - 1) = H * W - W := by rw [Int.mul_sub, Int.mul_one, Int.mul_comm]
  have e3 : H * (W - 1) = H * W - H := by rw [Int.mul_sub, Int.mul_one]
  omega
theorem num_lt {W H x y : Int} (hW : sideB W = true) (hH : sideB H = true) (h2 : hasB W H x y = true) (h3 : edgeB W H x y = false) : 0 ≤ numN W x y ∧ numN W x y < inner W H := by
  obtain ⟨a1, a2⟩ := side_mk hW
  obtain ⟨b1, b2⟩ := side_mk hH
  obtain ⟨x1, x2, y1, y2, hp⟩ := has_yes h2
  obtain ⟨e1, e2, e3, e4⟩ := edge_no h3
  refine ⟨(numN_bd (H := H) a1 a2 (by omega) (by omega) (by omega) (by omega)).1, ?_⟩
  have hs := rowN_succ W y (by omega)
  have hm := rowN_mono a1 (y + 1) (by omega) (2 * H - (y + 1)).toNat
  rw [show y + 1 + ((2 * H - (y + 1)).toNat : Int) = 2 * H by omega, rowN_end] at hm
  unfold numN
  split at hs <;> omega

theorem keep5d' {w w1 : World} {p q r p' q' : Addr} {u v x u' v' : Value} (h : w1.cell? p = some u ∧ w1.cell? q = some v ∧ w1.cell? r = some x ∧ w1.cell? p' = some u' ∧ w1.cell? q' = some v' ∧ Below w.heap.size w w1) :
    w1.drew.cell? p = some u ∧ w1.drew.cell? q = some v ∧ w1.drew.cell? r = some x ∧ w1.drew.cell? p' = some u' ∧ w1.drew.cell? q' = some v' ∧ Below w.heap.size w w1.drew := ⟨h.1, h.2.1, h.2.2.1, h.2.2.2.1, h.2.2.2.2.1, h.2.2.2.2.2.drew⟩

end Go.Proofs.Ytjgclemfehfgiaa.Base

namespace Go.Proofs.Ytjgclemfehfgiaa.Base
open Go.RowKit
set_option linter.unusedVariables false

def brkP (W H : Int) (n : Nat) (f : Nat → Int) (x y : Int) : Int := if codeP W H n f x y = 0 then f (numN W x y).toNat else 0
theorem code_zero {W H : Int} {n : Nat} {f : Nat → Int} {x y : Int} (hc : codeP W H n f x y = 0) : validB W H n f = true ∧ hasB W H x y = true ∧ edgeB W H x y = false := by
  have hv : validB W H n f = true := by
    cases h : validB W H n f
    · rw [(code_1 h).1] at hc; omega
    · rfl
  have hh : hasB W H x y = true := by
    cases h : hasB W H x y
    · rw [(code_2 hv h).1] at hc; omega
    · rfl
  refine ⟨hv, hh, ?_⟩
  cases h : edgeB W H x y
  · rfl
  · rw [(code_6 hv hh h).1] at hc; omega

theorem box_keep6 {w w1 : World} {p : Nat} {W H : Int} {A : Option Addr} {n c : Nat} {p' q' r' : Addr} {u' v' x' : Value} (h : w1.cell? ⟨p, 0, none⟩ = some (.int .i64 W) ∧ w1.cell? ⟨p, 1, none⟩ = some (.int .i64 H) ∧ w1.cell? ⟨p, 2, none⟩ = some (.slice A n c) ∧ w1.cell? p' = some u' ∧ w1.cell? q' = some v' ∧ w1.cell? r' = some x' ∧ Below w.heap.size w w1) :
    Box w1 p W H A n c := ⟨World.block_lt_of_cell? _ _ h.1, h.1, h.2.1, h.2.2.1⟩
end Go.Proofs.Ytjgclemfehfgiaa.Base

namespace Go.Proofs.Ytjgclemfehfgiaa.Base
open Go.RowKit
set_option linter.unusedVariables false

/-- how many of the first k are of a kind -/
def cntK (z : Int) (f : Nat → Int) : Nat → Int
  | 0 => 0
  | k + 1 => cntK z f k + (if f k = z then 1 else 0)
theorem cntK_bd (z : Int) (f : Nat → Int) (k : Nat) : 0 ≤ cntK z f k ∧ cntK z f k ≤ k := by
  induction k with
  | zero => simp [cntK]
  | succ k ih => simp only [cntK]; split <;> omega
def cntC (W H : Int) (n : Nat) (f : Nat → Int) (z : Int) : Int := if validB W H n f then (if inB z 0 2 then 0 else 2) else 1
def cntP (W H : Int) (n : Nat) (f : Nat → Int) (z : Int) : Int := if cntC W H n f z = 0 then cntK z f n else 0

theorem isBreak_is {z : Int} {v : Bool} (h : inB z 0 2 = v) (w : World) : Calls Try.prog 36 #[.int .i64 z] w fun e w' => e = .returned (.bool v) ∧ w = w' := by rw [← h]; exact isBreak_any z w

end Go.Proofs.Ytjgclemfehfgiaa.Base

namespace Go.Proofs.Ytjgclemfehfgiaa.Base
open Go.RowKit
set_option linter.unusedVariables false

def ptX (W k : Int) : Int := if k % (2 * W - 1) < W - 1 then 2 * (k % (2 * W - 1)) + 2 else 2 * (k % (2 * W - 1) - (W - 1)) + 1
def ptY (W k : Int) : Int := if k % (2 * W - 1) < W - 1 then k / (2 * W - 1) * 2 + 1 else k / (2 * W - 1) * 2 + 1 + 1
theorem rowN_odd (W t : Int) : rowN W (2 * t + 1) = t * (2 * W - 1) := by
  unfold rowN
  have e1 : (2 * t + 1 - 1) * W = t * W + t * W := by rw [show 2 * t + 1 - 1 = t + t by omega, Int.add_mul]
  have e2 : t * (2 * W - 1) = t * W + t * W - t := by rw [Int.mul_sub, Int.mul_one, show 2 * W = W + W by omega, Int.mul_add]
  omega
theorem rowN_even (W t : Int) : rowN W (2 * t + 1 + 1) = t * (2 * W - 1) + (W - 1) := by
  unfold rowN
  have e1 : (2 * t + 1 + 1 - 1) * W = t * W + t * W + W := by rw [show 2 * t + 1 + 1 - 1 = t + t + 1 by omega, Int.add_mul, Int.add_mul, Int.one_mul]
  have e2 : t * (2 * W - 1) = t * W + t * W - t := by rw [Int.mul_sub, Int.mul_one, show 2 * W = W + W by omega, Int.mul_add]
  omega
theorem rowN_le {W : Int} (a1 : 1 ≤ W) {j k : Int} (hj : 1 ≤ j) (h : j ≤ k) : rowN W j ≤ rowN W k := by
  have := rowN_mono a1 j hj (k - j).toNat
  rwa [show j + ((k - j).toNat : Int) = k by omega] at this
/-- between which rows a number lies -/
theorem pt_rows {W k : Int} (a1 : 1 ≤ W) (hk : 0 ≤ k) : 1 ≤ ptY W k ∧ rowN W (ptY W k) ≤ k ∧ k < rowN W (ptY W k + 1) ∧ ptX W k = 2 * (k - rowN W (ptY W k)) + 1 + ptY W k % 2 := by
  have hd := Int.mul_ediv_add_emod k (2 * W - 1)
  have q0 : 0 ≤ k / (2 * W - 1) := Int.ediv_nonneg hk (by omega)
  have r0 : 0 ≤ k % (2 * W - 1) := Int.emod_nonneg _ (by omega)
  have r1 : k % (2 * W - 1) < 2 * W - 1 := Int.emod_lt_of_pos _ (by omega)
  rw [Int.mul_comm] at hd
  have e1 := rowN_odd W (k / (2 * W - 1))
  have e2 := rowN_even W (k / (2 * W - 1))
  have e3 := rowN_odd W (k / (2 * W - 1) + 1)
  rw [Int.add_mul, Int.one_mul] at e3
  unfold ptY ptX
  generalize k / (2 * W - 1) = q at *
  generalize k % (2 * W - 1) = r at *
  generalize hp : q * (2 * W - 1) = p at *
  by_cases h : r < W - 1
  · simp only [if_pos h]
    rw [show q * 2 + 1 = 2 * q + 1 by omega, e1, e2]
    omega
  · simp only [if_neg h]
    rw [show q * 2 + 1 + 1 = 2 * q + 1 + 1 by omega, e2, show 2 * q + 1 + 1 + 1 = 2 * (q + 1) + 1 by omega, e3]
    omega
theorem pt_only {W H k y : Int} (a1 : 1 ≤ W) (b1 : 1 ≤ H) (hk : 0 ≤ k) (hk' : k < inner W H) (h1 : 1 ≤ y) (h2 : y + 1 ≤ 2 * H) (h3 : rowN W y ≤ k) (h4 : y + 1 = 2 * H ∨ k < rowN W (y + 1)) : y = ptY W k := by
  obtain ⟨p1, p2, p3, _⟩ := pt_rows a1 hk
  rcases Int.lt_trichotomy y (ptY W k) with h | h | h
  · exfalso
    rcases h4 with h4 | h4
    · have := rowN_le a1 (by omega) (show 2 * H ≤ ptY W k by omega)
      rw [rowN_end] at this
      omega
    · have := rowN_le a1 (by omega) (show y + 1 ≤ ptY W k by omega)
      omega
  · exact h
  · exfalso
    have := rowN_le a1 (by omega) (show ptY W k + 1 ≤ y by omega)
    omega
theorem pt_end {W H k : Int} (a1 : 1 ≤ W) (b1 : 1 ≤ H) (hk : 0 ≤ k) (hk' : k < inner W H) : ptY W k + 1 ≤ 2 * H := by
  obtain ⟨p1, p2, p3, _⟩ := pt_rows a1 hk
  by_cases h : ptY W k < 2 * H
  · omega
  · have := rowN_le a1 (by omega) (show 2 * H ≤ ptY W k by omega)
    rw [rowN_end] at this
    omega
theorem inner_bd {W H : Int} (hW : sideB W = true) (hH : sideB H = true) : 0 ≤ inner W H ∧ inner W H ≤ 112 := by
  obtain ⟨a1, a2⟩ := side_mk hW
  obtain ⟨b1, b2⟩ := side_mk hH
  unfold inner
  have p1 : 0 ≤ W * (H - 1) := Int.mul_nonneg (by omega) (by omega)
  have p2 : W * (H - 1) ≤ 8 * 7 := Int.mul_le_mul (by omega) (by omega) (by omega) (by omega)
  have q1 : 0 ≤ H * (W - 1) := Int.mul_nonneg (by omega) (by omega)
  have q2 : H * (W - 1) ≤ 8 * 7 := Int.mul_le_mul (by omega) (by omega) (by omega) (by omega)
  omega

def atC (W H : Int) (n : Nat) (f : Nat → Int) (k : Int) : Int := if validB W H n f then (if inB k 0 (n - 1) then 0 else 2) else 1
def atX (W H : Int) (n : Nat) (f : Nat → Int) (k : Int) : Int := if atC W H n f k = 0 then ptX W k else 0
def atY (W H : Int) (n : Nat) (f : Nat → Int) (k : Int) : Int := if atC W H n f k = 0 then ptY W k else 0
theorem at_bad {W H : Int} {n : Nat} {f : Nat → Int} {k : Int} (h : validB W H n f = false) : atX W H n f k = 0 ∧ atY W H n f k = 0 ∧ atC W H n f k = 1 := by simp [atX, atY, atC, h]
theorem at_out {W H : Int} {n : Nat} {f : Nat → Int} {k : Int} (h : validB W H n f = true) (h2 : inB k 0 (n - 1) = false) : atX W H n f k = 0 ∧ atY W H n f k = 0 ∧ atC W H n f k = 2 := by simp [atX, atY, atC, h, h2]
theorem at_in {W H : Int} {n : Nat} {f : Nat → Int} {k : Int} (h : validB W H n f = true) (h2 : inB k 0 (n - 1) = true) : atX W H n f k = ptX W k ∧ atY W H n f k = ptY W k ∧ atC W H n f k = 0 := by simp [atX, atY, atC, h, h2]

end Go.Proofs.Ytjgclemfehfgiaa.Base
