/-
  PointAt, spec's and the program's.
-/
import Derived.Test.YtcnhgfgjmdbddaaNumB
namespace Go.Proofs.Ytcnhgfgjmdbddaa.Base
open Go.RowKit
set_option linter.unusedVariables false

def ptX (W k : Int) : Int := if k % (2 * W - 1) < W - 1 then 2 * (k % (2 * W - 1)) + 2 else 2 * (k % (2 * W - 1) - (W - 1)) + 1
def ptY (W k : Int) : Int := if k % (2 * W - 1) < W - 1 then k / (2 * W - 1) * 2 + 1 else k / (2 * W - 1) * 2 + 1 + 1
theorem rowN_odd (W t : Int) : rowN W (2 * t + 1) = t * (2 * W - 1) := by
  unfold rowN
  have e1 : (2 * t + 1 - 1) * W = t * W + t * W := by rw [show 2 * t + 1 - 1 = t + t by omega, Int.add_mul]
  have e2 : t * (2 * W - 1) = t * W + t * W - t := by rw [Int.mul_sub, Int.mul_one, show 2 * W = W + W by omega, Int.mul_add]
  omega
theorem rowN_even (W t : Int) : rowN W (2 * t + 1 + 1) = t * (2 * W - 1) + (W - 1) := by
  unfold rowN
  have e1 : (2 * t + 1 + 1 - 1) * W = t * W + t * W + W := by rw [show 2 * t + 1 + 1 - 1 = t + t + 1 by omega, Int.add_mul, Int.add_mul, Int.one_mul]
  have e2 : t * (2 * W - 1) = t * W + t * W - t := by rw [Int.mul_sub, Int.mul_one, show 2 * W = W + W by omega, Int.mul_add]
  omega
theorem rowN_le {W : Int} (a1 : 1 ≤ W) {j k : Int} (hj : 1 ≤ j) (h : j ≤ k) : rowN W j ≤ rowN W k := by
  have := rowN_mono a1 j hj (k - j).toNat
  rwa [show j + ((k - j).toNat : Int) = k by omega] at this
/-- between which rows a number lies -/
theorem pt_rows {W k : Int} (a1 : 1 ≤ W) (hk : 0 ≤ k) : 1 ≤ ptY W k ∧ rowN W (ptY W k) ≤ k ∧ k < rowN W (ptY W k + 1) ∧ ptX W k = 2 * (k - rowN W (ptY W k)) + 1 + ptY W k % 2 := by
  have hd := Int.mul_ediv_add_emod k (2 * W - 1)
  have q0 : 0 ≤ k / (2 * W - 1) := Int.ediv_nonneg hk (by omega)
  have r0 : 0 ≤ k % (2 * W - 1) := Int.emod_nonneg _ (by omega)
  have r1 : k % (2 * W - 1) < 2 * W - 1 := Int.emod_lt_of_pos _ (by omega)
  rw [Int.mul_comm] at hd
  have e1 := rowN_odd W (k / (2 * W - 1))
  have e2 := rowN_even W (k / (2 * W - 1))
  have e3 := rowN_odd W (k / (2 * W - 1) + 1)
  rw [Int.add_mul, Int.one_mul] at e3
  unfold ptY ptX
  generalize k / (2 * W - 1) = q at *
  generalize k % (2 * W - 1) = r at *
  generalize hp : q * (2 * W - 1) = p at *
  by_cases h : r < W - 1
  · simp only [if_pos h]
    rw [show q * 2 + 1 = 2 * q + 1 by omega, e1, e2]
    omega
  · simp only [if_neg h]
    rw [show q * 2 + 1 + 1 = 2 * q + 1 + 1 by omega, e2, show 2 * q + 1 + 1 + 1 = 2 * (q + 1) + 1 by omega, e3]
    omega
theorem pt_only {W H k y : Int} (a1 : 1 ≤ W) (b1 : 1 ≤ H) (hk : 0 ≤ k) (hk' : k < inner W H) (h1 : 1 ≤ y) (h2 : y + 1 ≤ 2 * H) (h3 : rowN W y ≤ k) (h4 : y + 1 = 2 * H ∨ k < rowN W (y + 1)) : y = ptY W k := by
  obtain ⟨p1, p2, p3, _⟩ := pt_rows a1 hk
  rcases Int.lt_trichotomy y (ptY W k) with h | h | h
  · exfalso
    rcases h4 with h4 | h4
    · have := rowN_le a1 (by omega) (show 2 * H ≤ ptY W k by omega)
      rw [rowN_end] at this
      omega
    · have := rowN_le a1 (by omega) (show y + 1 ≤ ptY W k by omega)
      omega
  · exact h
  · exfalso
    have := rowN_le a1 (by omega) (show ptY W k + 1 ≤ y by omega)
    omega
theorem pt_end {W H k : Int} (a1 : 1 ≤ W) (b1 : 1 ≤ H) (hk : 0 ≤ k) (hk' : k < inner W H) : ptY W k + 1 ≤ 2 * H := by
  obtain ⟨p1, p2, p3, _⟩ := pt_rows a1 hk
  by_cases h : ptY W k < 2 * H
  · omega
  · have := rowN_le a1 (by omega) (show 2 * H ≤ ptY W k by omega)
    rw [rowN_end] at this
    omega
theorem inner_bd {W H : Int} (hW : sideB W = true) (hH : sideB H = true) : 0 ≤ inner W H ∧ inner W H ≤ 112 := by
  obtain ⟨a1, a2⟩ := side_mk hW
  obtain ⟨b1, b2⟩ := side_mk hH
  unfold inner
  have p1 : 0 ≤ W * (H - 1) := Int.mul_nonneg (by omega) (by omega)
  have p2 : W * (H - 1) ≤ 8 * 7 := Int.mul_le_mul (by omega) (by omega) (by omega) (by omega)
  have q1 : 0 ≤ H * (W - 1) := Int.mul_nonneg (by omega) (by omega)
  have q2 : H * (W - 1) ≤ 8 * 7 := Int.mul_le_mul (by omega) (by omega) (by omega) (by omega)
  omega

def atC (W H : Int) (n : Nat) (f : Nat → Int) (k : Int) : Int := if validB W H n f then (if inB k 0 (n - 1) then 0 else 2) else 1
def atX (W H : Int) (n : Nat) (f : Nat → Int) (k : Int) : Int := if atC W H n f k = 0 then ptX W k else 0
def atY (W H : Int) (n : Nat) (f : Nat → Int) (k : Int) : Int := if atC W H n f k = 0 then ptY W k else 0
theorem at_bad {W H : Int} {n : Nat} {f : Nat → Int} {k : Int} (h : validB W H n f = false) : atX W H n f k = 0 ∧ atY W H n f k = 0 ∧ atC W H n f k = 1 := by simp [atX, atY, atC, h]
theorem at_out {W H : Int} {n : Nat} {f : Nat → Int} {k : Int} (h : validB W H n f = true) (h2 : inB k 0 (n - 1) = false) : atX W H n f k = 0 ∧ atY W H n f k = 0 ∧ atC W H n f k = 2 := by simp [atX, atY, atC, h, h2]
theorem at_in {W H : Int} {n : Nat} {f : Nat → Int} {k : Int} (h : validB W H n f = true) (h2 : inB k 0 (n - 1) = true) : atX W H n f k = ptX W k ∧ atY W H n f k = ptY W k ∧ atC W H n f k = 0 := by simp [atX, atY, atC, h, h2]

theorem eqPoint_same (w : World) (x y : Int) :
    Calls Try.prog 64 #[.agg #[.int .i64 x, .int .i64 y], .agg #[.int .i64 x, .int .i64 y]] w (Gives (.bool true) w) := by
  have e1 : (x == x) = true := beq_self_eq_true _
  have e2 : (y == y) = true := beq_self_eq_true _
  go_enter Try.func64, Try.ntmps64
  go_wp2
  go_ret
  exact ⟨rfl, by go_grown⟩
end Go.Proofs.Ytcnhgfgjmdbddaa.Base
