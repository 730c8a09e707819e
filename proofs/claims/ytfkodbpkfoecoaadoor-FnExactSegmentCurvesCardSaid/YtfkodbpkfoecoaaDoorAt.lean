/-
  PointAt, spec's and the program's.
-/
import Derived.Test.YtfkodbpkfoecoaaDoorNumB
namespace Go.Proofs.YtfkodbpkfoecoaaDoor.Base
open Go.RowKit
set_option linter.unusedVariables false

def ptX (W k : Int) : Int := if k % (2 * W - 1) < W - 1 then 2 * (k % (2 * W - 1)) + 2 else 2 * (k % (2 * W - 1) - (W - 1)) + 1
def ptY (W k : Int) : Int := if k % (2 * W - 1) < W - 1 then k / (2 * W - 1) * 2 + 1 else k / (2 * W - 1) * 2 + 1 + 1
theorem rowN_odd (W t : Int) : rowN W (2 * t + 1) = t * (2 * W - 1) := by
  unfold rowN
  have e1 : (2 * t + 1 - 1) * W = t * W + t * W := by rw [show 2 * t + 1 - 1 = t + t by omega, Int.add_mul]
  have e2 : t * (2 * W - 1) = t * W + t * W - t := by rw [Int.mul_sub, Int.mul_one, show 2 * W = W + W by omega, Int.mul_add]
  omega
theorem rowN_even (W t : Int) : rowN W (2 * t + 1 + 1) = t * (2 * W - 1) + (W - 1) := by
  unfold rowN
  have e1 : (2 * t + 1 + 1 - 1) * W = t * W + t * W + W := by rw [show 2 * t + 1 + 1 - 1 = t + t + 1 by omega, Int.add_mul, Int.add_mul, Int.one_mul]
  have e2 : t * (2 * W - 1) = t * W + t * W - t := by rw [Int.mul_sub, Int.mul_one, show 2 * W = W + W by omega, Int.mul_add]
  omega
theorem rowN_le {W : Int} (a1 : 1 ≤ W) {j k : Int} (hj : 1 ≤ j) (h : j ≤ k) : rowN W j ≤ rowN W k := by
  have := rowN_mono a1 j hj (k - j).toNat
  rwa [show j + ((k - j).toNat : Int) = k by omega] at this
/-- between which rows a number lies -/
theorem pt_rows {W k : Int} (a1 : 1 ≤ W) (hk : 0 ≤ k) : 1 ≤ ptY W k ∧ rowN W (ptY W k) ≤ k ∧ k < rowN W (ptY W k + 1) ∧ ptX W k = 2 * (k - rowN W (ptY W k)) + 1 + ptY W k % 2 := by
  have hd := Int.mul_ediv_add_emod k (2 * W - 1)
  have q0 : 0 ≤ k / (2 * W - 1) := Int.ediv_nonneg hk (by omega)
  have r0 : 0 ≤ k % (2 * W - 1) := Int.emod_nonneg _ (by omega)
  have r1 : k % (2 * W - 1) < 2 * W - 1 := Int.emod_lt_of_pos _ (by omega)
  rw [Int.mul_comm] at hd
  have e1 := rowN_odd W (k / (2 * W - 1))
  have e2 := rowN_even W (k / (2 * W - 1))
  have e3 := rowN_odd W (k / (2 * W - 1) + 1)
  rw [Int.add_mul, Int.one_mul] at e3
  unfold ptY ptX
  generalize k / (2 * W - 1) = q at *
  generalize k % (2 * W - 1) = r at *
  generalize hp : q * (2 * W - 1) = p at *
  by_cases h : r < W - 1
  · simp only [if_pos h]
    rw [show q * 2 + 1 = 2 * q + 1 by omega, e1, e2]
    omega
  · simp only [if_neg h]
    rw [show q * 2 + 1 + 1 = 2 * q + 1 + 1 by omega, e2, show 2 * q + 1 + 1 + 1 = 2 * (q + 1) + 1 by omega, e3]
    omega
theorem pt_only {W H k y : Int} (a1 : 1 ≤ W) (b1 : 1 ≤ H) (hk : 0 ≤ k) (hk' : k < inner W H) (h1 : 1 ≤ y) (h2 : y + 1 ≤ 2 * H) (h3 : rowN W y ≤ k) (h4 : y + 1 = 2 * H ∨ k < rowN W (y + 1)) : y = ptY W k := by
  obtain ⟨p1, p2, p3, _⟩ := pt_rows a1 hk
  rcases Int.lt_trichotomy y (ptY W k) with h | h | h
  · exfalso
    rcases h4 with h4 | h4
    · have := rowN_le a1 (by omega) (show 2 * H ≤ ptY W k by omega)
      rw [rowN_end] at this
      omega
    · have := rowN_le a1 (by omega) (show y + 1 ≤ ptY W k by omega)
      omega
  · exact h
  · exfalso
    have := rowN_le a1 (by omega) (show ptY W k + 1 ≤ y by omega)
    omega
theorem pt_end {W H k : Int} (a1 : 1 ≤ W) (b1 : 1 ≤ H) (hk : 0 ≤ k) (hk' : k < inner W H) : ptY W k + 1 ≤ 2 * H := by
  obtain ⟨p1, p2, p3, _⟩ := pt_rows a1 hk
  by_cases h : ptY W k < 2 * H
  · omega
  · have := rowN_le a1 (by omega) (show 2 * H ≤ ptY W k by omega)
    rw [rowN_end] at this
    omega
theorem inner_bd {W H : Int} (hW : sideB W = true) (hH : sideB H = true) : 0 ≤ inner W H ∧ inner W H ≤ 112 := by
  obtain ⟨a1, a2⟩ := side_mk hW
  obtain ⟨b1, b2⟩ := side_mk hH
  unfold inner
  have p1 : 0 ≤ W * (H - 1) := Int.mul_nonneg (by omega) (by omega)
  have p2 : W * (H - 1) ≤ 8 * 7 := Int.mul_le_mul (by omega) (by omega) (by omega) (by omega)
  have q1 : 0 ≤ H * (W - 1) := Int.mul_nonneg (by omega) (by omega)
  have q2 : H * (W - 1) ≤ 8 * 7 := Int.mul_le_mul (by omega) (by omega) (by omega) (by omega)
  omega

theorem specPoint (w : World) (p : Nat) (W H : Int) (A : Option Addr) (n c : Nat) (k : Int) (hb : Box w p W H A n c) (hW : sideB W = true) (hH : sideB H = true) (k1 : 0 ≤ k) (k2 : k < inner W H) :
    Calls Tryd.prog 97 #[.pointer (some ⟨p, 0, none⟩), .int .i64 k] w (Gives (.agg #[.int .i64 (ptX W k), .int .i64 (ptY W k)]) w) := by
  obtain ⟨a1, a2⟩ := side_mk hW
  obtain ⟨b1, b2⟩ := side_mk hH
  obtain ⟨i1, i2⟩ := inner_bd hW hH
  have HX := Lib.hid (hb.below ((Below.refl w.heap.size w).alloc (Nat.le_refl _) (.cells #[.int .i64 0, .int .i64 0] 28)) hb.1)
  have c1 := hb.2.2.1
  have hp := hb.1
  clear hb
  go_enter Tryd.func97, Tryd.ntmps97
  go_wp2
  go_loop [5] (fun s => ∃ y : Int, 1 ≤ y ∧ y + 1 ≤ 2 * H ∧ s = .int .i64 y ∧ rowN W y ≤ k) (fun s => (2 * H - intOf s).toNat)
  case atStart => exact ⟨1, by omega, by omega, rfl, by rw [rowN_one]; exact k1⟩
  case round =>
    obtain ⟨y, y1, y2, rfl, hle⟩ := hrel
    obtain ⟨s1, s2⟩ := rowN_bd a1 a2 y1 (by omega)
    by_cases hlt : y + 1 < 2 * H
    · obtain ⟨t1, t2⟩ := rowN_bd a1 a2 (show 1 ≤ y + 1 by omega) (by omega)
      by_cases hr : rowN W (y + 1) ≤ k
      · go_wp2_with fail
        refine (specRow _ p W H A n c (y + 1) HX.out hW (by omega) (by omega)).mono ?_
        rintro e w1 ⟨rfl, rfl⟩
        go_wp2
        go_round
        case rel => exact ⟨y + 1, by omega, by omega, rfl, hr⟩
        case measure => simp [intOf]; omega
      · have hy := pt_only a1 b1 k1 k2 y1 y2 hle (.inr (by omega))
        have hx := (pt_rows a1 k1).2.2.2
        rw [← hy] at hx
        have HY := Lib.hid hy
        have HXX := Lib.hid hx
        clear hy hx
        go_wp2_with fail
        refine (specRow _ p W H A n c (y + 1) HX.out hW (by omega) (by omega)).mono ?_
        rintro e w1 ⟨rfl, rfl⟩
        go_wp2_with fail
        refine (specRow _ p W H A n c y HX.out hW (by omega) (by omega)).mono ?_
        rintro e w1 ⟨rfl, rfl⟩
        go_wp2
        refine bodyPost_ret (v := .agg #[.int .i64 (2 * (k - rowN W y) + 1 + y % 2), .int .i64 y]) (by simp [results, Tryd.results97, go_sem]) rfl ⟨by rw [HXX.out, ← HY.out], by go_grown⟩
    · have hy := pt_only a1 b1 k1 k2 y1 y2 hle (.inl (by omega))
      have hx := (pt_rows a1 k1).2.2.2
      rw [← hy] at hx
      have HY := Lib.hid hy
      have HXX := Lib.hid hx
      clear hy hx
      go_wp2_with fail
      refine (specRow _ p W H A n c y HX.out hW (by omega) (by omega)).mono ?_
      rintro e w1 ⟨rfl, rfl⟩
      go_wp2
      refine bodyPost_ret (v := .agg #[.int .i64 (2 * (k - rowN W y) + 1 + y % 2), .int .i64 y]) (by simp [results, Tryd.results97, go_sem]) rfl ⟨by rw [HXX.out, ← HY.out], by go_grown⟩

theorem pointAt_any (w : World) (W H k : Int) (hW : sideB W = true) (k1 : 0 ≤ k) (k2 : k ≤ 112) :
    Calls Tryd.prog 149 #[.agg #[.int .i64 W, .int .i64 H], .int .i64 k] w (Gives (.agg #[.int .i64 (ptX W k), .int .i64 (ptY W k)]) w) := by
  obtain ⟨a1, a2⟩ := side_mk hW
  have d0 : 1 ≤ 2 * W - 1 := by omega
  have q0 : 0 ≤ k / (2 * W - 1) := Int.ediv_nonneg k1 (by omega)
  have q1 : k / (2 * W - 1) ≤ 112 := Int.le_trans (Int.ediv_le_self _ k1) k2
  have r0 : 0 ≤ k % (2 * W - 1) := Int.emod_nonneg _ (by omega)
  have r1 : k % (2 * W - 1) < 2 * W - 1 := Int.emod_lt_of_pos _ (by omega)
  have HD := Lib.hid (Dot.new w 120 W H)
  have HZ := Lib.hid (Dot.new (w.alloc (.cells #[.int .i64 W, .int .i64 H] 120)) 28 0 0)
  by_cases h : k % (2 * W - 1) < W - 1
  all_goals
    have ex : ptX W k = ptX W k := rfl
    have ey : ptY W k = ptY W k := rfl
    first | (conv at ex => rhs; unfold ptX; rw [if_pos h]) | (conv at ex => rhs; unfold ptX; rw [if_neg h])
    first | (conv at ey => rhs; unfold ptY; rw [if_pos h]) | (conv at ey => rhs; unfold ptY; rw [if_neg h])
    have EX := Lib.hid ex
    have EY := Lib.hid ey
    clear ex ey
    go_enter Tryd.func149, Tryd.ntmps149
    go_wp2_with fail
    refine (twoRows_any _ W H hW).mono ?_
    rintro e w1 ⟨rfl, b1⟩
    have D1 := (HD.out.below (((Below.refl (w.alloc (.cells #[.int .i64 W, .int .i64 H] 120)).heap.size _).alloc (Nat.le_refl _) (.cells #[.int .i64 0, .int .i64 0] 28)).trans (b1.mono (by simp))) (by simp))
    have Z1 := HZ.out.below b1 (by simp)
    have B1 : Below w.heap.size w w1 := (((Below.refl _ _).alloc (Nat.le_refl _) _).alloc (by simp) _).trans (b1.mono (by simp; omega))
    have F1 : w1.frozen? ⟨w.heap.size + 1, 0, none⟩ = false ∧ w1.frozen? ⟨w.heap.size + 1, 1, none⟩ = false := ⟨by rw [b1.frozen (p := ⟨w.heap.size + 1, 0, none⟩) (by simp)]; simp [go_sem], by rw [b1.frozen (p := ⟨w.heap.size + 1, 1, none⟩) (by simp)]; simp [go_sem]⟩
    simp only [World.size_alloc] at Z1
    have HD1 := Lib.hid D1
    have HZ1 := Lib.hid Z1
    have HB1 := Lib.hid B1
    have HF1 := Lib.hid F1
    clear D1 Z1 B1 F1 b1
    obtain ⟨-, m0, m1⟩ := id HD1.out
    go_wp2_with fail
    refine (twoRows_any _ W H hW).mono ?_
    rintro e w2 ⟨rfl, b2⟩
    clear m0 m1
    obtain ⟨-, m0, m1⟩ := HD1.out.below b2 HD1.out.1
    obtain ⟨-, n0, n1⟩ := HZ1.out.below b2 HZ1.out.1
    have f0 : w2.frozen? ⟨w.heap.size + 1, 0, none⟩ = false := (b2.frozen (p := ⟨w.heap.size + 1, 0, none⟩) HZ1.out.1).trans HF1.out.1
    have f1 : w2.frozen? ⟨w.heap.size + 1, 1, none⟩ = false := (b2.frozen (p := ⟨w.heap.size + 1, 1, none⟩) HZ1.out.1).trans HF1.out.2
    have HB2 := Lib.hid (HB1.out.trans (b2.mono HB1.out.size))
    clear b2
    go_wp2
    rw [EX.out, EY.out]
    refine bodyPost_ret ?_ rfl ⟨rfl, (HB2.out.setCell (by simp) _).setCell (by simp) _⟩
    simp [results, Tryd.results149, go_sem, n0, n1]

def atC (W H : Int) (n : Nat) (f : Nat → Int) (k : Int) : Int := if validB W H n f then (if inB k 0 (n - 1) then 0 else 2) else 1
def atX (W H : Int) (n : Nat) (f : Nat → Int) (k : Int) : Int := if atC W H n f k = 0 then ptX W k else 0
def atY (W H : Int) (n : Nat) (f : Nat → Int) (k : Int) : Int := if atC W H n f k = 0 then ptY W k else 0
theorem at_bad {W H : Int} {n : Nat} {f : Nat → Int} {k : Int} (h : validB W H n f = false) : atX W H n f k = 0 ∧ atY W H n f k = 0 ∧ atC W H n f k = 1 := by simp [atX, atY, atC, h]
theorem at_out {W H : Int} {n : Nat} {f : Nat → Int} {k : Int} (h : validB W H n f = true) (h2 : inB k 0 (n - 1) = false) : atX W H n f k = 0 ∧ atY W H n f k = 0 ∧ atC W H n f k = 2 := by simp [atX, atY, atC, h, h2]
theorem at_in {W H : Int} {n : Nat} {f : Nat → Int} {k : Int} (h : validB W H n f = true) (h2 : inB k 0 (n - 1) = true) : atX W H n f k = ptX W k ∧ atY W H n f k = ptY W k ∧ atC W H n f k = 0 := by simp [atX, atY, atC, h, h2]

theorem spec_pointAt (w : World) (W H : Int) (A : Option Addr) (n c : Nat) (f : Nat → Int) (k : Int) (hr : Row .i64 w A n c f) :
    Calls Tryd.prog 36 #[.agg #[.int .i64 W, .int .i64 H, .slice A n c], .int .i64 k] w (Gives (.tuple #[.agg #[.int .i64 (atX W H n f k), .int .i64 (atY W H n f k)], .int .i64 (atC W H n f k)]) w) := by
  have HR := Lib.hid hr
  clear hr
  have hbel : Below w.heap.size w ((w.alloc (.cells #[.int .i64 W, .int .i64 H, .slice A n c] 26)).alloc (.cells #[.int .i64 0, .int .i64 0] 28)) := by go_grown
  have HL := Lib.hid hbel
  have HX := Lib.hid (two_boxes w 26 28 W H A n c 0 0)
  have hcm := HR.out.2.1
  have hnc := HR.out.1
  unfold maxLen at hcm
  clear hbel
  cases hv : validB W H n f
  · rw [(at_bad hv).1, (at_bad hv).2.1, (at_bad hv).2.2]
    have HV := Lib.hid hv
    clear hv
    go_enter Tryd.func36, Tryd.ntmps36
    go_wp2_with fail
    refine (specOk_is HV.out HX.out (HR.out.below HL.out (Nat.le_refl _))).mono ?_
    rintro e w1 ⟨m, rfl, rfl⟩
    go_wp2
    refine bodyPost_ret ?_ rfl ⟨rfl, ((below_drewN HL.out m).setCell (by simp) _).setCell (by simp) _⟩
    simp [results, Tryd.results36, go_sem]
  · have HV := Lib.hid hv
    obtain ⟨hW, hH, hin, -⟩ := validB_yes hv
    cases hk : inB k 0 (n - 1)
    · rw [(at_out hv hk).1, (at_out hv hk).2.1, (at_out hv hk).2.2]
      have HK := Lib.hid hk
      clear hv hk hin
      go_enter Tryd.func36, Tryd.ntmps36
      go_wp2_with fail
      refine (specOk_is HV.out HX.out (HR.out.below HL.out (Nat.le_refl _))).mono ?_
      rintro e w1 ⟨m, rfl, rfl⟩
      go_wp2_with fail
      refine (in_is HK.out _).mono ?_
      rintro e w1 ⟨rfl, rfl⟩
      go_wp2
      refine bodyPost_ret ?_ rfl ⟨rfl, ((below_drewN HL.out m).setCell (by simp) _).setCell (by simp) _⟩
      simp [results, Tryd.results36, go_sem]
    · rw [(at_in hv hk).1, (at_in hv hk).2.1, (at_in hv hk).2.2]
      obtain ⟨k1, k2⟩ := in_yes hk
      have k3 : k < inner W H := by omega
      have HK := Lib.hid hk
      have HIN := Lib.hid hin
      clear hv hk hin
      go_enter Tryd.func36, Tryd.ntmps36
      go_wp2_with fail
      refine (specOk_is HV.out HX.out (HR.out.below HL.out (Nat.le_refl _))).mono ?_
      rintro e w1 ⟨m, rfl, rfl⟩
      go_wp2_with fail
      refine (in_is HK.out _).mono ?_
      rintro e w1 ⟨rfl, rfl⟩
      go_wp2_with fail
      refine (specPoint _ w.heap.size W H A n c k (HX.out.below (below_of_drew rfl) (by simp; omega)) hW hH k1 k3).mono ?_
      rintro e w1 ⟨rfl, b1⟩
      have q0 : w1.cell? ⟨w.heap.size + 1, 0, none⟩ = some (.int .i64 0) := by rw [b1.cell (p := ⟨w.heap.size + 1, 0, none⟩) (by simp)]; simp [go_sem]
      have q1 : w1.cell? ⟨w.heap.size + 1, 1, none⟩ = some (.int .i64 0) := by rw [b1.cell (p := ⟨w.heap.size + 1, 1, none⟩) (by simp)]; simp [go_sem]
      have f0 : w1.frozen? ⟨w.heap.size + 1, 0, none⟩ = false := by rw [b1.frozen (p := ⟨w.heap.size + 1, 0, none⟩) (by simp)]; simp [go_sem]
      have f1 : w1.frozen? ⟨w.heap.size + 1, 1, none⟩ = false := by rw [b1.frozen (p := ⟨w.heap.size + 1, 1, none⟩) (by simp)]; simp [go_sem]
      have HB := Lib.hid ((below_drewN HL.out m).trans (b1.mono (by simp; omega)))
      clear b1
      go_wp2
      refine bodyPost_ret ?_ rfl ⟨rfl, (HB.out.setCell (by simp) _).setCell (by simp) _⟩
      simp [results, Tryd.results36, go_sem, q0, q1]

theorem eqPoint_same (w : World) (x y : Int) :
    Calls Tryd.prog 109 #[.agg #[.int .i64 x, .int .i64 y], .agg #[.int .i64 x, .int .i64 y]] w (Gives (.bool true) w) := by
  have e1 : (x == x) = true := beq_self_eq_true _
  have e2 : (y == y) = true := beq_self_eq_true _
  go_enter Tryd.func109, Tryd.ntmps109
  go_wp2
  go_ret
  exact ⟨rfl, by go_grown⟩
end Go.Proofs.YtfkodbpkfoecoaaDoor.Base
