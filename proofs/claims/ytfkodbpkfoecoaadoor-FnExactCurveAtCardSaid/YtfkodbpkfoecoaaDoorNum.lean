/-
  Numbers of inner points, spec's and the program's.
-/
import Derived.Test.YtfkodbpkfoecoaaDoorPtB
namespace Go.Proofs.YtfkodbpkfoecoaaDoor.Base
open Go.RowKit
set_option linter.unusedVariables false

/-- the number of the first inner point with some Y -/
def rowN (W y : Int) : Int := (y - 1) * W - y / 2
def numN (W x y : Int) : Int := rowN W y + (x - 1) / 2
theorem rowN_one (W : Int) : rowN W 1 = 0 := by simp [rowN]
theorem rowN_succ (W k : Int) (h : 1 ≤ k) : rowN W (k + 1) = rowN W k + W - (if k % 2 = 1 then 1 else 0) := by
  unfold rowN
  have e : (k + 1 - 1) * W = (k - 1) * W + W := by rw [show k + 1 - 1 = (k - 1) + 1 by omega, Int.add_mul, Int.one_mul]
  rw [e]
  split <;> omega
theorem rowN_bd {W k : Int} (h1 : 1 ≤ W) (h2 : W ≤ 8) (h3 : 1 ≤ k) (h4 : k ≤ 16) : 0 ≤ rowN W k ∧ rowN W k ≤ 120 := by
  unfold rowN
  have p1 : (k - 1) * 1 ≤ (k - 1) * W := Int.mul_le_mul_of_nonneg_left h1 (by omega)
  have p2 : (k - 1) * W ≤ 15 * 8 := Int.mul_le_mul (by omega) h2 (by omega) (by omega)
  omega

theorem specRow (w : World) (p : Nat) (W H : Int) (A : Option Addr) (n c : Nat) (y : Int) (hb : Box w p W H A n c) (hW : sideB W = true) (y1 : 1 ≤ y) (y2 : y ≤ 16) :
    Calls Tryd.prog 150 #[.pointer (some ⟨p, 0, none⟩), .int .i64 y] w fun e w' => e = .returned (.int .i64 (rowN W y)) ∧ w = w' := by
  obtain ⟨hp, k0, k1, k2⟩ := hb
  obtain ⟨a1, a2⟩ := side_mk hW
  clear hW
  go_enter Tryd.func150, Tryd.ntmps150
  go_wp2
  go_loop [5, 6] (fun s t => ∃ k r : Int, 1 ≤ k ∧ k ≤ y ∧ 0 ≤ r ∧ r ≤ 120 ∧ t = .int .i64 k ∧ s = .int .i64 r ∧ Hid (r = rowN W k)) (fun _ t => (y - intOf t).toNat)
  case atStart => exact ⟨1, 0, by omega, by omega, by omega, by omega, rfl, rfl, Lib.hid (rowN_one W).symm⟩
  case round =>
    obtain ⟨k, r, hk1, hk2, hr1, hr2, rfl, rfl, HR⟩ := hrel
    by_cases hlt : k < y
    · have hs := rowN_succ W k hk1
      have hb := rowN_bd a1 a2 (show 1 ≤ k + 1 by omega) (by omega)
      by_cases hm : k % 2 = 1
      · rw [if_pos hm, ← HR.out] at hs
        have HS := Lib.hid hs
        have HB := Lib.hid hb
        have hmb : (k % 2 == 1) = true := beq_iff_eq.2 hm
        clear hs hb hm
        go_wp2
        go_round
        case rel => exact ⟨k + 1, r + W - 1, by omega, by omega, by rw [← HS.out]; exact HB.out.1, by rw [← HS.out]; exact HB.out.2, rfl, rfl, Lib.hid HS.out.symm⟩
        case measure => simp [intOf]; omega
      · rw [if_neg hm, ← HR.out] at hs
        have HS := Lib.hid hs
        have HB := Lib.hid hb
        have hmb : (k % 2 == 1) = false := beq_eq_false_iff_ne.2 hm
        clear hs hb hm
        go_wp2
        go_round
        case rel => exact ⟨k + 1, r + W, by omega, by omega, by rw [← Int.sub_zero (r + W), ← HS.out]; exact HB.out.1, by rw [← Int.sub_zero (r + W), ← HS.out]; exact HB.out.2, rfl, rfl, Lib.hid (by rw [HS.out, Int.sub_zero])⟩
        case measure => simp [intOf]; omega
    · have e : k = y := by omega
      subst e
      go_wp2
      go_ret
      exact ⟨ret_int HR.out, rfl⟩

theorem numN_bd {W H x y : Int} (a1 : 1 ≤ W) (a2 : W ≤ 8) (x1 : 1 ≤ x) (x2 : x ≤ 16) (y1 : 1 ≤ y) (y2 : y ≤ 16) : 0 ≤ numN W x y ∧ numN W x y ≤ 128 := by
  have := rowN_bd a1 a2 y1 y2
  unfold numN
  omega
theorem specNumber (w : World) (p : Nat) (W H : Int) (A : Option Addr) (n c : Nat) (x y : Int) (hb : Box w p W H A n c) (hW : sideB W = true) (x1 : 1 ≤ x) (x2 : x ≤ 16) (y1 : 1 ≤ y) (y2 : y ≤ 16) :
    Calls Tryd.prog 157 #[.pointer (some ⟨p, 0, none⟩), .agg #[.int .i64 x, .int .i64 y]] w (Gives (.int .i64 (numN W x y)) w) := by
  have HB := Lib.hid hb
  obtain ⟨a1, a2⟩ := side_mk hW
  have hr := rowN_bd a1 a2 y1 y2
  clear hb
  go_enter Tryd.func157, Tryd.ntmps157
  go_wp2
  have HX := Lib.hid (HB.out.below ((Below.refl w.heap.size w).alloc (Nat.le_refl _) (.cells #[.int .i64 x, .int .i64 y] 28)) HB.out.1)
  go_quiet ((go_at_call 150; exact quiet_left (specRow _ p W H A n c y (HX.out.below (below_of_drew rfl) HX.out.1) hW y1 y2)))
  go_wp2
  go_ret
  exact ⟨rfl, below_drewN (by go_grown) _⟩

/-- the program's way to the same number -/
theorem numN_rows (W x y : Int) (y1 : 1 ≤ y) : numN W x y = (y - 1) / 2 * (2 * W - 1) + (if y % 2 = 0 then W - 1 else 0) + (x - 1) / 2 := by
  unfold numN rowN
  have e1 : (y - 1) / 2 * (2 * W - 1) = (y - 1) / 2 * W + (y - 1) / 2 * W - (y - 1) / 2 := by
    rw [Int.mul_sub, Int.mul_one, ← Int.mul_assoc, Int.mul_comm _ 2, Int.mul_assoc]; omega
  have e2 : (y - 1) * W = (y - 1) / 2 * W + (y - 1) / 2 * W + (if y % 2 = 0 then W else 0) := by
    have h : y - 1 = (y - 1) / 2 + (y - 1) / 2 + (if y % 2 = 0 then 1 else 0) := by split <;> omega
    conv => lhs; rw [h]
    rw [Int.add_mul, Int.add_mul]
    split <;> simp
  rw [e1, e2]
  split <;> omega

theorem twoRows_any (w : World) (W H : Int) (hW : sideB W = true) :
    Calls Tryd.prog 162 #[.agg #[.int .i64 W, .int .i64 H]] w (Gives (.int .i64 (2 * W - 1)) w) := by
  obtain ⟨a1, a2⟩ := side_mk hW
  clear hW
  go_enter Tryd.func162, Tryd.ntmps162
  go_wp2
  go_ret
  exact ⟨rfl, by go_grown⟩

theorem keep4 {w w1 w2 : World} {p q r p' : Addr} {u v x u' : Value} (h : w1.cell? p = some u ∧ w1.cell? q = some v ∧ w1.cell? r = some x ∧ w1.cell? p' = some u' ∧ Below w.heap.size w w1)
    (b : Below w1.heap.size w1 w2) : w2.cell? p = some u ∧ w2.cell? q = some v ∧ w2.cell? r = some x ∧ w2.cell? p' = some u' ∧ Below w.heap.size w w2 :=
  ⟨(b.cell (World.block_lt_of_cell? _ _ h.1)).trans h.1, (b.cell (World.block_lt_of_cell? _ _ h.2.1)).trans h.2.1, (b.cell (World.block_lt_of_cell? _ _ h.2.2.1)).trans h.2.2.1, (b.cell (World.block_lt_of_cell? _ _ h.2.2.2.1)).trans h.2.2.2.1, h.2.2.2.2.trans (b.mono h.2.2.2.2.size)⟩

theorem numberOf_any (w : World) (W H x y : Int) (hW : sideB W = true) (x1 : 1 ≤ x) (x2 : x ≤ 16) (y1 : 1 ≤ y) (y2 : y ≤ 16) :
    Calls Tryd.prog 120 #[.agg #[.int .i64 W, .int .i64 H], .agg #[.int .i64 x, .int .i64 y]] w (Gives (.int .i64 (numN W x y)) w) := by
  obtain ⟨a1, a2⟩ := side_mk hW
  have hn := numN_rows W x y y1
  have m0 : 0 ≤ (y - 1) / 2 * (2 * W - 1) := Int.mul_nonneg (by omega) (by omega)
  have m1 : (y - 1) / 2 * (2 * W - 1) ≤ 7 * 15 := Int.mul_le_mul (by omega) (by omega) (by omega) (by omega)
  have ew : IntKind.i64.wrap (IntKind.i64.wrap ((IntKind.i64.wrap (y - 1)).tdiv 2) * (2 * W - 1)) = (y - 1) / 2 * (2 * W - 1) := by
    rw [IntWalk.i64_in (y - 1) ⟨by omega, by omega⟩, Int.tdiv_eq_ediv_of_nonneg (by omega), IntWalk.i64_in ((y - 1) / 2) ⟨by omega, by omega⟩, IntWalk.i64_in _ ⟨by omega, by omega⟩]
  have EW := Lib.hid ew
  clear ew
  by_cases hm : y % 2 = 0
  · have hmb : (y % 2 == 0) = true := beq_iff_eq.2 hm
    rw [if_pos hm] at hn
    have HN := Lib.hid hn
    clear hn hm
    go_enter Tryd.func120, Tryd.ntmps120
    go_wp2
    have D0 := (Dot.new w 120 W H).below ((Below.refl (w.alloc (.cells #[.int .i64 W, .int .i64 H] 120)).heap.size _).alloc (Nat.le_refl _) (.cells #[.int .i64 x, .int .i64 y] 28)) (by simp)
    have D1 := Dot.new (w.alloc (.cells #[.int .i64 W, .int .i64 H] 120)) 28 x y
    simp only [World.size_alloc] at D1
    have hbel : Below w.heap.size w ((w.alloc (.cells #[.int .i64 W, .int .i64 H] 120)).alloc (.cells #[.int .i64 x, .int .i64 y] 28)).drew := by go_grown
    have ST := Lib.hid (show _ ∧ _ ∧ _ ∧ _ ∧ _ from And.intro D0.2.1 (And.intro D0.2.2 (And.intro D1.2.1 (And.intro D1.2.2 hbel))))
    clear D0 D1 hbel
    go_region_held3 (fun w' => w'.cell? ⟨w.heap.size, 0, none⟩ = some (.int .i64 W) ∧ w'.cell? ⟨w.heap.size, 1, none⟩ = some (.int .i64 H) ∧ w'.cell? ⟨w.heap.size + 1, 0, none⟩ = some (.int .i64 x) ∧ w'.cell? ⟨w.heap.size + 1, 1, none⟩ = some (.int .i64 y) ∧ Below w.heap.size w w')
      (first | exact ST.out | exact keep4 (by assumption) (by assumption))
      (first | (go_at_call 162; refine (twoRows_any _ W H hW).mono ?_; rintro e w1 ⟨rfl, b1⟩))
    rename_i hS
    obtain ⟨k0, k1, k2, k3, hB⟩ := hS
    simp only [EW.out]
    go_wp2
    go_ret
    exact ⟨ret_int HN.out.symm, hB⟩
  · have hmb : (y % 2 == 0) = false := beq_eq_false_iff_ne.2 hm
    rw [if_neg hm, Int.add_zero] at hn
    have HN := Lib.hid hn
    clear hn hm
    go_enter Tryd.func120, Tryd.ntmps120
    go_wp2
    have D0 := (Dot.new w 120 W H).below ((Below.refl (w.alloc (.cells #[.int .i64 W, .int .i64 H] 120)).heap.size _).alloc (Nat.le_refl _) (.cells #[.int .i64 x, .int .i64 y] 28)) (by simp)
    have D1 := Dot.new (w.alloc (.cells #[.int .i64 W, .int .i64 H] 120)) 28 x y
    simp only [World.size_alloc] at D1
    have hbel : Below w.heap.size w ((w.alloc (.cells #[.int .i64 W, .int .i64 H] 120)).alloc (.cells #[.int .i64 x, .int .i64 y] 28)).drew := by go_grown
    have ST := Lib.hid (show _ ∧ _ ∧ _ ∧ _ ∧ _ from And.intro D0.2.1 (And.intro D0.2.2 (And.intro D1.2.1 (And.intro D1.2.2 hbel))))
    clear D0 D1 hbel
    go_region_held3 (fun w' => w'.cell? ⟨w.heap.size, 0, none⟩ = some (.int .i64 W) ∧ w'.cell? ⟨w.heap.size, 1, none⟩ = some (.int .i64 H) ∧ w'.cell? ⟨w.heap.size + 1, 0, none⟩ = some (.int .i64 x) ∧ w'.cell? ⟨w.heap.size + 1, 1, none⟩ = some (.int .i64 y) ∧ Below w.heap.size w w')
      (first | exact ST.out | exact keep4 (by assumption) (by assumption))
      (first | (go_at_call 162; refine (twoRows_any _ W H hW).mono ?_; rintro e w1 ⟨rfl, b1⟩))
    rename_i hS
    obtain ⟨k0, k1, k2, k3, hB⟩ := hS
    simp only [EW.out]
    go_wp2
    go_ret
    exact ⟨ret_int HN.out.symm, hB⟩
end Go.Proofs.YtfkodbpkfoecoaaDoor.Base
