/-
  Numbers of inner points, spec's and the program's.
-/
import Derived.Test.YtbpdjmjkjiddjaaDoorPan
namespace Go.Proofs.YtbpdjmjkjiddjaaDoor.Base
open Go.RowKit
set_option linter.unusedVariables false

/-- the number of the first inner point with some Y -/
def rowN (W y : Int) : Int := (y - 1) * W - y / 2
def numN (W x y : Int) : Int := rowN W y + (x - 1) / 2
theorem rowN_one (W : Int) : rowN W 1 = 0 := by simp [rowN]
theorem rowN_succ (W k : Int) (h : 1 ≤ k) : rowN W (k + 1) = rowN W k + W - (if k % 2 = 1 then 1 else 0) := by
  unfold rowN
  have e : (k + 1 - 1) * W = (k - 1) * W + W := by rw [show k + 1 - 1 = (k - 1) + 1 by omega, Int.add_mul, Int.one_mul]
  rw [e]
  split <;> omega
theorem rowN_bd {W k : Int} (h1 : 1 ≤ W) (h2 : W ≤ 8) (h3 : 1 ≤ k) (h4 : k ≤ 16) : 0 ≤ rowN W k ∧ rowN W k ≤ 120 := by
  unfold rowN
  have p1 : (k - 1) * 1 ≤ (k - 1) * W := Int.mul_le_mul_of_nonneg_left h1 (by omega)
  have p2 : (k - 1) * W ≤ 15 * 8 := Int.mul_le_mul (by omega) h2 (by omega) (by omega)
  omega

theorem specRow (w : World) (p : Nat) (W H : Int) (A : Option Addr) (n c : Nat) (y : Int) (hb : Box w p W H A n c) (hW : sideB W = true) (y1 : 1 ≤ y) (y2 : y ≤ 16) :
    Calls Tryd.prog 119 #[.pointer (some ⟨p, 0, none⟩), .int .i64 y] w fun e w' => e = .returned (.int .i64 (rowN W y)) ∧ w = w' := by
  obtain ⟨hp, k0, k1, k2⟩ := hb
  obtain ⟨a1, a2⟩ := side_mk hW
  clear hW
  go_enter Tryd.func119, Tryd.ntmps119
  go_wp2
  go_loop [5, 6] (fun s t => ∃ k r : Int, 1 ≤ k ∧ k ≤ y ∧ 0 ≤ r ∧ r ≤ 120 ∧ t = .int .i64 k ∧ s = .int .i64 r ∧ Hid (r = rowN W k)) (fun _ t => (y - intOf t).toNat)
  case atStart => exact ⟨1, 0, by omega, by omega, by omega, by omega, rfl, rfl, Lib.hid (rowN_one W).symm⟩
  case round =>
    obtain ⟨k, r, hk1, hk2, hr1, hr2, rfl, rfl, HR⟩ := hrel
    by_cases hlt : k < y
    · have hs := rowN_succ W k hk1
      have hb := rowN_bd a1 a2 (show 1 ≤ k + 1 by omega) (by omega)
      by_cases hm : k % 2 = 1
      · rw [if_pos hm, ← HR.out] at hs
        have HS := Lib.hid hs
        have HB := Lib.hid hb
        have hmb : (k % 2 == 1) = true := beq_iff_eq.2 hm
        clear hs hb hm
        go_wp2
        go_round
        case rel => exact ⟨k + 1, r + W - 1, by omega, by omega, by rw [← HS.out]; exact HB.out.1, by rw [← HS.out]; exact HB.out.2, rfl, rfl, Lib.hid HS.out.symm⟩
        case measure => simp [intOf]; omega
      · rw [if_neg hm, ← HR.out] at hs
        have HS := Lib.hid hs
        have HB := Lib.hid hb
        have hmb : (k % 2 == 1) = false := beq_eq_false_iff_ne.2 hm
        clear hs hb hm
        go_wp2
        go_round
        case rel => exact ⟨k + 1, r + W, by omega, by omega, by rw [← Int.sub_zero (r + W), ← HS.out]; exact HB.out.1, by rw [← Int.sub_zero (r + W), ← HS.out]; exact HB.out.2, rfl, rfl, Lib.hid (by rw [HS.out, Int.sub_zero])⟩
        case measure => simp [intOf]; omega
    · have e : k = y := by omega
      subst e
      go_wp2
      go_ret
      exact ⟨ret_int HR.out, rfl⟩

theorem numN_bd {W H x y : Int} (a1 : 1 ≤ W) (a2 : W ≤ 8) (x1 : 1 ≤ x) (x2 : x ≤ 16) (y1 : 1 ≤ y) (y2 : y ≤ 16) : 0 ≤ numN W x y ∧ numN W x y ≤ 128 := by
  have := rowN_bd a1 a2 y1 y2
  unfold numN
  omega
theorem specNumber (w : World) (p : Nat) (W H : Int) (A : Option Addr) (n c : Nat) (x y : Int) (hb : Box w p W H A n c) (hW : sideB W = true) (x1 : 1 ≤ x) (x2 : x ≤ 16) (y1 : 1 ≤ y) (y2 : y ≤ 16) :
    Calls Tryd.prog 171 #[.pointer (some ⟨p, 0, none⟩), .agg #[.int .i64 x, .int .i64 y]] w (Gives (.int .i64 (numN W x y)) w) := by
  have HB := Lib.hid hb
  obtain ⟨a1, a2⟩ := side_mk hW
  have hr := rowN_bd a1 a2 y1 y2
  clear hb
  go_enter Tryd.func171, Tryd.ntmps171
  go_wp2
  have HX := Lib.hid (HB.out.below ((Below.refl w.heap.size w).alloc (Nat.le_refl _) (.cells #[.int .i64 x, .int .i64 y] 61)) HB.out.1)
  go_quiet ((go_at_call 119; exact quiet_left (specRow _ p W H A n c y (HX.out.below (below_of_drew rfl) HX.out.1) hW y1 y2)))
  go_wp2
  go_ret
  exact ⟨rfl, below_drewN (by go_grown) _⟩

/-- the program's way to the same number -/
theorem numN_rows (W x y : Int) (y1 : 1 ≤ y) : numN W x y = (y - 1) / 2 * (2 * W - 1) + (if y % 2 = 0 then W - 1 else 0) + (x - 1) / 2 := by
  unfold numN rowN
  have e1 : (y - 1) / 2 * (2 * W - 1) = (y - 1) / 2 * W + (y - 1) / 2 * W - (y - 1) / 2 := by
    rw [Int.mul_sub, Int.mul_one, ← Int.mul_assoc, Int.mul_comm _ 2, Int.mul_assoc]; omega
  have e2 : (y - 1) * W = (y - 1) / 2 * W + (y - 1) / 2 * W + (if y % 2 = 0 then W else 0) := by
    have h : y - 1 = (y - 1) / 2 + (y - 1) / 2 + (if y % 2 = 0 then 1 else 0) := by split <;> omega
    conv => lhs; rw [h]
    rw [Int.add_mul, Int.add_mul]
    split <;> simp
  rw [e1, e2]
  split <;> omega

theorem twoRows_any (w : World) (W H : Int) (hW : sideB W = true) :
    Calls Tryd.prog 118 #[.agg #[.int .i64 W, .int .i64 H]] w (Gives (.int .i64 (2 * W - 1)) w) := by
  obtain ⟨a1, a2⟩ := side_mk hW
  clear hW
  go_enter Tryd.func118, Tryd.ntmps118
  go_wp2
  go_ret
  exact ⟨rfl, by go_grown⟩

theorem keep4 {w w1 w2 : World} {p q r p' : Addr} {u v x u' : Value} (h : w1.cell? p = some u ∧ w1.cell? q = some v ∧ w1.cell? r = some x ∧ w1.cell? p' = some u' ∧ Below w.heap.size w w1)
    (b : Below w1.heap.size w1 w2) : w2.cell? p = some u ∧ w2.cell? q = some v ∧ w2.cell? r = some x ∧ w2.cell? p' = some u' ∧ Below w.heap.size w w2 :=
  ⟨(b.cell (World.block_lt_of_cell? _ _ h.1)).trans h.1, (b.cell (World.block_lt_of_cell? _ _ h.2.1)).trans h.2.1, (b.cell (World.block_lt_of_cell? _ _ h.2.2.1)).trans h.2.2.1, (b.cell (World.block_lt_of_cell? _ _ h.2.2.2.1)).trans h.2.2.2.1, h.2.2.2.2.trans (b.mono h.2.2.2.2.size)⟩

theorem numberOf_any (w : World) (W H x y : Int) (hW : sideB W = true) (x1 : 1 ≤ x) (x2 : x ≤ 16) (y1 : 1 ≤ y) (y2 : y ≤ 16) :
    Calls Tryd.prog 75 #[.agg #[.int .i64 W, .int .i64 H], .agg #[.int .i64 x, .int .i64 y]] w (Gives (.int .i64 (numN W x y)) w) := by
  obtain ⟨a1, a2⟩ := side_mk hW
  have hn := numN_rows W x y y1
  have m0 : 0 ≤ (y - 1) / 2 * (2 * W - 1) := Int.mul_nonneg (by omega) (by omega)
  have m1 : (y - 1) / 2 * (2 * W - 1) ≤ 7 * 15 := Int.mul_le_mul (by omega) (by omega) (by omega) (by omega)
  have ew : IntKind.i64.wrap (IntKind.i64.wrap ((IntKind.i64.wrap (y - 1)).tdiv 2) * (2 * W - 1)) = (y - 1) / 2 * (2 * W - 1) := by
    rw [IntWalk.i64_in (y - 1) ⟨by omega, by omega⟩, Int.tdiv_eq_ediv_of_nonneg (by omega), IntWalk.i64_in ((y - 1) / 2) ⟨by omega, by omega⟩, IntWalk.i64_in _ ⟨by omega, by omega⟩]
  have EW := Lib.hid ew
  clear ew
  by_cases hm : y % 2 = 0
  · have hmb : (y % 2 == 0) = true := beq_iff_eq.2 hm
    rw [if_pos hm] at hn
    have HN := Lib.hid hn
    clear hn hm
    go_enter Tryd.func75, Tryd.ntmps75
    go_wp2
    have D0 := (Dot.new w 99 W H).below ((Below.refl (w.alloc (.cells #[.int .i64 W, .int .i64 H] 99)).heap.size _).alloc (Nat.le_refl _) (.cells #[.int .i64 x, .int .i64 y] 61)) (by simp)
    have D1 := Dot.new (w.alloc (.cells #[.int .i64 W, .int .i64 H] 99)) 61 x y
    simp only [World.size_alloc] at D1
    have hbel : Below w.heap.size w ((w.alloc (.cells #[.int .i64 W, .int .i64 H] 99)).alloc (.cells #[.int .i64 x, .int .i64 y] 61)).drew := by go_grown
    have ST := Lib.hid (show _ ∧ _ ∧ _ ∧ _ ∧ _ from And.intro D0.2.1 (And.intro D0.2.2 (And.intro D1.2.1 (And.intro D1.2.2 hbel))))
    clear D0 D1 hbel
    go_region_held3 (fun w' => w'.cell? ⟨w.heap.size, 0, none⟩ = some (.int .i64 W) ∧ w'.cell? ⟨w.heap.size, 1, none⟩ = some (.int .i64 H) ∧ w'.cell? ⟨w.heap.size + 1, 0, none⟩ = some (.int .i64 x) ∧ w'.cell? ⟨w.heap.size + 1, 1, none⟩ = some (.int .i64 y) ∧ Below w.heap.size w w')
      (first | exact ST.out | exact keep4 (by assumption) (by assumption))
      (first | (go_at_call 118; refine (twoRows_any _ W H hW).mono ?_; rintro e w1 ⟨rfl, b1⟩))
    rename_i hS
    obtain ⟨k0, k1, k2, k3, hB⟩ := hS
    simp only [EW.out]
    go_wp2
    go_ret
    exact ⟨ret_int HN.out.symm, hB⟩
  · have hmb : (y % 2 == 0) = false := beq_eq_false_iff_ne.2 hm
    rw [if_neg hm, Int.add_zero] at hn
    have HN := Lib.hid hn
    clear hn hm
    go_enter Tryd.func75, Tryd.ntmps75
    go_wp2
    have D0 := (Dot.new w 99 W H).below ((Below.refl (w.alloc (.cells #[.int .i64 W, .int .i64 H] 99)).heap.size _).alloc (Nat.le_refl _) (.cells #[.int .i64 x, .int .i64 y] 61)) (by simp)
    have D1 := Dot.new (w.alloc (.cells #[.int .i64 W, .int .i64 H] 99)) 61 x y
    simp only [World.size_alloc] at D1
    have hbel : Below w.heap.size w ((w.alloc (.cells #[.int .i64 W, .int .i64 H] 99)).alloc (.cells #[.int .i64 x, .int .i64 y] 61)).drew := by go_grown
    have ST := Lib.hid (show _ ∧ _ ∧ _ ∧ _ ∧ _ from And.intro D0.2.1 (And.intro D0.2.2 (And.intro D1.2.1 (And.intro D1.2.2 hbel))))
    clear D0 D1 hbel
    go_region_held3 (fun w' => w'.cell? ⟨w.heap.size, 0, none⟩ = some (.int .i64 W) ∧ w'.cell? ⟨w.heap.size, 1, none⟩ = some (.int .i64 H) ∧ w'.cell? ⟨w.heap.size + 1, 0, none⟩ = some (.int .i64 x) ∧ w'.cell? ⟨w.heap.size + 1, 1, none⟩ = some (.int .i64 y) ∧ Below w.heap.size w w')
      (first | exact ST.out | exact keep4 (by assumption) (by assumption))
      (first | (go_at_call 118; refine (twoRows_any _ W H hW).mono ?_; rintro e w1 ⟨rfl, b1⟩))
    rename_i hS
    obtain ⟨k0, k1, k2, k3, hB⟩ := hS
    simp only [EW.out]
    go_wp2
    go_ret
    exact ⟨ret_int HN.out.symm, hB⟩
end Go.Proofs.YtbpdjmjkjiddjaaDoor.Base

namespace Go.Proofs.YtbpdjmjkjiddjaaDoor.Base
open Go.RowKit
set_option linter.unusedVariables false

/-- the code of a panel and an inner point -/
def codeP (W H : Int) (n : Nat) (f : Nat → Int) (x y : Int) : Int := if validB W H n f then (if hasB W H x y then (if edgeB W H x y then 6 else 0) else 2) else 1
def numP (W H : Int) (n : Nat) (f : Nat → Int) (x y : Int) : Int := if codeP W H n f x y = 0 then numN W x y else 0
theorem code_1 {W H : Int} {n : Nat} {f : Nat → Int} {x y : Int} (h : validB W H n f = false) : codeP W H n f x y = 1 ∧ numP W H n f x y = 0 := by simp [numP, codeP, h]
theorem code_2 {W H : Int} {n : Nat} {f : Nat → Int} {x y : Int} (h : validB W H n f = true) (h2 : hasB W H x y = false) : codeP W H n f x y = 2 ∧ numP W H n f x y = 0 := by simp [numP, codeP, h, h2]
theorem code_6 {W H : Int} {n : Nat} {f : Nat → Int} {x y : Int} (h : validB W H n f = true) (h2 : hasB W H x y = true) (h3 : edgeB W H x y = true) : codeP W H n f x y = 6 ∧ numP W H n f x y = 0 := by simp [numP, codeP, h, h2, h3]
theorem code_0 {W H : Int} {n : Nat} {f : Nat → Int} {x y : Int} (h : validB W H n f = true) (h2 : hasB W H x y = true) (h3 : edgeB W H x y = false) : codeP W H n f x y = 0 ∧ numP W H n f x y = numN W x y := by simp [numP, codeP, h, h2, h3]
theorem edge_no {W H x y : Int} (h : edgeB W H x y = false) : x ≠ 0 ∧ y ≠ 0 ∧ x ≠ 2 * W ∧ y ≠ 2 * H := by
  simp [edgeB] at h; exact h
theorem inside {W H x y : Int} (hW : sideB W = true) (hH : sideB H = true) (h2 : hasB W H x y = true) (h3 : edgeB W H x y = false) : 1 ≤ x ∧ x ≤ 16 ∧ 1 ≤ y ∧ y ≤ 16 := by
  obtain ⟨a1, a2⟩ := side_mk hW
  obtain ⟨b1, b2⟩ := side_mk hH
  obtain ⟨x1, x2, y1, y2, _⟩ := has_yes h2
  obtain ⟨e1, e2, e3, e4⟩ := edge_no h3
  omega

theorem rowN_mono {W : Int} (a1 : 1 ≤ W) (k : Int) (hk : 1 ≤ k) (d : Nat) : rowN W k ≤ rowN W (k + d) := by
  induction d with
  | zero => simp
  | succ d ih =>
    have := rowN_succ W (k + d) (by omega)
    rw [show k + ((d + 1 : Nat) : Int) = k + (d : Int) + 1 by omega, this]
    split <;> omega
theorem rowN_end (W H : Int) : rowN W (2 * H) = inner W H := by
  unfold rowN inner
  have e1 : (2 * H - 1) * W = H * W + H * W - W := by rw [Int.sub_mul, Int.one_mul, Int.mul_assoc]; omega
  have e2 : W * (H - 1) = H * W - W := by rw [Int.mul_sub, Int.mul_one, Int.mul_comm]
  have e3 : H * (W - 1) = H * W - H := by rw [Int.mul_sub, Int.mul_one]
  omega
theorem num_lt {W H x y : Int} (hW : sideB W = true) (hH : sideB H = true) (h2 : hasB W H x y = true) (h3 : edgeB W H x y = false) : 0 ≤ numN W x y ∧ numN W x y < inner W H := by
  obtain ⟨a1, a2⟩ := side_mk hW
  obtain ⟨b1, b2⟩ := side_mk hH
  obtain ⟨x1, x2, y1, y2, hp⟩ := has_yes h2
  obtain ⟨e1, e2, e3, e4⟩ := edge_no h3
  refine ⟨(numN_bd (H := H) a1 a2 (by omega) (by omega) (by omega) (by omega)).1, ?_⟩
  have hs := rowN_succ W y (by omega)
  have hm := rowN_mono a1 (y + 1) (by omega) (2 * H - (y + 1)).toNat
  rw [show y + 1 + ((2 * H - (y + 1)).toNat : Int) = 2 * H by omega, rowN_end] at hm
  unfold numN
  split at hs <;> omega

theorem keep5d' {w w1 : World} {p q r p' q' : Addr} {u v x u' v' : Value} (h : w1.cell? p = some u ∧ w1.cell? q = some v ∧ w1.cell? r = some x ∧ w1.cell? p' = some u' ∧ w1.cell? q' = some v' ∧ Below w.heap.size w w1) :
    w1.drew.cell? p = some u ∧ w1.drew.cell? q = some v ∧ w1.drew.cell? r = some x ∧ w1.drew.cell? p' = some u' ∧ w1.drew.cell? q' = some v' ∧ Below w.heap.size w w1.drew := ⟨h.1, h.2.1, h.2.2.1, h.2.2.2.1, h.2.2.2.2.1, h.2.2.2.2.2.drew⟩

theorem impl_numberOf (w : World) (W H : Int) (A : Option Addr) (n c : Nat) (f : Nat → Int) (x y : Int) (hr : Row .i64 w A n c f) :
    Calls Tryd.prog 150 #[.agg #[.int .i64 W, .int .i64 H, .slice A n c], .agg #[.int .i64 x, .int .i64 y]] w (Gives (.tuple #[.int .i64 (numP W H n f x y), .int .i64 (codeP W H n f x y)]) w) := by
  have HR := Lib.hid hr
  clear hr
  have hbel : Below w.heap.size w ((w.alloc (.cells #[.int .i64 W, .int .i64 H, .slice A n c] 35)).alloc (.cells #[.int .i64 x, .int .i64 y] 61)) := by go_grown
  have HL := Lib.hid hbel
  have HX := Lib.hid (two_boxes w 35 61 W H A n c x y)
  have D0 := Dot.new (w.alloc (.cells #[.int .i64 W, .int .i64 H, .slice A n c] 35)) 61 x y
  simp only [World.size_alloc] at D0
  have HD := Lib.hid D0
  clear hbel D0
  cases hv : validB W H n f
  · rw [(code_1 hv).1, (code_1 hv).2]
    have HV := Lib.hid hv
    clear hv
    go_enter Tryd.func150, Tryd.ntmps150
    go_wp2_with fail
    refine (implOk_is HV.out (HR.out.below HL.out (Nat.le_refl _))).mono ?_
    rintro e w1 ⟨rfl, b1⟩
    go_wp2
    go_ret2
    exact ⟨rfl, HL.out.trans (b1.mono (by simp; omega))⟩
  · obtain ⟨hW, hH, -, -⟩ := validB_yes hv
    have HV := Lib.hid hv
    cases hh : hasB W H x y
    · rw [(code_2 hv hh).1, (code_2 hv hh).2]
      have HH := Lib.hid hh
      clear hv hh
      go_enter Tryd.func150, Tryd.ntmps150
      go_wp2_with fail
      refine (implOk_is HV.out (HR.out.below HL.out (Nat.le_refl _))).mono ?_
      rintro e w1 ⟨rfl, b1⟩
      have ST := Lib.hid (keep5d (HX.out.below b1 HX.out.1) (HD.out.below b1 HD.out.1) (HL.out.trans (b1.mono (by simp; omega))))
      clear b1
      go_wp2
      go_region_held3 (fun w' => w'.cell? ⟨w.heap.size, 0, none⟩ = some (.int .i64 W) ∧ w'.cell? ⟨w.heap.size, 1, none⟩ = some (.int .i64 H) ∧ w'.cell? ⟨w.heap.size, 2, none⟩ = some (.slice A n c) ∧
          w'.cell? ⟨w.heap.size + 1, 0, none⟩ = some (.int .i64 x) ∧ w'.cell? ⟨w.heap.size + 1, 1, none⟩ = some (.int .i64 y) ∧ Below w.heap.size w w')
          (first | exact ST.out | exact keep5 (by assumption) (by assumption))
          (first | (go_at_call 70; refine (sizeOf_any _ W H A n c).mono ?_; rintro e wa ⟨rfl, ba⟩) | (go_at_call 176; refine (hasPoint_is HH.out hW hH).mono ?_; rintro e wb ⟨rfl, bb⟩))
      rename_i hS
      have ST1 := Lib.hid (keep5d' hS)
      obtain ⟨k0, k1, k2, k3, k4, hB⟩ := hS
      go_wp2
      go_ret2
      exact ⟨rfl, hB⟩
    · cases he : edgeB W H x y
      · rw [(code_0 hv hh he).1, (code_0 hv hh he).2]
        obtain ⟨x1, x2, y1, y2⟩ := inside hW hH hh he
        have HH := Lib.hid hh
        have HE := Lib.hid he
        clear hv hh he
        go_enter Tryd.func150, Tryd.ntmps150
        go_wp2_with fail
        refine (implOk_is HV.out (HR.out.below HL.out (Nat.le_refl _))).mono ?_
        rintro e w1 ⟨rfl, b1⟩
        have ST := Lib.hid (keep5d (HX.out.below b1 HX.out.1) (HD.out.below b1 HD.out.1) (HL.out.trans (b1.mono (by simp; omega))))
        clear b1
        go_wp2
        go_region_held3 (fun w' => w'.cell? ⟨w.heap.size, 0, none⟩ = some (.int .i64 W) ∧ w'.cell? ⟨w.heap.size, 1, none⟩ = some (.int .i64 H) ∧ w'.cell? ⟨w.heap.size, 2, none⟩ = some (.slice A n c) ∧
            w'.cell? ⟨w.heap.size + 1, 0, none⟩ = some (.int .i64 x) ∧ w'.cell? ⟨w.heap.size + 1, 1, none⟩ = some (.int .i64 y) ∧ Below w.heap.size w w')
            (first | exact ST.out | exact keep5 (by assumption) (by assumption))
            (first | (go_at_call 70; refine (sizeOf_any _ W H A n c).mono ?_; rintro e wa ⟨rfl, ba⟩) | (go_at_call 176; refine (hasPoint_is HH.out hW hH).mono ?_; rintro e wb ⟨rfl, bb⟩))
        rename_i hS
        have ST1 := Lib.hid (keep5d' hS)
        obtain ⟨k0, k1, k2, k3, k4, hB⟩ := hS
        go_wp2
        clear k0 k1 k2 k3 k4
        go_region_held3 (fun w' => w'.cell? ⟨w.heap.size, 0, none⟩ = some (.int .i64 W) ∧ w'.cell? ⟨w.heap.size, 1, none⟩ = some (.int .i64 H) ∧ w'.cell? ⟨w.heap.size, 2, none⟩ = some (.slice A n c) ∧
            w'.cell? ⟨w.heap.size + 1, 0, none⟩ = some (.int .i64 x) ∧ w'.cell? ⟨w.heap.size + 1, 1, none⟩ = some (.int .i64 y) ∧ Below w.heap.size w w')
            (first | exact ST1.out | exact keep5 (by assumption) (by assumption))
            (first | (go_at_call 70; refine (sizeOf_any _ W H A n c).mono ?_; rintro e wa ⟨rfl, ba⟩) | (go_at_call 155; refine (onBorder_is HE.out hW hH).mono ?_; rintro e wb ⟨rfl, bb⟩))
        rename_i hS
        have ST2 := Lib.hid (keep5d' hS)
        obtain ⟨k0, k1, k2, k3, k4, hB⟩ := hS
        go_wp2
        clear k0 k1 k2 k3 k4
        go_region_held3 (fun w' => w'.cell? ⟨w.heap.size, 0, none⟩ = some (.int .i64 W) ∧ w'.cell? ⟨w.heap.size, 1, none⟩ = some (.int .i64 H) ∧ w'.cell? ⟨w.heap.size, 2, none⟩ = some (.slice A n c) ∧
            w'.cell? ⟨w.heap.size + 1, 0, none⟩ = some (.int .i64 x) ∧ w'.cell? ⟨w.heap.size + 1, 1, none⟩ = some (.int .i64 y) ∧ Below w.heap.size w w')
            (first | exact ST2.out | exact keep5 (by assumption) (by assumption))
            (first | (go_at_call 70; refine (sizeOf_any _ W H A n c).mono ?_; rintro e wa ⟨rfl, ba⟩) | (go_at_call 75; refine (numberOf_any _ W H x y hW x1 x2 y1 y2).mono ?_; rintro e wb ⟨rfl, bb⟩))
        rename_i hS
        have ST3 := Lib.hid (keep5d' hS)
        obtain ⟨k0, k1, k2, k3, k4, hB⟩ := hS
        go_wp2
        go_ret2
        exact ⟨rfl, hB⟩
      · rw [(code_6 hv hh he).1, (code_6 hv hh he).2]
        have HH := Lib.hid hh
        have HE := Lib.hid he
        clear hv hh he
        go_enter Tryd.func150, Tryd.ntmps150
        go_wp2_with fail
        refine (implOk_is HV.out (HR.out.below HL.out (Nat.le_refl _))).mono ?_
        rintro e w1 ⟨rfl, b1⟩
        have ST := Lib.hid (keep5d (HX.out.below b1 HX.out.1) (HD.out.below b1 HD.out.1) (HL.out.trans (b1.mono (by simp; omega))))
        clear b1
        go_wp2
        go_region_held3 (fun w' => w'.cell? ⟨w.heap.size, 0, none⟩ = some (.int .i64 W) ∧ w'.cell? ⟨w.heap.size, 1, none⟩ = some (.int .i64 H) ∧ w'.cell? ⟨w.heap.size, 2, none⟩ = some (.slice A n c) ∧
            w'.cell? ⟨w.heap.size + 1, 0, none⟩ = some (.int .i64 x) ∧ w'.cell? ⟨w.heap.size + 1, 1, none⟩ = some (.int .i64 y) ∧ Below w.heap.size w w')
            (first | exact ST.out | exact keep5 (by assumption) (by assumption))
            (first | (go_at_call 70; refine (sizeOf_any _ W H A n c).mono ?_; rintro e wa ⟨rfl, ba⟩) | (go_at_call 176; refine (hasPoint_is HH.out hW hH).mono ?_; rintro e wb ⟨rfl, bb⟩))
        rename_i hS
        have ST1 := Lib.hid (keep5d' hS)
        obtain ⟨k0, k1, k2, k3, k4, hB⟩ := hS
        go_wp2
        clear k0 k1 k2 k3 k4
        go_region_held3 (fun w' => w'.cell? ⟨w.heap.size, 0, none⟩ = some (.int .i64 W) ∧ w'.cell? ⟨w.heap.size, 1, none⟩ = some (.int .i64 H) ∧ w'.cell? ⟨w.heap.size, 2, none⟩ = some (.slice A n c) ∧
            w'.cell? ⟨w.heap.size + 1, 0, none⟩ = some (.int .i64 x) ∧ w'.cell? ⟨w.heap.size + 1, 1, none⟩ = some (.int .i64 y) ∧ Below w.heap.size w w')
            (first | exact ST1.out | exact keep5 (by assumption) (by assumption))
            (first | (go_at_call 70; refine (sizeOf_any _ W H A n c).mono ?_; rintro e wa ⟨rfl, ba⟩) | (go_at_call 155; refine (onBorder_is HE.out hW hH).mono ?_; rintro e wb ⟨rfl, bb⟩))
        rename_i hS
        have ST2 := Lib.hid (keep5d' hS)
        obtain ⟨k0, k1, k2, k3, k4, hB⟩ := hS
        go_wp2
        go_ret2
        exact ⟨rfl, hB⟩
end Go.Proofs.YtbpdjmjkjiddjaaDoor.Base

namespace Go.Proofs.YtbpdjmjkjiddjaaDoor.Base
open Go.RowKit
set_option linter.unusedVariables false

def brkP (W H : Int) (n : Nat) (f : Nat → Int) (x y : Int) : Int := if codeP W H n f x y = 0 then f (numN W x y).toNat else 0
theorem code_zero {W H : Int} {n : Nat} {f : Nat → Int} {x y : Int} (hc : codeP W H n f x y = 0) : validB W H n f = true ∧ hasB W H x y = true ∧ edgeB W H x y = false := by
  have hv : validB W H n f = true := by
    cases h : validB W H n f
    · rw [(code_1 h).1] at hc; omega
    · rfl
  have hh : hasB W H x y = true := by
    cases h : hasB W H x y
    · rw [(code_2 hv h).1] at hc; omega
    · rfl
  refine ⟨hv, hh, ?_⟩
  cases h : edgeB W H x y
  · rfl
  · rw [(code_6 hv hh h).1] at hc; omega

theorem box_keep6 {w w1 : World} {p : Nat} {W H : Int} {A : Option Addr} {n c : Nat} {p' q' r' : Addr} {u' v' x' : Value} (h : w1.cell? ⟨p, 0, none⟩ = some (.int .i64 W) ∧ w1.cell? ⟨p, 1, none⟩ = some (.int .i64 H) ∧ w1.cell? ⟨p, 2, none⟩ = some (.slice A n c) ∧ w1.cell? p' = some u' ∧ w1.cell? q' = some v' ∧ w1.cell? r' = some x' ∧ Below w.heap.size w w1) :
    Box w1 p W H A n c := ⟨World.block_lt_of_cell? _ _ h.1, h.1, h.2.1, h.2.2.1⟩
theorem impl_breakAt (w : World) (W H : Int) (A : Option Addr) (n c : Nat) (f : Nat → Int) (x y : Int) (hr : Row .i64 w A n c f) :
    Calls Tryd.prog 120 #[.agg #[.int .i64 W, .int .i64 H, .slice A n c], .agg #[.int .i64 x, .int .i64 y]] w (Gives (.tuple #[.int .i64 (brkP W H n f x y), .int .i64 (codeP W H n f x y)]) w) := by
  have HR := Lib.hid hr
  clear hr
  have hbel : Below w.heap.size w ((w.alloc (.cells #[.int .i64 W, .int .i64 H, .slice A n c] 35)).alloc (.cells #[.int .i64 x, .int .i64 y] 61)) := by go_grown
  have HL := Lib.hid hbel
  have HX := Lib.hid (two_boxes w 35 61 W H A n c x y)
  clear hbel
  by_cases hc : codeP W H n f x y = 0
  · obtain ⟨hv, hh, he⟩ := code_zero hc
    obtain ⟨hW, hH, hin, -⟩ := validB_yes hv
    obtain ⟨l1, l2⟩ := num_lt hW hH hh he
    have l3 : numN W x y < (n : Int) := by rw [hin]; exact l2
    have hB : brkP W H n f x y = f (numN W x y).toNat := by unfold brkP; rw [if_pos hc]
    have hN : numP W H n f x y = numN W x y := by unfold numP; rw [if_pos hc]
    have h0 := impl_numberOf _ W H A n c f x y (HR.out.below HL.out (Nat.le_refl _))
    rw [hc, hN] at h0
    rw [hB, hc]
    have H0 := Lib.hid h0
    have hnc := HR.out.1
    have hcm := HR.out.2.1
    unfold maxLen at hcm
    obtain ⟨b, o, rfl, hbl, hcell⟩ := HR.out.2.2.2 (by omega)
    have hk := hcell (numN W x y).toNat (by omega)
    clear h0 hc hv hh he hin l2 hcell hB hN
    have HK := Lib.hid hk
    clear hk
    go_enter Tryd.func120, Tryd.ntmps120
    go_wp2_with fail
    refine H0.out.mono ?_
    rintro e w1 ⟨rfl, b1⟩
    obtain ⟨-, d0, d1, d2⟩ := HX.out.below b1 HX.out.1
    have BB := Lib.hid (HL.out.trans (b1.mono (by simp; omega)))
    have ck : w1.cell? ⟨b, o + (numN W x y).toNat, none⟩ = some (.int .i64 (f (numN W x y).toNat)) := (BB.out.cell (p := ⟨b, o + (numN W x y).toNat, none⟩) hbl).trans HK.out
    clear b1
    go_wp2
    go_ret2
    exact ⟨rfl, BB.out⟩
  · have hN : brkP W H n f x y = 0 := by unfold brkP; rw [if_neg hc]
    have hcb : (codeP W H n f x y == 0) = false := beq_eq_false_iff_ne.2 hc
    have hcb' : (codeP W H n f x y != 0) = true := bne_iff_ne.2 hc
    have HN := Lib.hid hN
    clear hN hc
    go_enter Tryd.func120, Tryd.ntmps120
    go_wp2_with fail
    refine (impl_numberOf _ W H A n c f x y (HR.out.below HL.out (Nat.le_refl _))).mono ?_
    rintro e w1 ⟨rfl, b1⟩
    go_wp2
    go_ret2
    exact ⟨ret_ints HN.out.symm rfl, HL.out.trans (b1.mono (by simp; omega))⟩
end Go.Proofs.YtbpdjmjkjiddjaaDoor.Base

namespace Go.Proofs.YtbpdjmjkjiddjaaDoor.Base
open Go.RowKit
set_option linter.unusedVariables false

/-- how many of the first k are of a kind -/
def cntK (z : Int) (f : Nat → Int) : Nat → Int
  | 0 => 0
  | k + 1 => cntK z f k + (if f k = z then 1 else 0)
theorem cntK_bd (z : Int) (f : Nat → Int) (k : Nat) : 0 ≤ cntK z f k ∧ cntK z f k ≤ k := by
  induction k with
  | zero => simp [cntK]
  | succ k ih => simp only [cntK]; split <;> omega
def cntC (W H : Int) (n : Nat) (f : Nat → Int) (z : Int) : Int := if validB W H n f then (if inB z 0 2 then 0 else 2) else 1
def cntP (W H : Int) (n : Nat) (f : Nat → Int) (z : Int) : Int := if cntC W H n f z = 0 then cntK z f n else 0

theorem isBreak_is {z : Int} {v : Bool} (h : inB z 0 2 = v) (w : World) : Calls Tryd.prog 113 #[.int .i64 z] w fun e w' => e = .returned (.bool v) ∧ w = w' := by rw [← h]; exact isBreak_any z w

end Go.Proofs.YtbpdjmjkjiddjaaDoor.Base

namespace Go.Proofs.YtbpdjmjkjiddjaaDoor.Base
open Go.RowKit
set_option linter.unusedVariables false

def ptX (W k : Int) : Int := if k % (2 * W - 1) < W - 1 then 2 * (k % (2 * W - 1)) + 2 else 2 * (k % (2 * W - 1) - (W - 1)) + 1
def ptY (W k : Int) : Int := if k % (2 * W - 1) < W - 1 then k / (2 * W - 1) * 2 + 1 else k / (2 * W - 1) * 2 + 1 + 1
theorem rowN_odd (W t : Int) : rowN W (2 * t + 1) = t * (2 * W - 1) := by
  unfold rowN
  have e1 : (2 * t + 1 - 1) * W = t * W + t * W := by rw [show 2 * t + 1 - 1 = t + t by omega, Int.add_mul]
  have e2 : t * (2 * W - 1) = t * W + t * W - t := by rw [Int.mul_sub, Int.mul_one, show 2 * W = W + W by omega, Int.mul_add]
  omega
theorem rowN_even (W t : Int) : rowN W (2 * t + 1 + 1) = t * (2 * W - 1) + (W - 1) := by
  unfold rowN
  have e1 : (2 * t + 1 + 1 - 1) * W = t * W + t * W + W := by rw [show 2 * t + 1 + 1 - 1 = t + t + 1 by omega, Int.add_mul, Int.add_mul, Int.one_mul]
  have e2 : t * (2 * W - 1) = t * W + t * W - t := by rw [Int.mul_sub, Int.mul_one, show 2 * W = W + W by omega, Int.mul_add]
  omega
theorem rowN_le {W : Int} (a1 : 1 ≤ W) {j k : Int} (hj : 1 ≤ j) (h : j ≤ k) : rowN W j ≤ rowN W k := by
  have := rowN_mono a1 j hj (k - j).toNat
  rwa [show j + ((k - j).toNat : Int) = k by omega] at this
/-- between which rows a number lies -/
theorem pt_rows {W k : Int} (a1 : 1 ≤ W) (hk : 0 ≤ k) : 1 ≤ ptY W k ∧ rowN W (ptY W k) ≤ k ∧ k < rowN W (ptY W k + 1) ∧ ptX W k = 2 * (k - rowN W (ptY W k)) + 1 + ptY W k % 2 := by
  have hd := Int.mul_ediv_add_emod k (2 * W - 1)
  have q0 : 0 ≤ k / (2 * W - 1) := Int.ediv_nonneg hk (by omega)
  have r0 : 0 ≤ k % (2 * W - 1) := Int.emod_nonneg _ (by omega)
  have r1 : k % (2 * W - 1) < 2 * W - 1 := Int.emod_lt_of_pos _ (by omega)
  rw [Int.mul_comm] at hd
  have e1 := rowN_odd W (k / (2 * W - 1))
  have e2 := rowN_even W (k / (2 * W - 1))
  have e3 := rowN_odd W (k / (2 * W - 1) + 1)
  rw [Int.add_mul, Int.one_mul] at e3
  unfold ptY ptX
  generalize k / (2 * W - 1) = q at *
  generalize k % (2 * W - 1) = r at *
  generalize hp : q * (2 * W - 1) = p at *
  by_cases h : r < W - 1
  · simp only [if_pos h]
    rw [show q * 2 + 1 = 2 * q + 1 by omega, e1, e2]
    omega
  · simp only [if_neg h]
    rw [show q * 2 + 1 + 1 = 2 * q + 1 + 1 by omega, e2, show 2 * q + 1 + 1 + 1 = 2 * (q + 1) + 1 by omega, e3]
    omega
theorem pt_only {W H k y : Int} (a1 : 1 ≤ W) (b1 : 1 ≤ H) (hk : 0 ≤ k) (hk' : k < inner W H) (h1 : 1 ≤ y) (h2 : y + 1 ≤ 2 * H) (h3 : rowN W y ≤ k) (h4 : y + 1 = 2 * H ∨ k < rowN W (y + 1)) : y = ptY W k := by
  obtain ⟨p1, p2, p3, _⟩ := pt_rows a1 hk
  rcases Int.lt_trichotomy y (ptY W k) with h | h | h
  · exfalso
    rcases h4 with h4 | h4
    · have := rowN_le a1 (by omega) (show 2 * H ≤ ptY W k by omega)
      rw [rowN_end] at this
      omega
    · have := rowN_le a1 (by omega) (show y + 1 ≤ ptY W k by omega)
      omega
  · exact h
  · exfalso
    have := rowN_le a1 (by omega) (show ptY W k + 1 ≤ y by omega)
    omega
theorem pt_end {W H k : Int} (a1 : 1 ≤ W) (b1 : 1 ≤ H) (hk : 0 ≤ k) (hk' : k < inner W H) : ptY W k + 1 ≤ 2 * H := by
  obtain ⟨p1, p2, p3, _⟩ := pt_rows a1 hk
  by_cases h : ptY W k < 2 * H
  · omega
  · have := rowN_le a1 (by omega) (show 2 * H ≤ ptY W k by omega)
    rw [rowN_end] at this
    omega
theorem inner_bd {W H : Int} (hW : sideB W = true) (hH : sideB H = true) : 0 ≤ inner W H ∧ inner W H ≤ 112 := by
  obtain ⟨a1, a2⟩ := side_mk hW
  obtain ⟨b1, b2⟩ := side_mk hH
  unfold inner
  have p1 : 0 ≤ W * (H - 1) := Int.mul_nonneg (by omega) (by omega)
  have p2 : W * (H - 1) ≤ 8 * 7 := Int.mul_le_mul (by omega) (by omega) (by omega) (by omega)
  have q1 : 0 ≤ H * (W - 1) := Int.mul_nonneg (by omega) (by omega)
  have q2 : H * (W - 1) ≤ 8 * 7 := Int.mul_le_mul (by omega) (by omega) (by omega) (by omega)
  omega

theorem specPoint (w : World) (p : Nat) (W H : Int) (A : Option Addr) (n c : Nat) (k : Int) (hb : Box w p W H A n c) (hW : sideB W = true) (hH : sideB H = true) (k1 : 0 ≤ k) (k2 : k < inner W H) :
    Calls Tryd.prog 79 #[.pointer (some ⟨p, 0, none⟩), .int .i64 k] w (Gives (.agg #[.int .i64 (ptX W k), .int .i64 (ptY W k)]) w) := by
  obtain ⟨a1, a2⟩ := side_mk hW
  obtain ⟨b1, b2⟩ := side_mk hH
  obtain ⟨i1, i2⟩ := inner_bd hW hH
  have HX := Lib.hid (hb.below ((Below.refl w.heap.size w).alloc (Nat.le_refl _) (.cells #[.int .i64 0, .int .i64 0] 61)) hb.1)
  have c1 := hb.2.2.1
  have hp := hb.1
  clear hb
  go_enter Tryd.func79, Tryd.ntmps79
  go_wp2
  go_loop [5] (fun s => ∃ y : Int, 1 ≤ y ∧ y + 1 ≤ 2 * H ∧ s = .int .i64 y ∧ rowN W y ≤ k) (fun s => (2 * H - intOf s).toNat)
  case atStart => exact ⟨1, by omega, by omega, rfl, by rw [rowN_one]; exact k1⟩
  case round =>
    obtain ⟨y, y1, y2, rfl, hle⟩ := hrel
    obtain ⟨s1, s2⟩ := rowN_bd a1 a2 y1 (by omega)
    by_cases hlt : y + 1 < 2 * H
    · obtain ⟨t1, t2⟩ := rowN_bd a1 a2 (show 1 ≤ y + 1 by omega) (by omega)
      by_cases hr : rowN W (y + 1) ≤ k
      · go_wp2_with fail
        refine (specRow _ p W H A n c (y + 1) HX.out hW (by omega) (by omega)).mono ?_
        rintro e w1 ⟨rfl, rfl⟩
        go_wp2
        go_round
        case rel => exact ⟨y + 1, by omega, by omega, rfl, hr⟩
        case measure => simp [intOf]; omega
      · have hy := pt_only a1 b1 k1 k2 y1 y2 hle (.inr (by omega))
        have hx := (pt_rows a1 k1).2.2.2
        rw [← hy] at hx
        have HY := Lib.hid hy
        have HXX := Lib.hid hx
        clear hy hx
        go_wp2_with fail
        refine (specRow _ p W H A n c (y + 1) HX.out hW (by omega) (by omega)).mono ?_
        rintro e w1 ⟨rfl, rfl⟩
        go_wp2_with fail
        refine (specRow _ p W H A n c y HX.out hW (by omega) (by omega)).mono ?_
        rintro e w1 ⟨rfl, rfl⟩
        go_wp2
        refine bodyPost_ret (v := .agg #[.int .i64 (2 * (k - rowN W y) + 1 + y % 2), .int .i64 y]) (by simp [results, Tryd.results79, go_sem]) rfl ⟨by rw [HXX.out, ← HY.out], by go_grown⟩
    · have hy := pt_only a1 b1 k1 k2 y1 y2 hle (.inl (by omega))
      have hx := (pt_rows a1 k1).2.2.2
      rw [← hy] at hx
      have HY := Lib.hid hy
      have HXX := Lib.hid hx
      clear hy hx
      go_wp2_with fail
      refine (specRow _ p W H A n c y HX.out hW (by omega) (by omega)).mono ?_
      rintro e w1 ⟨rfl, rfl⟩
      go_wp2
      refine bodyPost_ret (v := .agg #[.int .i64 (2 * (k - rowN W y) + 1 + y % 2), .int .i64 y]) (by simp [results, Tryd.results79, go_sem]) rfl ⟨by rw [HXX.out, ← HY.out], by go_grown⟩

theorem pointAt_any (w : World) (W H k : Int) (hW : sideB W = true) (k1 : 0 ≤ k) (k2 : k ≤ 112) :
    Calls Tryd.prog 87 #[.agg #[.int .i64 W, .int .i64 H], .int .i64 k] w (Gives (.agg #[.int .i64 (ptX W k), .int .i64 (ptY W k)]) w) := by
  obtain ⟨a1, a2⟩ := side_mk hW
  have d0 : 1 ≤ 2 * W - 1 := by omega
  have q0 : 0 ≤ k / (2 * W - 1) := Int.ediv_nonneg k1 (by omega)
  have q1 : k / (2 * W - 1) ≤ 112 := Int.le_trans (Int.ediv_le_self _ k1) k2
  have r0 : 0 ≤ k % (2 * W - 1) := Int.emod_nonneg _ (by omega)
  have r1 : k % (2 * W - 1) < 2 * W - 1 := Int.emod_lt_of_pos _ (by omega)
  have HD := Lib.hid (Dot.new w 99 W H)
  have HZ := Lib.hid (Dot.new (w.alloc (.cells #[.int .i64 W, .int .i64 H] 99)) 61 0 0)
  by_cases h : k % (2 * W - 1) < W - 1
  all_goals
    have ex : ptX W k = ptX W k := rfl
    have ey : ptY W k = ptY W k := rfl
    first | (conv at ex => rhs; unfold ptX; rw [if_pos h]) | (conv at ex => rhs; unfold ptX; rw [if_neg h])
    first | (conv at ey => rhs; unfold ptY; rw [if_pos h]) | (conv at ey => rhs; unfold ptY; rw [if_neg h])
    have EX := Lib.hid ex
    have EY := Lib.hid ey
    clear ex ey
    go_enter Tryd.func87, Tryd.ntmps87
    go_wp2_with fail
    refine (twoRows_any _ W H hW).mono ?_
    rintro e w1 ⟨rfl, b1⟩
    have D1 := (HD.out.below (((Below.refl (w.alloc (.cells #[.int .i64 W, .int .i64 H] 99)).heap.size _).alloc (Nat.le_refl _) (.cells #[.int .i64 0, .int .i64 0] 61)).trans (b1.mono (by simp))) (by simp))
    have Z1 := HZ.out.below b1 (by simp)
    have B1 : Below w.heap.size w w1 := (((Below.refl _ _).alloc (Nat.le_refl _) _).alloc (by simp) _).trans (b1.mono (by simp; omega))
    have F1 : w1.frozen? ⟨w.heap.size + 1, 0, none⟩ = false ∧ w1.frozen? ⟨w.heap.size + 1, 1, none⟩ = false := ⟨by rw [b1.frozen (p := ⟨w.heap.size + 1, 0, none⟩) (by simp)]; simp [go_sem], by rw [b1.frozen (p := ⟨w.heap.size + 1, 1, none⟩) (by simp)]; simp [go_sem]⟩
    simp only [World.size_alloc] at Z1
    have HD1 := Lib.hid D1
    have HZ1 := Lib.hid Z1
    have HB1 := Lib.hid B1
    have HF1 := Lib.hid F1
    clear D1 Z1 B1 F1 b1
    obtain ⟨-, m0, m1⟩ := id HD1.out
    go_wp2_with fail
    refine (twoRows_any _ W H hW).mono ?_
    rintro e w2 ⟨rfl, b2⟩
    clear m0 m1
    obtain ⟨-, m0, m1⟩ := HD1.out.below b2 HD1.out.1
    obtain ⟨-, n0, n1⟩ := HZ1.out.below b2 HZ1.out.1
    have f0 : w2.frozen? ⟨w.heap.size + 1, 0, none⟩ = false := (b2.frozen (p := ⟨w.heap.size + 1, 0, none⟩) HZ1.out.1).trans HF1.out.1
    have f1 : w2.frozen? ⟨w.heap.size + 1, 1, none⟩ = false := (b2.frozen (p := ⟨w.heap.size + 1, 1, none⟩) HZ1.out.1).trans HF1.out.2
    have HB2 := Lib.hid (HB1.out.trans (b2.mono HB1.out.size))
    clear b2
    go_wp2
    rw [EX.out, EY.out]
    refine bodyPost_ret ?_ rfl ⟨rfl, (HB2.out.setCell (by simp) _).setCell (by simp) _⟩
    simp [results, Tryd.results87, go_sem, n0, n1]

def atC (W H : Int) (n : Nat) (f : Nat → Int) (k : Int) : Int := if validB W H n f then (if inB k 0 (n - 1) then 0 else 2) else 1
def atX (W H : Int) (n : Nat) (f : Nat → Int) (k : Int) : Int := if atC W H n f k = 0 then ptX W k else 0
def atY (W H : Int) (n : Nat) (f : Nat → Int) (k : Int) : Int := if atC W H n f k = 0 then ptY W k else 0
theorem at_bad {W H : Int} {n : Nat} {f : Nat → Int} {k : Int} (h : validB W H n f = false) : atX W H n f k = 0 ∧ atY W H n f k = 0 ∧ atC W H n f k = 1 := by simp [atX, atY, atC, h]
theorem at_out {W H : Int} {n : Nat} {f : Nat → Int} {k : Int} (h : validB W H n f = true) (h2 : inB k 0 (n - 1) = false) : atX W H n f k = 0 ∧ atY W H n f k = 0 ∧ atC W H n f k = 2 := by simp [atX, atY, atC, h, h2]
theorem at_in {W H : Int} {n : Nat} {f : Nat → Int} {k : Int} (h : validB W H n f = true) (h2 : inB k 0 (n - 1) = true) : atX W H n f k = ptX W k ∧ atY W H n f k = ptY W k ∧ atC W H n f k = 0 := by simp [atX, atY, atC, h, h2]

theorem spec_pointAt (w : World) (W H : Int) (A : Option Addr) (n c : Nat) (f : Nat → Int) (k : Int) (hr : Row .i64 w A n c f) :
    Calls Tryd.prog 41 #[.agg #[.int .i64 W, .int .i64 H, .slice A n c], .int .i64 k] w (Gives (.tuple #[.agg #[.int .i64 (atX W H n f k), .int .i64 (atY W H n f k)], .int .i64 (atC W H n f k)]) w) := by
  have HR := Lib.hid hr
  clear hr
  have hbel : Below w.heap.size w ((w.alloc (.cells #[.int .i64 W, .int .i64 H, .slice A n c] 35)).alloc (.cells #[.int .i64 0, .int .i64 0] 61)) := by go_grown
  have HL := Lib.hid hbel
  have HX := Lib.hid (two_boxes w 35 61 W H A n c 0 0)
  have hcm := HR.out.2.1
  have hnc := HR.out.1
  unfold maxLen at hcm
  clear hbel
  cases hv : validB W H n f
  · rw [(at_bad hv).1, (at_bad hv).2.1, (at_bad hv).2.2]
    have HV := Lib.hid hv
    clear hv
    go_enter Tryd.func41, Tryd.ntmps41
    go_wp2_with fail
    refine (specOk_is HV.out HX.out (HR.out.below HL.out (Nat.le_refl _))).mono ?_
    rintro e w1 ⟨m, rfl, rfl⟩
    go_wp2
    refine bodyPost_ret ?_ rfl ⟨rfl, ((below_drewN HL.out m).setCell (by simp) _).setCell (by simp) _⟩
    simp [results, Tryd.results41, go_sem]
  · have HV := Lib.hid hv
    obtain ⟨hW, hH, hin, -⟩ := validB_yes hv
    cases hk : inB k 0 (n - 1)
    · rw [(at_out hv hk).1, (at_out hv hk).2.1, (at_out hv hk).2.2]
      have HK := Lib.hid hk
      clear hv hk hin
      go_enter Tryd.func41, Tryd.ntmps41
      go_wp2_with fail
      refine (specOk_is HV.out HX.out (HR.out.below HL.out (Nat.le_refl _))).mono ?_
      rintro e w1 ⟨m, rfl, rfl⟩
      go_wp2_with fail
      refine (in_is HK.out _).mono ?_
      rintro e w1 ⟨rfl, rfl⟩
      go_wp2
      refine bodyPost_ret ?_ rfl ⟨rfl, ((below_drewN HL.out m).setCell (by simp) _).setCell (by simp) _⟩
      simp [results, Tryd.results41, go_sem]
    · rw [(at_in hv hk).1, (at_in hv hk).2.1, (at_in hv hk).2.2]
      obtain ⟨k1, k2⟩ := in_yes hk
      have k3 : k < inner W H := by omega
      have HK := Lib.hid hk
      have HIN := Lib.hid hin
      clear hv hk hin
      go_enter Tryd.func41, Tryd.ntmps41
      go_wp2_with fail
      refine (specOk_is HV.out HX.out (HR.out.below HL.out (Nat.le_refl _))).mono ?_
      rintro e w1 ⟨m, rfl, rfl⟩
      go_wp2_with fail
      refine (in_is HK.out _).mono ?_
      rintro e w1 ⟨rfl, rfl⟩
      go_wp2_with fail
      refine (specPoint _ w.heap.size W H A n c k (HX.out.below (below_of_drew rfl) (by simp; omega)) hW hH k1 k3).mono ?_
      rintro e w1 ⟨rfl, b1⟩
      have q0 : w1.cell? ⟨w.heap.size + 1, 0, none⟩ = some (.int .i64 0) := by rw [b1.cell (p := ⟨w.heap.size + 1, 0, none⟩) (by simp)]; simp [go_sem]
      have q1 : w1.cell? ⟨w.heap.size + 1, 1, none⟩ = some (.int .i64 0) := by rw [b1.cell (p := ⟨w.heap.size + 1, 1, none⟩) (by simp)]; simp [go_sem]
      have f0 : w1.frozen? ⟨w.heap.size + 1, 0, none⟩ = false := by rw [b1.frozen (p := ⟨w.heap.size + 1, 0, none⟩) (by simp)]; simp [go_sem]
      have f1 : w1.frozen? ⟨w.heap.size + 1, 1, none⟩ = false := by rw [b1.frozen (p := ⟨w.heap.size + 1, 1, none⟩) (by simp)]; simp [go_sem]
      have HB := Lib.hid ((below_drewN HL.out m).trans (b1.mono (by simp; omega)))
      clear b1
      go_wp2
      refine bodyPost_ret ?_ rfl ⟨rfl, (HB.out.setCell (by simp) _).setCell (by simp) _⟩
      simp [results, Tryd.results41, go_sem, q0, q1]

theorem eqPoint_same (w : World) (x y : Int) :
    Calls Tryd.prog 47 #[.agg #[.int .i64 x, .int .i64 y], .agg #[.int .i64 x, .int .i64 y]] w (Gives (.bool true) w) := by
  have e1 : (x == x) = true := beq_self_eq_true _
  have e2 : (y == y) = true := beq_self_eq_true _
  go_enter Tryd.func47, Tryd.ntmps47
  go_wp2
  go_ret
  exact ⟨rfl, by go_grown⟩
end Go.Proofs.YtbpdjmjkjiddjaaDoor.Base
