/-
  How a point turns: the program's.
-/
import Derived.Test.YtfgbfmpolhilcabStp
import Derived.Test.YtfgbfmpolhilcabShape
namespace Go.Proofs.Ytfgbfmpolhilcab.Base
open Go.RowKit
set_option linter.unusedVariables false
set_option linter.unusedSimpArgs false

theorem implTurnA1 (w : World) (W H : Int) (A : Option Addr) (n c : Nat) (f : Nat → Int) (x y : Int) (hr : Row .i64 w A n c f) (hn : (n : Int) = inner W H) (hW : sideB W = true) (hH : sideB H = true) (h3 : hasB W H x y = true) (ha : x = 0) :
    Calls Try.prog 95 #[.agg #[.int .i64 W, .int .i64 H, .slice A n c], .agg #[.int .i64 x, .int .i64 y]] w (Gives (.int .i64 1) w) := by
  obtain ⟨g1, g2, g3, g4, g5⟩ := has_yes h3
  obtain ⟨c1, c2⟩ := side_mk hW
  obtain ⟨c3, c4⟩ := side_mk hH
  have HL := Lib.hid (show Below w.heap.size w ((w.alloc (.cells #[.int .i64 W, .int .i64 H, .slice A n c] 57)).alloc (.cells #[.int .i64 x, .int .i64 y] 59)) from ((Below.refl _ _).alloc (Nat.le_refl _) _).alloc (by simp) _)
  have e0 : (x == 0) = true := beq_iff_eq.2 ha
  clear ha hr hn
  go_enter Try.func95, Try.ntmps95
  go_wp2_with fail
  refine (sizeOf_any _ W H _ n c).mono ?_
  rintro e w1 ⟨rfl, b1⟩
  obtain ⟨hc1, hf1⟩ := bcell b1
  have hz1 : w.heap.size + 1 < w1.heap.size := by have := b1.size; simp at this; omega
  have hz0 : w.heap.size < w1.heap.size := by omega
  have HL1 := Lib.hid (HL.out.trans (b1.mono (by first | (simp; done) | (simp; omega))))
  clear b1
  go_wp2
  go_ret
  exact ⟨rfl, HL1.out.alloc HL1.out.size _⟩

theorem implTurnA2 (w : World) (W H : Int) (A : Option Addr) (n c : Nat) (f : Nat → Int) (x y : Int) (hr : Row .i64 w A n c f) (hn : (n : Int) = inner W H) (hW : sideB W = true) (hH : sideB H = true) (h3 : hasB W H x y = true) (ha : x = 2 * W) :
    Calls Try.prog 95 #[.agg #[.int .i64 W, .int .i64 H, .slice A n c], .agg #[.int .i64 x, .int .i64 y]] w (Gives (.int .i64 1) w) := by
  obtain ⟨g1, g2, g3, g4, g5⟩ := has_yes h3
  obtain ⟨c1, c2⟩ := side_mk hW
  obtain ⟨c3, c4⟩ := side_mk hH
  have HL := Lib.hid (show Below w.heap.size w ((w.alloc (.cells #[.int .i64 W, .int .i64 H, .slice A n c] 57)).alloc (.cells #[.int .i64 x, .int .i64 y] 59)) from ((Below.refl _ _).alloc (Nat.le_refl _) _).alloc (by simp) _)
  have e0 : (x == 0) = false := beq_eq_false_iff_ne.2 (by omega)
  have e1 : (x == 2 * W) = true := beq_iff_eq.2 ha
  clear ha hr hn
  go_enter Try.func95, Try.ntmps95
  go_wp2_with fail
  refine (sizeOf_any _ W H _ n c).mono ?_
  rintro e w1 ⟨rfl, b1⟩
  obtain ⟨hc1, hf1⟩ := bcell b1
  have hz1 : w.heap.size + 1 < w1.heap.size := by have := b1.size; simp at this; omega
  have hz0 : w.heap.size < w1.heap.size := by omega
  have HL1 := Lib.hid (HL.out.trans (b1.mono (by first | (simp; done) | (simp; omega))))
  clear b1
  go_wp2
  go_ret
  exact ⟨rfl, HL1.out.alloc HL1.out.size _⟩

theorem implTurnB1 (w : World) (W H : Int) (A : Option Addr) (n c : Nat) (f : Nat → Int) (x y : Int) (hr : Row .i64 w A n c f) (hn : (n : Int) = inner W H) (hW : sideB W = true) (hH : sideB H = true) (h3 : hasB W H x y = true) (ha : y = 0) :
    Calls Try.prog 95 #[.agg #[.int .i64 W, .int .i64 H, .slice A n c], .agg #[.int .i64 x, .int .i64 y]] w (Gives (.int .i64 2) w) := by
  obtain ⟨g1, g2, g3, g4, g5⟩ := has_yes h3
  obtain ⟨c1, c2⟩ := side_mk hW
  obtain ⟨c3, c4⟩ := side_mk hH
  have HL := Lib.hid (show Below w.heap.size w ((w.alloc (.cells #[.int .i64 W, .int .i64 H, .slice A n c] 57)).alloc (.cells #[.int .i64 x, .int .i64 y] 59)) from ((Below.refl _ _).alloc (Nat.le_refl _) _).alloc (by simp) _)
  have e0 : (x == 0) = false := beq_eq_false_iff_ne.2 (by omega)
  have e1 : (x == 2 * W) = false := beq_eq_false_iff_ne.2 (by omega)
  have e2 : (y == 0) = true := beq_iff_eq.2 ha
  clear ha hr hn
  go_enter Try.func95, Try.ntmps95
  go_wp2_with fail
  refine (sizeOf_any _ W H _ n c).mono ?_
  rintro e w1 ⟨rfl, b1⟩
  obtain ⟨hc1, hf1⟩ := bcell b1
  have hz1 : w.heap.size + 1 < w1.heap.size := by have := b1.size; simp at this; omega
  have hz0 : w.heap.size < w1.heap.size := by omega
  have HL1 := Lib.hid (HL.out.trans (b1.mono (by first | (simp; done) | (simp; omega))))
  clear b1
  go_wp2
  go_ret
  exact ⟨rfl, HL1.out.alloc HL1.out.size _⟩

theorem implTurnB2 (w : World) (W H : Int) (A : Option Addr) (n c : Nat) (f : Nat → Int) (x y : Int) (hr : Row .i64 w A n c f) (hn : (n : Int) = inner W H) (hW : sideB W = true) (hH : sideB H = true) (h3 : hasB W H x y = true) (ha : y = 2 * H) :
    Calls Try.prog 95 #[.agg #[.int .i64 W, .int .i64 H, .slice A n c], .agg #[.int .i64 x, .int .i64 y]] w (Gives (.int .i64 2) w) := by
  obtain ⟨g1, g2, g3, g4, g5⟩ := has_yes h3
  obtain ⟨c1, c2⟩ := side_mk hW
  obtain ⟨c3, c4⟩ := side_mk hH
  have HL := Lib.hid (show Below w.heap.size w ((w.alloc (.cells #[.int .i64 W, .int .i64 H, .slice A n c] 57)).alloc (.cells #[.int .i64 x, .int .i64 y] 59)) from ((Below.refl _ _).alloc (Nat.le_refl _) _).alloc (by simp) _)
  have e0 : (x == 0) = false := beq_eq_false_iff_ne.2 (by omega)
  have e1 : (x == 2 * W) = false := beq_eq_false_iff_ne.2 (by omega)
  have e2 : (y == 0) = false := beq_eq_false_iff_ne.2 (by omega)
  have e3 : (y == 2 * H) = true := beq_iff_eq.2 ha
  clear ha hr hn
  go_enter Try.func95, Try.ntmps95
  go_wp2_with fail
  refine (sizeOf_any _ W H _ n c).mono ?_
  rintro e w1 ⟨rfl, b1⟩
  obtain ⟨hc1, hf1⟩ := bcell b1
  have hz1 : w.heap.size + 1 < w1.heap.size := by have := b1.size; simp at this; omega
  have hz0 : w.heap.size < w1.heap.size := by omega
  have HL1 := Lib.hid (HL.out.trans (b1.mono (by first | (simp; done) | (simp; omega))))
  clear b1
  go_wp2
  go_ret
  exact ⟨rfl, HL1.out.alloc HL1.out.size _⟩

theorem implTurnC (w : World) (W H : Int) (A : Option Addr) (n c : Nat) (f : Nat → Int) (x y : Int) (hr : Row .i64 w A n c f) (hn : (n : Int) = inner W H) (hW : sideB W = true) (hH : sideB H = true) (h3 : hasB W H x y = true) (ha : edgeB W H x y = false) :
    Calls Try.prog 95 #[.agg #[.int .i64 W, .int .i64 H, .slice A n c], .agg #[.int .i64 x, .int .i64 y]] w (Gives (.int .i64 (f (numN W x y).toNat)) w) := by
  obtain ⟨g1, g2, g3, g4, g5⟩ := has_yes h3
  obtain ⟨c1, c2⟩ := side_mk hW
  obtain ⟨c3, c4⟩ := side_mk hH
  have HL := Lib.hid (show Below w.heap.size w ((w.alloc (.cells #[.int .i64 W, .int .i64 H, .slice A n c] 57)).alloc (.cells #[.int .i64 x, .int .i64 y] 59)) from ((Below.refl _ _).alloc (Nat.le_refl _) _).alloc (by simp) _)
  obtain ⟨d1, d2, d3, d4⟩ := edge_no ha
  obtain ⟨i1, i2, i3, i4⟩ := inside hW hH h3 ha
  obtain ⟨l1, l2⟩ := num_lt hW hH h3 ha
  have l3 : numN W x y < (n : Int) := by rw [hn]; exact l2
  have e0 : (x == 0) = false := beq_eq_false_iff_ne.2 d1
  have e1 : (x == 2 * W) = false := beq_eq_false_iff_ne.2 d3
  have e2 : (y == 0) = false := beq_eq_false_iff_ne.2 d2
  have e3 : (y == 2 * H) = false := beq_eq_false_iff_ne.2 d4
  have hnc := hr.1
  have hcm := hr.2.1
  unfold maxLen at hcm
  obtain ⟨b, o, rfl, hbl, hcell⟩ := hr.2.2.2 (by omega)
  have CK := Lib.hid (hcell (numN W x y).toNat (by omega))
  clear hcell hr hn l2 ha
  go_enter Try.func95, Try.ntmps95
  go_wp2_with fail
  refine (sizeOf_any _ W H _ n c).mono ?_
  rintro e w1 ⟨rfl, b1⟩
  obtain ⟨hc1, hf1⟩ := bcell b1
  have hz1 : w.heap.size + 1 < w1.heap.size := by have := b1.size; simp at this; omega
  have hz0 : w.heap.size < w1.heap.size := by omega
  have HL1 := Lib.hid (HL.out.trans (b1.mono (by first | (simp; done) | (simp; omega))))
  clear b1
  have k0 : w1.cell? ⟨w.heap.size, 0, none⟩ = some (.int .i64 W) := by rw [hc1 _ _ (by first | (simp; done) | (simp; omega))]; simp [go_sem]
  have k1 : w1.cell? ⟨w.heap.size, 1, none⟩ = some (.int .i64 H) := by rw [hc1 _ _ (by first | (simp; done) | (simp; omega))]; simp [go_sem]
  have k2 : w1.cell? ⟨w.heap.size, 2, none⟩ = some (.slice (some ⟨b, o, none⟩) n c) := by rw [hc1 _ _ (by first | (simp; done) | (simp; omega))]; simp [go_sem]
  have m0 : w1.cell? ⟨w.heap.size + 1, 0, none⟩ = some (.int .i64 x) := by rw [hc1 _ _ (by first | (simp; done) | (simp; omega))]; simp [go_sem]
  have m1 : w1.cell? ⟨w.heap.size + 1, 1, none⟩ = some (.int .i64 y) := by rw [hc1 _ _ (by first | (simp; done) | (simp; omega))]; simp [go_sem]
  have bx := HL1.out.cell (p := ⟨b, o + (numN W x y).toNat, none⟩) hbl
  have ck := bx.trans CK.out
  have hb1 := World.block_lt_of_cell? _ _ ck
  have hb2 : b ≠ w1.heap.size := by have : b < w1.heap.size := hb1; omega
  clear bx hb1 hc1 hf1
  go_wp2
  have bN := (Below.refl w1.heap.size w1).alloc (Nat.le_refl _) (.cells #[.int .i64 W, .int .i64 H] 116)
  have k2' := (bN.cell (p := ⟨w.heap.size, 2, none⟩) hz0).trans k2
  have m0' := (bN.cell (p := ⟨w.heap.size + 1, 0, none⟩) hz1).trans m0
  have m1' := (bN.cell (p := ⟨w.heap.size + 1, 1, none⟩) hz1).trans m1
  have ck' := (bN.cell (p := ⟨b, o + (numN W x y).toNat, none⟩) (World.block_lt_of_cell? _ _ ck)).trans ck
  have s0 : (w1.alloc (.cells #[.int .i64 W, .int .i64 H] 116)).cell? ⟨w1.heap.size, 0, none⟩ = some (.int .i64 W) := by simp [go_sem]
  have s1 : (w1.alloc (.cells #[.int .i64 W, .int .i64 H] 116)).cell? ⟨w1.heap.size, 1, none⟩ = some (.int .i64 H) := by simp [go_sem]
  have HLN := Lib.hid (HL1.out.trans (bN.mono HL1.out.size))
  have zN : w1.heap.size < (w1.alloc (.cells #[.int .i64 W, .int .i64 H] 116)).heap.size := by simp
  clear bN k0 k1 k2 m0 m1 ck
  generalize w1.alloc (.cells #[.int .i64 W, .int .i64 H] 116) = w2 at *
  generalize w1.heap.size = bS at *
  have hw2 : w.heap.size + 1 < w2.heap.size := by omega
  have hw3 : w.heap.size < w2.heap.size := by omega
  have hw4 := World.block_lt_of_cell? _ _ ck'
  have hw5 : b < w2.heap.size := hw4
  clear hw4
  have OL := Lib.hid (Old.mk_ (Below.refl w2.heap.size w2).drew)
  go_region_held3 (fun w' => (∀ b o, b < (w2).heap.size → w'.cell? ⟨b, o, none⟩ = (w2).cell? ⟨b, o, none⟩) ∧ Below (w2).heap.size (w2) w')
    (first | assumption | exact OL.out | exact Old.trans (by assumption) (by assumption))
    (first | (go_at_call 125; refine (numberOf_any _ W H x y hW i1 i2 i3 i4).mono ?_; rintro e wa ⟨rfl, ba⟩))
  rename_i hS
  have hB3 := hS.2
  clear hS OL
  go_wp2
  go_ret
  exact ⟨rfl, HLN.out.trans (hB3.mono HLN.out.size)⟩

theorem tk_A {W H : Int} {f : Nat → Int} {x y : Int} (h : x = 0 ∨ x = 2 * W) : tkOf W H f x y = 1 := if_pos h
theorem tk_B {W H : Int} {f : Nat → Int} {x y : Int} (h : ¬ (x = 0 ∨ x = 2 * W)) (h2 : y = 0 ∨ y = 2 * H) : tkOf W H f x y = 2 := by unfold tkOf; rw [if_neg h, if_pos h2]
theorem tk_C {W H : Int} {f : Nat → Int} {x y : Int} (h : ¬ (x = 0 ∨ x = 2 * W)) (h2 : ¬ (y = 0 ∨ y = 2 * H)) : tkOf W H f x y = f (numN W x y).toNat := by unfold tkOf; rw [if_neg h, if_neg h2]
theorem edge_mk {W H x y : Int} (h : ¬ (x = 0 ∨ x = 2 * W)) (h2 : ¬ (y = 0 ∨ y = 2 * H)) : edgeB W H x y = false := by
  unfold edgeB
  exact decide_eq_false (by omega)
theorem implTurn (w : World) (W H : Int) (A : Option Addr) (n c : Nat) (f : Nat → Int) (x y : Int) (hr : Row .i64 w A n c f) (hn : (n : Int) = inner W H) (hW : sideB W = true) (hH : sideB H = true) (h3 : hasB W H x y = true) :
    Calls Try.prog 95 #[.agg #[.int .i64 W, .int .i64 H, .slice A n c], .agg #[.int .i64 x, .int .i64 y]] w (Gives (.int .i64 (tkOf W H f x y)) w) := by
  obtain ⟨g1, g2, g3, g4, g5⟩ := has_yes h3
  by_cases hA : x = 0 ∨ x = 2 * W
  · rw [tk_A hA]
    rcases hA with h | h
    · exact implTurnA1 w W H A n c f x y hr hn hW hH h3 h
    · exact implTurnA2 w W H A n c f x y hr hn hW hH h3 h
  · by_cases hB : y = 0 ∨ y = 2 * H
    · rw [tk_B hA hB]
      rcases hB with h | h
      · exact implTurnB1 w W H A n c f x y hr hn hW hH h3 h
      · exact implTurnB2 w W H A n c f x y hr hn hW hH h3 h
    · rw [tk_C hA hB]
      exact implTurnC w W H A n c f x y hr hn hW hH h3 (edge_mk hA hB)
/-- the kinds of a valid panel -/
theorem kind_of {n : Nat} {f : Nat → Int} (h : kindsB n f = true) {i : Nat} (hi : i < n) : f i = 0 ∨ f i = 1 ∨ f i = 2 := by
  have := kinds_iff.1 h i hi
  omega
theorem specStep (w : World) (p : Nat) (W H : Int) (A : Option Addr) (n c : Nat) (f : Nat → Int) (x y dx dy : Int) (hb : Box w p W H A n c) (hr : Row .i64 w A n c f) (hn : (n : Int) = inner W H) (hK : kindsB n f = true) (hW : sideB W = true) (hH : sideB H = true) (x1 : 0 ≤ x) (x2 : x ≤ 16) (y1 : 0 ≤ y) (y2 : y ≤ 16) (hx : signB dx = true) (hy : signB dy = true)
    (h3 : hasB W H (x + dx) (y + dy) = true) :
    Calls Try.prog 94 #[.pointer (some ⟨p, 0, none⟩), .agg #[.int .i64 x, .int .i64 y, .int .i64 dx, .int .i64 dy]] w (Gives (.agg #[.int .i64 (x + dx), .int .i64 (y + dy), .int .i64 (stDX W H f x y dx dy), .int .i64 (stDY W H f x y dx dy)]) w) := by
  unfold stDX stDY
  by_cases hA : x + dx = 0 ∨ x + dx = 2 * W
  · rw [tk_A hA, if_pos rfl, if_neg (by omega)]
    rcases hA with h | h
    · exact specStepA1 w p W H A n c f x y dx dy hb hr hn hW hH x1 x2 y1 y2 hx hy h3 h
    · exact specStepA2 w p W H A n c f x y dx dy hb hr hn hW hH x1 x2 y1 y2 hx hy h3 h
  · by_cases hB : y + dy = 0 ∨ y + dy = 2 * H
    · rw [tk_B hA hB, if_neg (by omega), if_pos rfl]
      rcases hB with h | h
      · exact specStepB1 w p W H A n c f x y dx dy hb hr hn hW hH x1 x2 y1 y2 hx hy h3 h
      · exact specStepB2 w p W H A n c f x y dx dy hb hr hn hW hH x1 x2 y1 y2 hx hy h3 h
    · rw [tk_C hA hB]
      have he := edge_mk hA hB
      obtain ⟨l1, l2⟩ := num_lt hW hH h3 he
      have l3 : numN W (x + dx) (y + dy) < (n : Int) := by rw [hn]; exact l2
      rcases kind_of hK (show (numN W (x + dx) (y + dy)).toNat < n by omega) with h | h | h
      · rw [h, if_neg (by omega), if_neg (by omega)]
        exact specStepC0 w p W H A n c f x y dx dy hb hr hn hW hH x1 x2 y1 y2 hx hy h3 ⟨he, h⟩
      · rw [h, if_pos rfl, if_neg (by omega)]
        exact specStepC1 w p W H A n c f x y dx dy hb hr hn hW hH x1 x2 y1 y2 hx hy h3 ⟨he, h⟩
      · rw [h, if_neg (by omega), if_pos rfl]
        exact specStepC2 w p W H A n c f x y dx dy hb hr hn hW hH x1 x2 y1 y2 hx hy h3 ⟨he, h⟩
end Go.Proofs.Ytfgbfmpolhilcab.Base

namespace Go.Proofs.Ytfgbfmpolhilcab.Base
open Go.RowKit
set_option linter.unusedVariables false
set_option linter.unusedSimpArgs false

def tnB (W H : Int) (n : Nat) (f : Nat → Int) (x y dx dy : Int) : Bool := if wkB W H n f x y dx dy then decide (tkOf W H f (x + dx) (y + dy) ≠ 0) else false
theorem tnB_no {W H : Int} {n : Nat} {f : Nat → Int} {x y dx dy : Int} (h : wkB W H n f x y dx dy = false) : tnB W H n f x y dx dy = false := by simp [tnB, h]
theorem tnB_0 {W H : Int} {n : Nat} {f : Nat → Int} {x y dx dy : Int} (h : wkB W H n f x y dx dy = true) (h2 : tkOf W H f (x + dx) (y + dy) = 0) : tnB W H n f x y dx dy = false := by simp [tnB, h, h2]
theorem tnB_1 {W H : Int} {n : Nat} {f : Nat → Int} {x y dx dy : Int} (h : wkB W H n f x y dx dy = true) (h2 : tkOf W H f (x + dx) (y + dy) ≠ 0) : tnB W H n f x y dx dy = true := by simp [tnB, h, h2]
theorem tk_kind {W H : Int} {n : Nat} {f : Nat → Int} {x y : Int} (hn : (n : Int) = inner W H) (hK : kindsB n f = true) (hW : sideB W = true) (hH : sideB H = true) (h3 : hasB W H x y = true) : tkOf W H f x y = 0 ∨ tkOf W H f x y = 1 ∨ tkOf W H f x y = 2 := by
  by_cases hA : x = 0 ∨ x = 2 * W
  · exact .inr (.inl (tk_A hA))
  · by_cases hB : y = 0 ∨ y = 2 * H
    · exact .inr (.inr (tk_B hA hB))
    · rw [tk_C hA hB]
      have he := edge_mk hA hB
      obtain ⟨l1, l2⟩ := num_lt hW hH h3 he
      exact kind_of hK (by omega)
theorem goAll {W H x y dx dy : Int} {n : Nat} {f : Nat → Int} (h : wkB W H n f x y dx dy = true) : (n : Int) = inner W H ∧ kindsB n f = true := by
  obtain ⟨hv, -⟩ := wk_valid h
  obtain ⟨-, -, h3, h4⟩ := validB_yes hv
  exact ⟨h3, h4⟩

theorem spec_turnsNo (w : World) (W H : Int) (A : Option Addr) (n c : Nat) (f : Nat → Int) (x y dx dy : Int) (hr : Row .i64 w A n c f) (hw : wkB W H n f x y dx dy = false) :
    Calls Try.prog 49 #[.agg #[.int .i64 W, .int .i64 H, .slice A n c], .agg #[.int .i64 x, .int .i64 y, .int .i64 dx, .int .i64 dy]] w (Gives (.tuple #[.bool false, .int .i64 1]) w) := by
  have HL := Lib.hid (show Below w.heap.size w ((w.alloc (.cells #[.int .i64 W, .int .i64 H, .slice A n c] 57)).alloc (.cells #[.int .i64 x, .int .i64 y, .int .i64 dx, .int .i64 dy] 61)) from ((Below.refl _ _).alloc (Nat.le_refl _) _).alloc (by simp) _)
  have HR := Lib.hid hr
  have HC := Lib.hid (wkC_no hw)
  clear hr hw
  go_enter Try.func49, Try.ntmps49
  go_wp2_with fail
  refine (specC_is HC.out (panel_walker w _ _ W H A n c _ _ _ _) (HR.out.below HL.out (Nat.le_refl _))).mono ?_
  rintro e w1 ⟨rfl, b1⟩
  go_wp2
  go_ret2
  exact ⟨rfl, HL.out.trans (b1.mono (by first | (simp; done) | (simp; omega)))⟩
theorem spec_turns0 (w : World) (W H : Int) (A : Option Addr) (n c : Nat) (f : Nat → Int) (x y dx dy : Int) (hr : Row .i64 w A n c f) (hw : wkB W H n f x y dx dy = true) (ht : tkOf W H f (x + dx) (y + dy) = 0) :
    Calls Try.prog 49 #[.agg #[.int .i64 W, .int .i64 H, .slice A n c], .agg #[.int .i64 x, .int .i64 y, .int .i64 dx, .int .i64 dy]] w (Gives (.tuple #[.bool false, .int .i64 0]) w) := by
  have HL := Lib.hid (show Below w.heap.size w ((w.alloc (.cells #[.int .i64 W, .int .i64 H, .slice A n c] 57)).alloc (.cells #[.int .i64 x, .int .i64 y, .int .i64 dx, .int .i64 dy] 61)) from ((Below.refl _ _).alloc (Nat.le_refl _) _).alloc (by simp) _)
  have HR := Lib.hid hr
  have HC := Lib.hid (wkC_yes hw)
  obtain ⟨hW, hH, x1, x2, y1, y2, q1, q2⟩ := goW hw
  obtain ⟨h4, -⟩ := goNext hw
  obtain ⟨hn, hK⟩ := goAll hw
  have EX := Lib.hid (show stDX W H f x y dx dy = dx from by simp [stDX, ht])
  have EY := Lib.hid (show stDY W H f x y dx dy = dy from by simp [stDY, ht])
  have s1 := sign_yes q1
  have s2 := sign_yes q2
  have f1 : ((dx) != dx) = false := by simp
  have f2 : ((dy) != dy) = false := by simp
  have HN := Lib.hid hn
  clear hr hw ht s1 s2 hn
  go_enter Try.func49, Try.ntmps49
  go_wp2_with fail
  refine (specC_is HC.out (panel_walker w _ _ W H A n c _ _ _ _) (HR.out.below HL.out (Nat.le_refl _))).mono ?_
  rintro e w1 ⟨rfl, b1⟩
  obtain ⟨hc1, hf1⟩ := bcell b1
  have HX := Lib.hid ((panel_walker w 57 61 W H A n c x y dx dy).below b1 (by first | (simp; done) | (simp; omega)))
  have HB1 := Lib.hid (HL.out.trans (b1.mono (by first | (simp; done) | (simp; omega))))
  have hz1 : w.heap.size + 1 < w1.heap.size := by have := b1.size; simp at this; omega
  have hz0 : w.heap.size < w1.heap.size := by omega
  clear b1
  go_wp2_with fail
  refine (specStep _ w.heap.size W H A n c f x y dx dy HX.out (HR.out.below HB1.out (Nat.le_refl _)) HN.out hK hW hH x1 x2 y1 y2 q1 q2 h4).mono ?_
  rintro e w2 ⟨rfl, b2⟩
  simp only [EX.out, EY.out]
  have m2 : w1.cell? ⟨w.heap.size + 1, 2, none⟩ = some (.int .i64 dx) := by rw [hc1 _ _ (by first | (simp; done) | (simp; omega))]; simp [go_sem]
  have m3 : w1.cell? ⟨w.heap.size + 1, 3, none⟩ = some (.int .i64 dy) := by rw [hc1 _ _ (by first | (simp; done) | (simp; omega))]; simp [go_sem]
  have m2' := (b2.cell (p := ⟨w.heap.size + 1, 2, none⟩) hz1).trans m2
  have m3' := (b2.cell (p := ⟨w.heap.size + 1, 3, none⟩) hz1).trans m3
  have HB2 := Lib.hid (HB1.out.trans (b2.mono HB1.out.size))
  have hz2 : w.heap.size + 1 < w2.heap.size := Nat.lt_of_lt_of_le hz1 b2.size
  clear b2 hc1 hf1 m2 m3
  have hne : w.heap.size + 1 ≠ w2.heap.size := Nat.ne_of_lt hz2
  go_wp2
  go_ret2
  exact ⟨rfl, HB2.out.alloc HB2.out.size _⟩
theorem spec_turns1 (w : World) (W H : Int) (A : Option Addr) (n c : Nat) (f : Nat → Int) (x y dx dy : Int) (hr : Row .i64 w A n c f) (hw : wkB W H n f x y dx dy = true) (ht : tkOf W H f (x + dx) (y + dy) = 1) :
    Calls Try.prog 49 #[.agg #[.int .i64 W, .int .i64 H, .slice A n c], .agg #[.int .i64 x, .int .i64 y, .int .i64 dx, .int .i64 dy]] w (Gives (.tuple #[.bool true, .int .i64 0]) w) := by
  have HL := Lib.hid (show Below w.heap.size w ((w.alloc (.cells #[.int .i64 W, .int .i64 H, .slice A n c] 57)).alloc (.cells #[.int .i64 x, .int .i64 y, .int .i64 dx, .int .i64 dy] 61)) from ((Below.refl _ _).alloc (Nat.le_refl _) _).alloc (by simp) _)
  have HR := Lib.hid hr
  have HC := Lib.hid (wkC_yes hw)
  obtain ⟨hW, hH, x1, x2, y1, y2, q1, q2⟩ := goW hw
  obtain ⟨h4, -⟩ := goNext hw
  obtain ⟨hn, hK⟩ := goAll hw
  have EX := Lib.hid (show stDX W H f x y dx dy = (-dx) from by simp [stDX, ht])
  have EY := Lib.hid (show stDY W H f x y dx dy = dy from by simp [stDY, ht])
  have s1 := sign_yes q1
  have s2 := sign_yes q2
  have f1 : (((-dx)) != dx) = true := bne_iff_ne.2 (by omega)
  have f2 : ((dy) != dy) = false := by simp
  have HN := Lib.hid hn
  clear hr hw ht s1 s2 hn
  go_enter Try.func49, Try.ntmps49
  go_wp2_with fail
  refine (specC_is HC.out (panel_walker w _ _ W H A n c _ _ _ _) (HR.out.below HL.out (Nat.le_refl _))).mono ?_
  rintro e w1 ⟨rfl, b1⟩
  obtain ⟨hc1, hf1⟩ := bcell b1
  have HX := Lib.hid ((panel_walker w 57 61 W H A n c x y dx dy).below b1 (by first | (simp; done) | (simp; omega)))
  have HB1 := Lib.hid (HL.out.trans (b1.mono (by first | (simp; done) | (simp; omega))))
  have hz1 : w.heap.size + 1 < w1.heap.size := by have := b1.size; simp at this; omega
  have hz0 : w.heap.size < w1.heap.size := by omega
  clear b1
  go_wp2_with fail
  refine (specStep _ w.heap.size W H A n c f x y dx dy HX.out (HR.out.below HB1.out (Nat.le_refl _)) HN.out hK hW hH x1 x2 y1 y2 q1 q2 h4).mono ?_
  rintro e w2 ⟨rfl, b2⟩
  simp only [EX.out, EY.out]
  have m2 : w1.cell? ⟨w.heap.size + 1, 2, none⟩ = some (.int .i64 dx) := by rw [hc1 _ _ (by first | (simp; done) | (simp; omega))]; simp [go_sem]
  have m3 : w1.cell? ⟨w.heap.size + 1, 3, none⟩ = some (.int .i64 dy) := by rw [hc1 _ _ (by first | (simp; done) | (simp; omega))]; simp [go_sem]
  have m2' := (b2.cell (p := ⟨w.heap.size + 1, 2, none⟩) hz1).trans m2
  have m3' := (b2.cell (p := ⟨w.heap.size + 1, 3, none⟩) hz1).trans m3
  have HB2 := Lib.hid (HB1.out.trans (b2.mono HB1.out.size))
  have hz2 : w.heap.size + 1 < w2.heap.size := Nat.lt_of_lt_of_le hz1 b2.size
  clear b2 hc1 hf1 m2 m3
  have hne : w.heap.size + 1 ≠ w2.heap.size := Nat.ne_of_lt hz2
  go_wp2
  go_ret2
  exact ⟨rfl, HB2.out.alloc HB2.out.size _⟩
theorem spec_turns2 (w : World) (W H : Int) (A : Option Addr) (n c : Nat) (f : Nat → Int) (x y dx dy : Int) (hr : Row .i64 w A n c f) (hw : wkB W H n f x y dx dy = true) (ht : tkOf W H f (x + dx) (y + dy) = 2) :
    Calls Try.prog 49 #[.agg #[.int .i64 W, .int .i64 H, .slice A n c], .agg #[.int .i64 x, .int .i64 y, .int .i64 dx, .int .i64 dy]] w (Gives (.tuple #[.bool true, .int .i64 0]) w) := by
  have HL := Lib.hid (show Below w.heap.size w ((w.alloc (.cells #[.int .i64 W, .int .i64 H, .slice A n c] 57)).alloc (.cells #[.int .i64 x, .int .i64 y, .int .i64 dx, .int .i64 dy] 61)) from ((Below.refl _ _).alloc (Nat.le_refl _) _).alloc (by simp) _)
  have HR := Lib.hid hr
  have HC := Lib.hid (wkC_yes hw)
  obtain ⟨hW, hH, x1, x2, y1, y2, q1, q2⟩ := goW hw
  obtain ⟨h4, -⟩ := goNext hw
  obtain ⟨hn, hK⟩ := goAll hw
  have EX := Lib.hid (show stDX W H f x y dx dy = dx from by simp [stDX, ht])
  have EY := Lib.hid (show stDY W H f x y dx dy = (-dy) from by simp [stDY, ht])
  have s1 := sign_yes q1
  have s2 := sign_yes q2
  have f1 : ((dx) != dx) = false := by simp
  have f2 : (((-dy)) != dy) = true := bne_iff_ne.2 (by omega)
  have HN := Lib.hid hn
  clear hr hw ht s1 s2 hn
  go_enter Try.func49, Try.ntmps49
  go_wp2_with fail
  refine (specC_is HC.out (panel_walker w _ _ W H A n c _ _ _ _) (HR.out.below HL.out (Nat.le_refl _))).mono ?_
  rintro e w1 ⟨rfl, b1⟩
  obtain ⟨hc1, hf1⟩ := bcell b1
  have HX := Lib.hid ((panel_walker w 57 61 W H A n c x y dx dy).below b1 (by first | (simp; done) | (simp; omega)))
  have HB1 := Lib.hid (HL.out.trans (b1.mono (by first | (simp; done) | (simp; omega))))
  have hz1 : w.heap.size + 1 < w1.heap.size := by have := b1.size; simp at this; omega
  have hz0 : w.heap.size < w1.heap.size := by omega
  clear b1
  go_wp2_with fail
  refine (specStep _ w.heap.size W H A n c f x y dx dy HX.out (HR.out.below HB1.out (Nat.le_refl _)) HN.out hK hW hH x1 x2 y1 y2 q1 q2 h4).mono ?_
  rintro e w2 ⟨rfl, b2⟩
  simp only [EX.out, EY.out]
  have m2 : w1.cell? ⟨w.heap.size + 1, 2, none⟩ = some (.int .i64 dx) := by rw [hc1 _ _ (by first | (simp; done) | (simp; omega))]; simp [go_sem]
  have m3 : w1.cell? ⟨w.heap.size + 1, 3, none⟩ = some (.int .i64 dy) := by rw [hc1 _ _ (by first | (simp; done) | (simp; omega))]; simp [go_sem]
  have m2' := (b2.cell (p := ⟨w.heap.size + 1, 2, none⟩) hz1).trans m2
  have m3' := (b2.cell (p := ⟨w.heap.size + 1, 3, none⟩) hz1).trans m3
  have HB2 := Lib.hid (HB1.out.trans (b2.mono HB1.out.size))
  have hz2 : w.heap.size + 1 < w2.heap.size := Nat.lt_of_lt_of_le hz1 b2.size
  clear b2 hc1 hf1 m2 m3
  have hne : w.heap.size + 1 ≠ w2.heap.size := Nat.ne_of_lt hz2
  go_wp2
  go_ret2
  exact ⟨rfl, HB2.out.alloc HB2.out.size _⟩
theorem spec_turnsOf (w : World) (W H : Int) (A : Option Addr) (n c : Nat) (f : Nat → Int) (x y dx dy : Int) (hr : Row .i64 w A n c f) :
    Calls Try.prog 49 #[.agg #[.int .i64 W, .int .i64 H, .slice A n c], .agg #[.int .i64 x, .int .i64 y, .int .i64 dx, .int .i64 dy]] w (Gives (.tuple #[.bool (tnB W H n f x y dx dy), .int .i64 (wkC W H n f x y dx dy)]) w) := by
  cases hw : wkB W H n f x y dx dy
  · rw [tnB_no hw, wkC_no hw]
    exact spec_turnsNo w W H A n c f x y dx dy hr hw
  · obtain ⟨hW, hH, -⟩ := goW hw
    obtain ⟨h4, -⟩ := goNext hw
    obtain ⟨hn, hK⟩ := goAll hw
    rw [wkC_yes hw]
    rcases tk_kind hn hK hW hH h4 with h | h | h
    · rw [tnB_0 hw h]
      exact spec_turns0 w W H A n c f x y dx dy hr hw h
    · rw [tnB_1 hw (by omega)]
      exact spec_turns1 w W H A n c f x y dx dy hr hw h
    · rw [tnB_1 hw (by omega)]
      exact spec_turns2 w W H A n c f x y dx dy hr hw h

theorem impl_turnsYes (w : World) (W H : Int) (A : Option Addr) (n c : Nat) (f : Nat → Int) (x y dx dy : Int) (hr : Row .i64 w A n c f) (hw : wkB W H n f x y dx dy = true) (v : Bool) (hv : (tkOf W H f (x + dx) (y + dy) != 0) = v) :
    Calls Try.prog 50 #[.agg #[.int .i64 W, .int .i64 H, .slice A n c], .agg #[.int .i64 x, .int .i64 y, .int .i64 dx, .int .i64 dy]] w (Gives (.tuple #[.bool v, .int .i64 0]) w) := by
  have HL := Lib.hid (show Below w.heap.size w ((w.alloc (.cells #[.int .i64 W, .int .i64 H, .slice A n c] 57)).alloc (.cells #[.int .i64 x, .int .i64 y, .int .i64 dx, .int .i64 dy] 61)) from ((Below.refl _ _).alloc (Nat.le_refl _) _).alloc (by simp) _)
  have HR := Lib.hid hr
  have HRW := Lib.hid (hr.below HL.out (Nat.le_refl _))
  have HC := Lib.hid hw
  obtain ⟨hW, hH, x1, x2, y1, y2, q1, q2⟩ := goW hw
  obtain ⟨h4, -⟩ := goNext hw
  obtain ⟨hn, hK⟩ := goAll hw
  have HN := Lib.hid hn
  clear hr hw hn
  go_enter Try.func50, Try.ntmps50
  go_wp2_with fail
  refine (implW_is HC.out (HR.out.below HL.out (Nat.le_refl _))).mono ?_
  rintro e w1 ⟨rfl, b1⟩
  have OL := Lib.hid ((Old.mk_ b1.drew))
  clear b1
  go_wp2_with fail
  go_region_held3 (fun w' => (∀ b o, b < ((w.alloc (.cells #[.int .i64 W, .int .i64 H, .slice A n c] 57)).alloc (.cells #[.int .i64 x, .int .i64 y, .int .i64 dx, .int .i64 dy] 61)).heap.size → w'.cell? ⟨b, o, none⟩ = ((w.alloc (.cells #[.int .i64 W, .int .i64 H, .slice A n c] 57)).alloc (.cells #[.int .i64 x, .int .i64 y, .int .i64 dx, .int .i64 dy] 61)).cell? ⟨b, o, none⟩) ∧ Below ((w.alloc (.cells #[.int .i64 W, .int .i64 H, .slice A n c] 57)).alloc (.cells #[.int .i64 x, .int .i64 y, .int .i64 dx, .int .i64 dy] 61)).heap.size ((w.alloc (.cells #[.int .i64 W, .int .i64 H, .slice A n c] 57)).alloc (.cells #[.int .i64 x, .int .i64 y, .int .i64 dx, .int .i64 dy] 61)) w')
    (first | assumption | exact OL.out | exact Old.trans (by assumption) (by assumption))
    (first | (go_at_call 96; refine (implNext _ x y dx dy x1 x2 y1 y2 q1 q2).mono ?_; rintro e wa ⟨rfl, ba⟩) | (go_at_call 95; refine (implTurn _ W H A n c f (x + dx) (y + dy) ?_ HN.out hW hH h4).mono ?_; exact HRW.out.old (by assumption); rintro e wb ⟨rfl, bb⟩))
  rename_i hS
  have hB := hS.2
  clear hS
  go_wp2
  go_ret2
  exact ⟨rfl, HL.out.trans (hB.mono (by first | (simp; done) | (simp; omega)))⟩
theorem impl_turnsOf (w : World) (W H : Int) (A : Option Addr) (n c : Nat) (f : Nat → Int) (x y dx dy : Int) (hr : Row .i64 w A n c f) :
    Calls Try.prog 50 #[.agg #[.int .i64 W, .int .i64 H, .slice A n c], .agg #[.int .i64 x, .int .i64 y, .int .i64 dx, .int .i64 dy]] w (Gives (.tuple #[.bool (tnB W H n f x y dx dy), .int .i64 (wkC W H n f x y dx dy)]) w) := by
  cases hw : wkB W H n f x y dx dy
  · rw [tnB_no hw, wkC_no hw]
    have HL := Lib.hid (show Below w.heap.size w ((w.alloc (.cells #[.int .i64 W, .int .i64 H, .slice A n c] 57)).alloc (.cells #[.int .i64 x, .int .i64 y, .int .i64 dx, .int .i64 dy] 61)) from ((Below.refl _ _).alloc (Nat.le_refl _) _).alloc (by simp) _)
    have HR := Lib.hid hr
    have HC := Lib.hid hw
    clear hr hw
    go_enter Try.func50, Try.ntmps50
    go_wp2_with fail
    refine (implW_is HC.out (HR.out.below HL.out (Nat.le_refl _))).mono ?_
    rintro e w1 ⟨rfl, b1⟩
    go_wp2
    go_ret2
    exact ⟨rfl, HL.out.trans (b1.mono (by first | (simp; done) | (simp; omega)))⟩
  · rw [wkC_yes hw]
    by_cases h : tkOf W H f (x + dx) (y + dy) = 0
    · rw [tnB_0 hw h]
      exact impl_turnsYes w W H A n c f x y dx dy hr hw false (by rw [h]; rfl)
    · rw [tnB_1 hw h]
      exact impl_turnsYes w W H A n c f x y dx dy hr hw true (bne_iff_ne.2 h)
end Go.Proofs.Ytfgbfmpolhilcab.Base

namespace Go.Proofs.Ytfgbfmpolhilcab.Base
open Go.RowKit
set_option linter.unusedVariables false
set_option linter.unusedSimpArgs false

end Go.Proofs.Ytfgbfmpolhilcab.Base
