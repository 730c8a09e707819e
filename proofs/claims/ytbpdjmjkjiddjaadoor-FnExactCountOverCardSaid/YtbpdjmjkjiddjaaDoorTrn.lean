/-
  How a point turns: the program's.
-/
import Derived.Test.YtbpdjmjkjiddjaaDoorStp
import Derived.Test.YtbpdjmjkjiddjaaDoorShape
namespace Go.Proofs.YtbpdjmjkjiddjaaDoor.Base
open Go.RowKit
set_option linter.unusedVariables false
set_option linter.unusedSimpArgs false

theorem implTurnA1 (w : World) (W H : Int) (A : Option Addr) (n c : Nat) (f : Nat → Int) (x y : Int) (hr : Row .i64 w A n c f) (hn : (n : Int) = inner W H) (hW : sideB W = true) (hH : sideB H = true) (h3 : hasB W H x y = true) (ha : x = 0) :
    Calls Tryd.prog 145 #[.agg #[.int .i64 W, .int .i64 H, .slice A n c], .agg #[.int .i64 x, .int .i64 y]] w (Gives (.int .i64 1) w) := by
  obtain ⟨g1, g2, g3, g4, g5⟩ := has_yes h3
  obtain ⟨c1, c2⟩ := side_mk hW
  obtain ⟨c3, c4⟩ := side_mk hH
  have HL := Lib.hid (show Below w.heap.size w ((w.alloc (.cells #[.int .i64 W, .int .i64 H, .slice A n c] 35)).alloc (.cells #[.int .i64 x, .int .i64 y] 61)) from ((Below.refl _ _).alloc (Nat.le_refl _) _).alloc (by simp) _)
  have e0 : (x == 0) = true := beq_iff_eq.2 ha
  clear ha hr hn
  go_enter Tryd.func145, Tryd.ntmps145
  go_wp2_with fail
  refine (sizeOf_any _ W H _ n c).mono ?_
  rintro e w1 ⟨rfl, b1⟩
  obtain ⟨hc1, hf1⟩ := bcell b1
  have hz1 : w.heap.size + 1 < w1.heap.size := by have := b1.size; simp at this; omega
  have hz0 : w.heap.size < w1.heap.size := by omega
  have HL1 := Lib.hid (HL.out.trans (b1.mono (by first | (simp; done) | (simp; omega))))
  clear b1
  go_wp2
  go_ret
  exact ⟨rfl, HL1.out.alloc HL1.out.size _⟩

theorem implTurnA2 (w : World) (W H : Int) (A : Option Addr) (n c : Nat) (f : Nat → Int) (x y : Int) (hr : Row .i64 w A n c f) (hn : (n : Int) = inner W H) (hW : sideB W = true) (hH : sideB H = true) (h3 : hasB W H x y = true) (ha : x = 2 * W) :
    Calls Tryd.prog 145 #[.agg #[.int .i64 W, .int .i64 H, .slice A n c], .agg #[.int .i64 x, .int .i64 y]] w (Gives (.int .i64 1) w) := by
  obtain ⟨g1, g2, g3, g4, g5⟩ := has_yes h3
  obtain ⟨c1, c2⟩ := side_mk hW
  obtain ⟨c3, c4⟩ := side_mk hH
  have HL := Lib.hid (show Below w.heap.size w ((w.alloc (.cells #[.int .i64 W, .int .i64 H, .slice A n c] 35)).alloc (.cells #[.int .i64 x, .int .i64 y] 61)) from ((Below.refl _ _).alloc (Nat.le_refl _) _).alloc (by simp) _)
  have e0 : (x == 0) = false := beq_eq_false_iff_ne.2 (by omega)
  have e1 : (x == 2 * W) = true := beq_iff_eq.2 ha
  clear ha hr hn
  go_enter Tryd.func145, Tryd.ntmps145
  go_wp2_with fail
  refine (sizeOf_any _ W H _ n c).mono ?_
  rintro e w1 ⟨rfl, b1⟩
  obtain ⟨hc1, hf1⟩ := bcell b1
  have hz1 : w.heap.size + 1 < w1.heap.size := by have := b1.size; simp at this; omega
  have hz0 : w.heap.size < w1.heap.size := by omega
  have HL1 := Lib.hid (HL.out.trans (b1.mono (by first | (simp; done) | (simp; omega))))
  clear b1
  go_wp2
  go_ret
  exact ⟨rfl, HL1.out.alloc HL1.out.size _⟩

theorem implTurnB1 (w : World) (W H : Int) (A : Option Addr) (n c : Nat) (f : Nat → Int) (x y : Int) (hr : Row .i64 w A n c f) (hn : (n : Int) = inner W H) (hW : sideB W = true) (hH : sideB H = true) (h3 : hasB W H x y = true) (ha : y = 0) :
    Calls Tryd.prog 145 #[.agg #[.int .i64 W, .int .i64 H, .slice A n c], .agg #[.int .i64 x, .int .i64 y]] w (Gives (.int .i64 2) w) := by
  obtain ⟨g1, g2, g3, g4, g5⟩ := has_yes h3
  obtain ⟨c1, c2⟩ := side_mk hW
  obtain ⟨c3, c4⟩ := side_mk hH
  have HL := Lib.hid (show Below w.heap.size w ((w.alloc (.cells #[.int .i64 W, .int .i64 H, .slice A n c] 35)).alloc (.cells #[.int .i64 x, .int .i64 y] 61)) from ((Below.refl _ _).alloc (Nat.le_refl _) _).alloc (by simp) _)
  have e0 : (x == 0) = false := beq_eq_false_iff_ne.2 (by omega)
  have e1 : (x == 2 * W) = false := beq_eq_false_iff_ne.2 (by omega)
  have e2 : (y == 0) = true := beq_iff_eq.2 ha
  clear ha hr hn
  go_enter Tryd.func145, Tryd.ntmps145
  go_wp2_with fail
  refine (sizeOf_any _ W H _ n c).mono ?_
  rintro e w1 ⟨rfl, b1⟩
  obtain ⟨hc1, hf1⟩ := bcell b1
  have hz1 : w.heap.size + 1 < w1.heap.size := by have := b1.size; simp at this; omega
  have hz0 : w.heap.size < w1.heap.size := by omega
  have HL1 := Lib.hid (HL.out.trans (b1.mono (by first | (simp; done) | (simp; omega))))
  clear b1
  go_wp2
  go_ret
  exact ⟨rfl, HL1.out.alloc HL1.out.size _⟩

theorem implTurnB2 (w : World) (W H : Int) (A : Option Addr) (n c : Nat) (f : Nat → Int) (x y : Int) (hr : Row .i64 w A n c f) (hn : (n : Int) = inner W H) (hW : sideB W = true) (hH : sideB H = true) (h3 : hasB W H x y = true) (ha : y = 2 * H) :
    Calls Tryd.prog 145 #[.agg #[.int .i64 W, .int .i64 H, .slice A n c], .agg #[.int .i64 x, .int .i64 y]] w (Gives (.int .i64 2) w) := by
  obtain ⟨g1, g2, g3, g4, g5⟩ := has_yes h3
  obtain ⟨c1, c2⟩ := side_mk hW
  obtain ⟨c3, c4⟩ := side_mk hH
  have HL := Lib.hid (show Below w.heap.size w ((w.alloc (.cells #[.int .i64 W, .int .i64 H, .slice A n c] 35)).alloc (.cells #[.int .i64 x, .int .i64 y] 61)) from ((Below.refl _ _).alloc (Nat.le_refl _) _).alloc (by simp) _)
  have e0 : (x == 0) = false := beq_eq_false_iff_ne.2 (by omega)
  have e1 : (x == 2 * W) = false := beq_eq_false_iff_ne.2 (by omega)
  have e2 : (y == 0) = false := beq_eq_false_iff_ne.2 (by omega)
  have e3 : (y == 2 * H) = true := beq_iff_eq.2 ha
  clear ha hr hn
  go_enter Tryd.func145, Tryd.ntmps145
  go_wp2_with fail
  refine (sizeOf_any _ W H _ n c).mono ?_
  rintro e w1 ⟨rfl, b1⟩
  obtain ⟨hc1, hf1⟩ := bcell b1
  have hz1 : w.heap.size + 1 < w1.heap.size := by have := b1.size; simp at this; omega
  have hz0 : w.heap.size < w1.heap.size := by omega
  have HL1 := Lib.hid (HL.out.trans (b1.mono (by first | (simp; done) | (simp; omega))))
  clear b1
  go_wp2
  go_ret
  exact ⟨rfl, HL1.out.alloc HL1.out.size _⟩

theorem implTurnC (w : World) (W H : Int) (A : Option Addr) (n c : Nat) (f : Nat → Int) (x y : Int) (hr : Row .i64 w A n c f) (hn : (n : Int) = inner W H) (hW : sideB W = true) (hH : sideB H = true) (h3 : hasB W H x y = true) (ha : edgeB W H x y = false) :
    Calls Tryd.prog 145 #[.agg #[.int .i64 W, .int .i64 H, .slice A n c], .agg #[.int .i64 x, .int .i64 y]] w (Gives (.int .i64 (f (numN W x y).toNat)) w) := by
  obtain ⟨g1, g2, g3, g4, g5⟩ := has_yes h3
  obtain ⟨c1, c2⟩ := side_mk hW
  obtain ⟨c3, c4⟩ := side_mk hH
  have HL := Lib.hid (show Below w.heap.size w ((w.alloc (.cells #[.int .i64 W, .int .i64 H, .slice A n c] 35)).alloc (.cells #[.int .i64 x, .int .i64 y] 61)) from ((Below.refl _ _).alloc (Nat.le_refl _) _).alloc (by simp) _)
  obtain ⟨d1, d2, d3, d4⟩ := edge_no ha
  obtain ⟨i1, i2, i3, i4⟩ := inside hW hH h3 ha
  obtain ⟨l1, l2⟩ := num_lt hW hH h3 ha
  have l3 : numN W x y < (n : Int) := by rw [hn]; exact l2
  have e0 : (x == 0) = false := beq_eq_false_iff_ne.2 d1
  have e1 : (x == 2 * W) = false := beq_eq_false_iff_ne.2 d3
  have e2 : (y == 0) = false := beq_eq_false_iff_ne.2 d2
  have e3 : (y == 2 * H) = false := beq_eq_false_iff_ne.2 d4
  have hnc := hr.1
  have hcm := hr.2.1
  unfold maxLen at hcm
  obtain ⟨b, o, rfl, hbl, hcell⟩ := hr.2.2.2 (by omega)
  have CK := Lib.hid (hcell (numN W x y).toNat (by omega))
  clear hcell hr hn l2 ha
  go_enter Tryd.func145, Tryd.ntmps145
  go_wp2_with fail
  refine (sizeOf_any _ W H _ n c).mono ?_
  rintro e w1 ⟨rfl, b1⟩
  obtain ⟨hc1, hf1⟩ := bcell b1
  have hz1 : w.heap.size + 1 < w1.heap.size := by have := b1.size; simp at this; omega
  have hz0 : w.heap.size < w1.heap.size := by omega
  have HL1 := Lib.hid (HL.out.trans (b1.mono (by first | (simp; done) | (simp; omega))))
  clear b1
  have k0 : w1.cell? ⟨w.heap.size, 0, none⟩ = some (.int .i64 W) := by rw [hc1 _ _ (by first | (simp; done) | (simp; omega))]; simp [go_sem]
  have k1 : w1.cell? ⟨w.heap.size, 1, none⟩ = some (.int .i64 H) := by rw [hc1 _ _ (by first | (simp; done) | (simp; omega))]; simp [go_sem]
  have k2 : w1.cell? ⟨w.heap.size, 2, none⟩ = some (.slice (some ⟨b, o, none⟩) n c) := by rw [hc1 _ _ (by first | (simp; done) | (simp; omega))]; simp [go_sem]
  have m0 : w1.cell? ⟨w.heap.size + 1, 0, none⟩ = some (.int .i64 x) := by rw [hc1 _ _ (by first | (simp; done) | (simp; omega))]; simp [go_sem]
  have m1 : w1.cell? ⟨w.heap.size + 1, 1, none⟩ = some (.int .i64 y) := by rw [hc1 _ _ (by first | (simp; done) | (simp; omega))]; simp [go_sem]
  have bx := HL1.out.cell (p := ⟨b, o + (numN W x y).toNat, none⟩) hbl
  have ck := bx.trans CK.out
  have hb1 := World.block_lt_of_cell? _ _ ck
  have hb2 : b ≠ w1.heap.size := by have : b < w1.heap.size := hb1; omega
  clear bx hb1 hc1 hf1
  go_wp2
  have bN := (Below.refl w1.heap.size w1).alloc (Nat.le_refl _) (.cells #[.int .i64 W, .int .i64 H] 99)
  have k2' := (bN.cell (p := ⟨w.heap.size, 2, none⟩) hz0).trans k2
  have m0' := (bN.cell (p := ⟨w.heap.size + 1, 0, none⟩) hz1).trans m0
  have m1' := (bN.cell (p := ⟨w.heap.size + 1, 1, none⟩) hz1).trans m1
  have ck' := (bN.cell (p := ⟨b, o + (numN W x y).toNat, none⟩) (World.block_lt_of_cell? _ _ ck)).trans ck
  have s0 : (w1.alloc (.cells #[.int .i64 W, .int .i64 H] 99)).cell? ⟨w1.heap.size, 0, none⟩ = some (.int .i64 W) := by simp [go_sem]
  have s1 : (w1.alloc (.cells #[.int .i64 W, .int .i64 H] 99)).cell? ⟨w1.heap.size, 1, none⟩ = some (.int .i64 H) := by simp [go_sem]
  have HLN := Lib.hid (HL1.out.trans (bN.mono HL1.out.size))
  have zN : w1.heap.size < (w1.alloc (.cells #[.int .i64 W, .int .i64 H] 99)).heap.size := by simp
  clear bN k0 k1 k2 m0 m1 ck
  generalize w1.alloc (.cells #[.int .i64 W, .int .i64 H] 99) = w2 at *
  generalize w1.heap.size = bS at *
  have hw2 : w.heap.size + 1 < w2.heap.size := by omega
  have hw3 : w.heap.size < w2.heap.size := by omega
  have hw4 := World.block_lt_of_cell? _ _ ck'
  have hw5 : b < w2.heap.size := hw4
  clear hw4
  have OL := Lib.hid (Old.mk_ (Below.refl w2.heap.size w2).drew)
  go_region_held3 (fun w' => (∀ b o, b < (w2).heap.size → w'.cell? ⟨b, o, none⟩ = (w2).cell? ⟨b, o, none⟩) ∧ Below (w2).heap.size (w2) w')
    (first | assumption | exact OL.out | exact Old.trans (by assumption) (by assumption))
    (first | (go_at_call 75; refine (numberOf_any _ W H x y hW i1 i2 i3 i4).mono ?_; rintro e wa ⟨rfl, ba⟩))
  rename_i hS
  have hB3 := hS.2
  clear hS OL
  go_wp2
  go_ret
  exact ⟨rfl, HLN.out.trans (hB3.mono HLN.out.size)⟩

theorem tk_A {W H : Int} {f : Nat → Int} {x y : Int} (h : x = 0 ∨ x = 2 * W) : tkOf W H f x y = 1 := if_pos h
theorem tk_B {W H : Int} {f : Nat → Int} {x y : Int} (h : ¬ (x = 0 ∨ x = 2 * W)) (h2 : y = 0 ∨ y = 2 * H) : tkOf W H f x y = 2 := by unfold tkOf; rw [if_neg h, if_pos h2]
theorem tk_C {W H : Int} {f : Nat → Int} {x y : Int} (h : ¬ (x = 0 ∨ x = 2 * W)) (h2 : ¬ (y = 0 ∨ y = 2 * H)) : tkOf W H f x y = f (numN W x y).toNat := by unfold tkOf; rw [if_neg h, if_neg h2]
theorem edge_mk {W H x y : Int} (h : ¬ (x = 0 ∨ x = 2 * W)) (h2 : ¬ (y = 0 ∨ y = 2 * H)) : edgeB W H x y = false := by
  unfold edgeB
  exact decide_eq_false (by omega)
theorem implTurn (w : World) (W H : Int) (A : Option Addr) (n c : Nat) (f : Nat → Int) (x y : Int) (hr : Row .i64 w A n c f) (hn : (n : Int) = inner W H) (hW : sideB W = true) (hH : sideB H = true) (h3 : hasB W H x y = true) :
    Calls Tryd.prog 145 #[.agg #[.int .i64 W, .int .i64 H, .slice A n c], .agg #[.int .i64 x, .int .i64 y]] w (Gives (.int .i64 (tkOf W H f x y)) w) := by
  obtain ⟨g1, g2, g3, g4, g5⟩ := has_yes h3
  by_cases hA : x = 0 ∨ x = 2 * W
  · rw [tk_A hA]
    rcases hA with h | h
    · exact implTurnA1 w W H A n c f x y hr hn hW hH h3 h
    · exact implTurnA2 w W H A n c f x y hr hn hW hH h3 h
  · by_cases hB : y = 0 ∨ y = 2 * H
    · rw [tk_B hA hB]
      rcases hB with h | h
      · exact implTurnB1 w W H A n c f x y hr hn hW hH h3 h
      · exact implTurnB2 w W H A n c f x y hr hn hW hH h3 h
    · rw [tk_C hA hB]
      exact implTurnC w W H A n c f x y hr hn hW hH h3 (edge_mk hA hB)
/-- the kinds of a valid panel -/
theorem kind_of {n : Nat} {f : Nat → Int} (h : kindsB n f = true) {i : Nat} (hi : i < n) : f i = 0 ∨ f i = 1 ∨ f i = 2 := by
  have := kinds_iff.1 h i hi
  omega
theorem specStep (w : World) (p : Nat) (W H : Int) (A : Option Addr) (n c : Nat) (f : Nat → Int) (x y dx dy : Int) (hb : Box w p W H A n c) (hr : Row .i64 w A n c f) (hn : (n : Int) = inner W H) (hK : kindsB n f = true) (hW : sideB W = true) (hH : sideB H = true) (x1 : 0 ≤ x) (x2 : x ≤ 16) (y1 : 0 ≤ y) (y2 : y ≤ 16) (hx : signB dx = true) (hy : signB dy = true)
    (h3 : hasB W H (x + dx) (y + dy) = true) :
    Calls Tryd.prog 136 #[.pointer (some ⟨p, 0, none⟩), .agg #[.int .i64 x, .int .i64 y, .int .i64 dx, .int .i64 dy]] w (Gives (.agg #[.int .i64 (x + dx), .int .i64 (y + dy), .int .i64 (stDX W H f x y dx dy), .int .i64 (stDY W H f x y dx dy)]) w) := by
  unfold stDX stDY
  by_cases hA : x + dx = 0 ∨ x + dx = 2 * W
  · rw [tk_A hA, if_pos rfl, if_neg (by omega)]
    rcases hA with h | h
    · exact specStepA1 w p W H A n c f x y dx dy hb hr hn hW hH x1 x2 y1 y2 hx hy h3 h
    · exact specStepA2 w p W H A n c f x y dx dy hb hr hn hW hH x1 x2 y1 y2 hx hy h3 h
  · by_cases hB : y + dy = 0 ∨ y + dy = 2 * H
    · rw [tk_B hA hB, if_neg (by omega), if_pos rfl]
      rcases hB with h | h
      · exact specStepB1 w p W H A n c f x y dx dy hb hr hn hW hH x1 x2 y1 y2 hx hy h3 h
      · exact specStepB2 w p W H A n c f x y dx dy hb hr hn hW hH x1 x2 y1 y2 hx hy h3 h
    · rw [tk_C hA hB]
      have he := edge_mk hA hB
      obtain ⟨l1, l2⟩ := num_lt hW hH h3 he
      have l3 : numN W (x + dx) (y + dy) < (n : Int) := by rw [hn]; exact l2
      rcases kind_of hK (show (numN W (x + dx) (y + dy)).toNat < n by omega) with h | h | h
      · rw [h, if_neg (by omega), if_neg (by omega)]
        exact specStepC0 w p W H A n c f x y dx dy hb hr hn hW hH x1 x2 y1 y2 hx hy h3 ⟨he, h⟩
      · rw [h, if_pos rfl, if_neg (by omega)]
        exact specStepC1 w p W H A n c f x y dx dy hb hr hn hW hH x1 x2 y1 y2 hx hy h3 ⟨he, h⟩
      · rw [h, if_neg (by omega), if_pos rfl]
        exact specStepC2 w p W H A n c f x y dx dy hb hr hn hW hH x1 x2 y1 y2 hx hy h3 ⟨he, h⟩
end Go.Proofs.YtbpdjmjkjiddjaaDoor.Base

namespace Go.Proofs.YtbpdjmjkjiddjaaDoor.Base
open Go.RowKit
set_option linter.unusedVariables false
set_option linter.unusedSimpArgs false

def tnB (W H : Int) (n : Nat) (f : Nat → Int) (x y dx dy : Int) : Bool := if wkB W H n f x y dx dy then decide (tkOf W H f (x + dx) (y + dy) ≠ 0) else false
theorem tnB_no {W H : Int} {n : Nat} {f : Nat → Int} {x y dx dy : Int} (h : wkB W H n f x y dx dy = false) : tnB W H n f x y dx dy = false := by simp [tnB, h]
theorem tnB_0 {W H : Int} {n : Nat} {f : Nat → Int} {x y dx dy : Int} (h : wkB W H n f x y dx dy = true) (h2 : tkOf W H f (x + dx) (y + dy) = 0) : tnB W H n f x y dx dy = false := by simp [tnB, h, h2]
theorem tnB_1 {W H : Int} {n : Nat} {f : Nat → Int} {x y dx dy : Int} (h : wkB W H n f x y dx dy = true) (h2 : tkOf W H f (x + dx) (y + dy) ≠ 0) : tnB W H n f x y dx dy = true := by simp [tnB, h, h2]
theorem tk_kind {W H : Int} {n : Nat} {f : Nat → Int} {x y : Int} (hn : (n : Int) = inner W H) (hK : kindsB n f = true) (hW : sideB W = true) (hH : sideB H = true) (h3 : hasB W H x y = true) : tkOf W H f x y = 0 ∨ tkOf W H f x y = 1 ∨ tkOf W H f x y = 2 := by
  by_cases hA : x = 0 ∨ x = 2 * W
  · exact .inr (.inl (tk_A hA))
  · by_cases hB : y = 0 ∨ y = 2 * H
    · exact .inr (.inr (tk_B hA hB))
    · rw [tk_C hA hB]
      have he := edge_mk hA hB
      obtain ⟨l1, l2⟩ := num_lt hW hH h3 he
      exact kind_of hK (by omega)
theorem goAll {W H x y dx dy : Int} {n : Nat} {f : Nat → Int} (h : wkB W H n f x y dx dy = true) : (n : Int) = inner W H ∧ kindsB n f = true := by
  obtain ⟨hv, -⟩ := wk_valid h
  obtain ⟨-, -, h3, h4⟩ := validB_yes hv
  exact ⟨h3, h4⟩

end Go.Proofs.YtbpdjmjkjiddjaaDoor.Base

namespace Go.Proofs.YtbpdjmjkjiddjaaDoor.Base
open Go.RowKit
set_option linter.unusedVariables false
set_option linter.unusedSimpArgs false

set_option maxHeartbeats 2000000 in
theorem implStep0 (w : World) (W H : Int) (A : Option Addr) (n c : Nat) (f : Nat → Int) (x y dx dy : Int) (hr : Row .i64 w A n c f) (hT : Cel w 0 [.int .i64 1, .int .i64 1, .int .i64 (-1), .int .i64 1, .int .i64 1, .int .i64 (-1)]) (hn : (n : Int) = inner W H) (hW : sideB W = true) (hH : sideB H = true) (x1 : 0 ≤ x) (x2 : x ≤ 16) (y1 : 0 ≤ y) (y2 : y ≤ 16) (hx : signB dx = true) (hy : signB dy = true)
    (h3 : hasB W H (x + dx) (y + dy) = true) (ht : tkOf W H f (x + dx) (y + dy) = 0) :
    Calls Tryd.prog 143 #[.agg #[.int .i64 W, .int .i64 H, .slice A n c], .agg #[.int .i64 x, .int .i64 y, .int .i64 dx, .int .i64 dy]] w (Gives (.agg #[.int .i64 (x + dx), .int .i64 (y + dy), .int .i64 dx, .int .i64 dy]) w) := by
  obtain ⟨s1, s2⟩ := sign_bd hx
  obtain ⟨s3, s4⟩ := sign_bd hy
  have HL := Lib.hid (show Below w.heap.size w (((w.alloc (.cells #[.int .i64 W, .int .i64 H, .slice A n c] 35)).alloc (.cells #[.int .i64 x, .int .i64 y, .int .i64 dx, .int .i64 dy] 131)).alloc (.cells #[.int .i64 0, .int .i64 0, .int .i64 0, .int .i64 0] 131)) from (((Below.refl _ _).alloc (Nat.le_refl _) _).alloc (by simp) _).alloc (by simp; omega) _)
  have HR := Lib.hid hr
  have HT := Lib.hid (hT.below HL.out hT.1)
  have HN := Lib.hid hn
  have HK := Lib.hid ht
  clear hr hT hn ht
  go_enter Tryd.func143, Tryd.ntmps143
  go_wp2_with fail
  refine (implNext _ x y dx dy x1 x2 y1 y2 hx hy).mono ?_
  rintro e w1 ⟨rfl, b1⟩
  obtain ⟨hc1, hf1⟩ := bcell b1
  have hz2 : w.heap.size + 1 + 1 < w1.heap.size := by have := b1.size; simp at this; omega
  have hz1 : w.heap.size + 1 < w1.heap.size := by omega
  have hz0 : w.heap.size < w1.heap.size := by omega
  have HT1 := Lib.hid (HT.out.below b1 HT.out.1)
  have HL1 := Lib.hid (HL.out.trans (b1.mono (by first | (simp; done) | (simp; omega))))
  clear b1
  have k0 : w1.cell? ⟨w.heap.size, 0, none⟩ = some (.int .i64 W) := by rw [hc1 _ _ (by first | (simp; done) | (simp; omega))]; simp [go_sem]
  have k1 : w1.cell? ⟨w.heap.size, 1, none⟩ = some (.int .i64 H) := by rw [hc1 _ _ (by first | (simp; done) | (simp; omega))]; simp [go_sem]
  have k2 : w1.cell? ⟨w.heap.size, 2, none⟩ = some (.slice A n c) := by rw [hc1 _ _ (by first | (simp; done) | (simp; omega))]; simp [go_sem]
  have m2 : w1.cell? ⟨w.heap.size + 1, 2, none⟩ = some (.int .i64 dx) := by rw [hc1 _ _ (by first | (simp; done) | (simp; omega))]; simp [go_sem]
  have m3 : w1.cell? ⟨w.heap.size + 1, 3, none⟩ = some (.int .i64 dy) := by rw [hc1 _ _ (by first | (simp; done) | (simp; omega))]; simp [go_sem]
  have q0 : w1.cell? ⟨w.heap.size + 1 + 1, 0, none⟩ = some (.int .i64 0) := by rw [hc1 _ _ (by first | (simp; done) | (simp; omega))]; simp [go_sem]
  have fq0 : w1.frozen? ⟨w.heap.size + 1 + 1, 0, none⟩ = false := by rw [hf1 _ _ (by first | (simp; done) | (simp; omega))]; simp [go_sem]
  have q1 : w1.cell? ⟨w.heap.size + 1 + 1, 1, none⟩ = some (.int .i64 0) := by rw [hc1 _ _ (by first | (simp; done) | (simp; omega))]; simp [go_sem]
  have fq1 : w1.frozen? ⟨w.heap.size + 1 + 1, 1, none⟩ = false := by rw [hf1 _ _ (by first | (simp; done) | (simp; omega))]; simp [go_sem]
  have q2 : w1.cell? ⟨w.heap.size + 1 + 1, 2, none⟩ = some (.int .i64 0) := by rw [hc1 _ _ (by first | (simp; done) | (simp; omega))]; simp [go_sem]
  have fq2 : w1.frozen? ⟨w.heap.size + 1 + 1, 2, none⟩ = false := by rw [hf1 _ _ (by first | (simp; done) | (simp; omega))]; simp [go_sem]
  have q3 : w1.cell? ⟨w.heap.size + 1 + 1, 3, none⟩ = some (.int .i64 0) := by rw [hc1 _ _ (by first | (simp; done) | (simp; omega))]; simp [go_sem]
  have fq3 : w1.frozen? ⟨w.heap.size + 1 + 1, 3, none⟩ = false := by rw [hf1 _ _ (by first | (simp; done) | (simp; omega))]; simp [go_sem]
  clear hc1 hf1
  go_wp2_with fail
  -- the box of the next point
  have bN := (Below.refl w1.heap.size w1).alloc (Nat.le_refl _) (.cells #[.int .i64 (x + dx), .int .i64 (y + dy)] 61)
  have HP := Lib.hid (Cel.new w1 [.int .i64 (x + dx), .int .i64 (y + dy)] 61)
  have HT2 := Lib.hid (HT1.out.below bN HT1.out.1)
  have HL2 := Lib.hid (HL1.out.trans (bN.mono HL1.out.size))
  have zN : w1.heap.size < (w1.alloc (.cells #[.int .i64 (x + dx), .int .i64 (y + dy)] 61)).heap.size := by simp
  have m2' := (bN.cell (p := ⟨w.heap.size + 1, 2, none⟩) hz1).trans m2
  have m3' := (bN.cell (p := ⟨w.heap.size + 1, 3, none⟩) hz1).trans m3
  have q0' := (bN.cell (p := ⟨w.heap.size + 1 + 1, 0, none⟩) hz2).trans q0
  have q1' := (bN.cell (p := ⟨w.heap.size + 1 + 1, 1, none⟩) hz2).trans q1
  have q2' := (bN.cell (p := ⟨w.heap.size + 1 + 1, 2, none⟩) hz2).trans q2
  have q3' := (bN.cell (p := ⟨w.heap.size + 1 + 1, 3, none⟩) hz2).trans q3
  have fq0' := (bN.frozen (p := ⟨w.heap.size + 1 + 1, 0, none⟩) hz2).trans fq0
  have fq1' := (bN.frozen (p := ⟨w.heap.size + 1 + 1, 1, none⟩) hz2).trans fq1
  have fq2' := (bN.frozen (p := ⟨w.heap.size + 1 + 1, 2, none⟩) hz2).trans fq2
  have fq3' := (bN.frozen (p := ⟨w.heap.size + 1 + 1, 3, none⟩) hz2).trans fq3
  clear bN k0 k1 k2 m2 m3 q0 q1 q2 q3 fq0 fq1 fq2 fq3
  generalize w1.alloc (.cells #[.int .i64 (x + dx), .int .i64 (y + dy)] 61) = w2 at *
  generalize w1.heap.size = bP at *
  have hz2' : w.heap.size + 1 + 1 < w2.heap.size := by omega
  have hz1' : w.heap.size + 1 < w2.heap.size := by omega
  refine (implTurn _ W H A n c f (x + dx) (y + dy) (HR.out.below HL2.out (Nat.le_refl _)) HN.out hW hH h3).mono ?_
  rintro e w3 ⟨rfl, b3⟩
  rw [HK.out]
  have HT3 := Lib.hid (HT2.out.below b3 HT2.out.1)
  have HL3 := Lib.hid (HL2.out.trans (b3.mono HL2.out.size))
  have HP3 := Lib.hid (HP.out.below b3 HP.out.1)
  have m2'' := (b3.cell (p := ⟨w.heap.size + 1, 2, none⟩) hz1').trans m2'
  have m3'' := (b3.cell (p := ⟨w.heap.size + 1, 3, none⟩) hz1').trans m3'
  have q0'' := (b3.cell (p := ⟨w.heap.size + 1 + 1, 0, none⟩) hz2').trans q0'
  have q1'' := (b3.cell (p := ⟨w.heap.size + 1 + 1, 1, none⟩) hz2').trans q1'
  have q2'' := (b3.cell (p := ⟨w.heap.size + 1 + 1, 2, none⟩) hz2').trans q2'
  have q3'' := (b3.cell (p := ⟨w.heap.size + 1 + 1, 3, none⟩) hz2').trans q3'
  have fq0'' := (b3.frozen (p := ⟨w.heap.size + 1 + 1, 0, none⟩) hz2').trans fq0'
  have fq1'' := (b3.frozen (p := ⟨w.heap.size + 1 + 1, 1, none⟩) hz2').trans fq1'
  have fq2'' := (b3.frozen (p := ⟨w.heap.size + 1 + 1, 2, none⟩) hz2').trans fq2'
  have fq3'' := (b3.frozen (p := ⟨w.heap.size + 1 + 1, 3, none⟩) hz2').trans fq3'
  have z3 := b3.size
  clear b3 m2' m3' q0' q1' q2' q3' fq0' fq1' fq2' fq3'
  have p0 := HP3.out.2 0 _ rfl
  have p1 := HP3.out.2 1 _ rfl
  have hp3 := Nat.ne_of_lt HP3.out.1
  have hp4 := HP3.out.1
  have hp5 : w.heap.size + 1 < w3.heap.size := by omega
  have hp6 : w.heap.size + 1 + 1 < w3.heap.size := by omega
  have g0 := HT3.out.2 0 _ rfl
  have g1 := HT3.out.2 1 _ rfl
  have hne1 : w.heap.size + 1 ≠ w3.heap.size := by omega
  have hne2 : w.heap.size + 1 + 1 ≠ w3.heap.size := by omega
  go_wp2
  refine bodyPost_ret ?_ rfl ⟨rfl, ((((HL3.out.setCell (by first | (simp; done) | (simp; omega)) _).setCell (by first | (simp; done) | (simp; omega)) _).setCell (by first | (simp; done) | (simp; omega)) _).setCell (by first | (simp; done) | (simp; omega)) _).alloc (by first | (simp; done) | (simp; omega)) _⟩
  simp [results, Tryd.results143, go_sem, q0'', q1'', q2'', q3'', hp6, World.cell?_alloc_lt]

set_option maxHeartbeats 2000000 in
theorem implStep1 (w : World) (W H : Int) (A : Option Addr) (n c : Nat) (f : Nat → Int) (x y dx dy : Int) (hr : Row .i64 w A n c f) (hT : Cel w 0 [.int .i64 1, .int .i64 1, .int .i64 (-1), .int .i64 1, .int .i64 1, .int .i64 (-1)]) (hn : (n : Int) = inner W H) (hW : sideB W = true) (hH : sideB H = true) (x1 : 0 ≤ x) (x2 : x ≤ 16) (y1 : 0 ≤ y) (y2 : y ≤ 16) (hx : signB dx = true) (hy : signB dy = true)
    (h3 : hasB W H (x + dx) (y + dy) = true) (ht : tkOf W H f (x + dx) (y + dy) = 1) :
    Calls Tryd.prog 143 #[.agg #[.int .i64 W, .int .i64 H, .slice A n c], .agg #[.int .i64 x, .int .i64 y, .int .i64 dx, .int .i64 dy]] w (Gives (.agg #[.int .i64 (x + dx), .int .i64 (y + dy), .int .i64 (-dx), .int .i64 dy]) w) := by
  obtain ⟨s1, s2⟩ := sign_bd hx
  obtain ⟨s3, s4⟩ := sign_bd hy
  have HL := Lib.hid (show Below w.heap.size w (((w.alloc (.cells #[.int .i64 W, .int .i64 H, .slice A n c] 35)).alloc (.cells #[.int .i64 x, .int .i64 y, .int .i64 dx, .int .i64 dy] 131)).alloc (.cells #[.int .i64 0, .int .i64 0, .int .i64 0, .int .i64 0] 131)) from (((Below.refl _ _).alloc (Nat.le_refl _) _).alloc (by simp) _).alloc (by simp; omega) _)
  have HR := Lib.hid hr
  have HT := Lib.hid (hT.below HL.out hT.1)
  have HN := Lib.hid hn
  have HK := Lib.hid ht
  clear hr hT hn ht
  go_enter Tryd.func143, Tryd.ntmps143
  go_wp2_with fail
  refine (implNext _ x y dx dy x1 x2 y1 y2 hx hy).mono ?_
  rintro e w1 ⟨rfl, b1⟩
  obtain ⟨hc1, hf1⟩ := bcell b1
  have hz2 : w.heap.size + 1 + 1 < w1.heap.size := by have := b1.size; simp at this; omega
  have hz1 : w.heap.size + 1 < w1.heap.size := by omega
  have hz0 : w.heap.size < w1.heap.size := by omega
  have HT1 := Lib.hid (HT.out.below b1 HT.out.1)
  have HL1 := Lib.hid (HL.out.trans (b1.mono (by first | (simp; done) | (simp; omega))))
  clear b1
  have k0 : w1.cell? ⟨w.heap.size, 0, none⟩ = some (.int .i64 W) := by rw [hc1 _ _ (by first | (simp; done) | (simp; omega))]; simp [go_sem]
  have k1 : w1.cell? ⟨w.heap.size, 1, none⟩ = some (.int .i64 H) := by rw [hc1 _ _ (by first | (simp; done) | (simp; omega))]; simp [go_sem]
  have k2 : w1.cell? ⟨w.heap.size, 2, none⟩ = some (.slice A n c) := by rw [hc1 _ _ (by first | (simp; done) | (simp; omega))]; simp [go_sem]
  have m2 : w1.cell? ⟨w.heap.size + 1, 2, none⟩ = some (.int .i64 dx) := by rw [hc1 _ _ (by first | (simp; done) | (simp; omega))]; simp [go_sem]
  have m3 : w1.cell? ⟨w.heap.size + 1, 3, none⟩ = some (.int .i64 dy) := by rw [hc1 _ _ (by first | (simp; done) | (simp; omega))]; simp [go_sem]
  have q0 : w1.cell? ⟨w.heap.size + 1 + 1, 0, none⟩ = some (.int .i64 0) := by rw [hc1 _ _ (by first | (simp; done) | (simp; omega))]; simp [go_sem]
  have fq0 : w1.frozen? ⟨w.heap.size + 1 + 1, 0, none⟩ = false := by rw [hf1 _ _ (by first | (simp; done) | (simp; omega))]; simp [go_sem]
  have q1 : w1.cell? ⟨w.heap.size + 1 + 1, 1, none⟩ = some (.int .i64 0) := by rw [hc1 _ _ (by first | (simp; done) | (simp; omega))]; simp [go_sem]
  have fq1 : w1.frozen? ⟨w.heap.size + 1 + 1, 1, none⟩ = false := by rw [hf1 _ _ (by first | (simp; done) | (simp; omega))]; simp [go_sem]
  have q2 : w1.cell? ⟨w.heap.size + 1 + 1, 2, none⟩ = some (.int .i64 0) := by rw [hc1 _ _ (by first | (simp; done) | (simp; omega))]; simp [go_sem]
  have fq2 : w1.frozen? ⟨w.heap.size + 1 + 1, 2, none⟩ = false := by rw [hf1 _ _ (by first | (simp; done) | (simp; omega))]; simp [go_sem]
  have q3 : w1.cell? ⟨w.heap.size + 1 + 1, 3, none⟩ = some (.int .i64 0) := by rw [hc1 _ _ (by first | (simp; done) | (simp; omega))]; simp [go_sem]
  have fq3 : w1.frozen? ⟨w.heap.size + 1 + 1, 3, none⟩ = false := by rw [hf1 _ _ (by first | (simp; done) | (simp; omega))]; simp [go_sem]
  clear hc1 hf1
  go_wp2_with fail
  -- the box of the next point
  have bN := (Below.refl w1.heap.size w1).alloc (Nat.le_refl _) (.cells #[.int .i64 (x + dx), .int .i64 (y + dy)] 61)
  have HP := Lib.hid (Cel.new w1 [.int .i64 (x + dx), .int .i64 (y + dy)] 61)
  have HT2 := Lib.hid (HT1.out.below bN HT1.out.1)
  have HL2 := Lib.hid (HL1.out.trans (bN.mono HL1.out.size))
  have zN : w1.heap.size < (w1.alloc (.cells #[.int .i64 (x + dx), .int .i64 (y + dy)] 61)).heap.size := by simp
  have m2' := (bN.cell (p := ⟨w.heap.size + 1, 2, none⟩) hz1).trans m2
  have m3' := (bN.cell (p := ⟨w.heap.size + 1, 3, none⟩) hz1).trans m3
  have q0' := (bN.cell (p := ⟨w.heap.size + 1 + 1, 0, none⟩) hz2).trans q0
  have q1' := (bN.cell (p := ⟨w.heap.size + 1 + 1, 1, none⟩) hz2).trans q1
  have q2' := (bN.cell (p := ⟨w.heap.size + 1 + 1, 2, none⟩) hz2).trans q2
  have q3' := (bN.cell (p := ⟨w.heap.size + 1 + 1, 3, none⟩) hz2).trans q3
  have fq0' := (bN.frozen (p := ⟨w.heap.size + 1 + 1, 0, none⟩) hz2).trans fq0
  have fq1' := (bN.frozen (p := ⟨w.heap.size + 1 + 1, 1, none⟩) hz2).trans fq1
  have fq2' := (bN.frozen (p := ⟨w.heap.size + 1 + 1, 2, none⟩) hz2).trans fq2
  have fq3' := (bN.frozen (p := ⟨w.heap.size + 1 + 1, 3, none⟩) hz2).trans fq3
  clear bN k0 k1 k2 m2 m3 q0 q1 q2 q3 fq0 fq1 fq2 fq3
  generalize w1.alloc (.cells #[.int .i64 (x + dx), .int .i64 (y + dy)] 61) = w2 at *
  generalize w1.heap.size = bP at *
  have hz2' : w.heap.size + 1 + 1 < w2.heap.size := by omega
  have hz1' : w.heap.size + 1 < w2.heap.size := by omega
  refine (implTurn _ W H A n c f (x + dx) (y + dy) (HR.out.below HL2.out (Nat.le_refl _)) HN.out hW hH h3).mono ?_
  rintro e w3 ⟨rfl, b3⟩
  rw [HK.out]
  have HT3 := Lib.hid (HT2.out.below b3 HT2.out.1)
  have HL3 := Lib.hid (HL2.out.trans (b3.mono HL2.out.size))
  have HP3 := Lib.hid (HP.out.below b3 HP.out.1)
  have m2'' := (b3.cell (p := ⟨w.heap.size + 1, 2, none⟩) hz1').trans m2'
  have m3'' := (b3.cell (p := ⟨w.heap.size + 1, 3, none⟩) hz1').trans m3'
  have q0'' := (b3.cell (p := ⟨w.heap.size + 1 + 1, 0, none⟩) hz2').trans q0'
  have q1'' := (b3.cell (p := ⟨w.heap.size + 1 + 1, 1, none⟩) hz2').trans q1'
  have q2'' := (b3.cell (p := ⟨w.heap.size + 1 + 1, 2, none⟩) hz2').trans q2'
  have q3'' := (b3.cell (p := ⟨w.heap.size + 1 + 1, 3, none⟩) hz2').trans q3'
  have fq0'' := (b3.frozen (p := ⟨w.heap.size + 1 + 1, 0, none⟩) hz2').trans fq0'
  have fq1'' := (b3.frozen (p := ⟨w.heap.size + 1 + 1, 1, none⟩) hz2').trans fq1'
  have fq2'' := (b3.frozen (p := ⟨w.heap.size + 1 + 1, 2, none⟩) hz2').trans fq2'
  have fq3'' := (b3.frozen (p := ⟨w.heap.size + 1 + 1, 3, none⟩) hz2').trans fq3'
  have z3 := b3.size
  clear b3 m2' m3' q0' q1' q2' q3' fq0' fq1' fq2' fq3'
  have p0 := HP3.out.2 0 _ rfl
  have p1 := HP3.out.2 1 _ rfl
  have hp3 := Nat.ne_of_lt HP3.out.1
  have hp4 := HP3.out.1
  have hp5 : w.heap.size + 1 < w3.heap.size := by omega
  have hp6 : w.heap.size + 1 + 1 < w3.heap.size := by omega
  have g0 := HT3.out.2 2 _ rfl
  have g1 := HT3.out.2 3 _ rfl
  have hne1 : w.heap.size + 1 ≠ w3.heap.size := by omega
  have hne2 : w.heap.size + 1 + 1 ≠ w3.heap.size := by omega
  go_wp2
  refine bodyPost_ret ?_ rfl ⟨rfl, ((((HL3.out.setCell (by first | (simp; done) | (simp; omega)) _).setCell (by first | (simp; done) | (simp; omega)) _).setCell (by first | (simp; done) | (simp; omega)) _).setCell (by first | (simp; done) | (simp; omega)) _).alloc (by first | (simp; done) | (simp; omega)) _⟩
  simp [results, Tryd.results143, go_sem, q0'', q1'', q2'', q3'', hp6, World.cell?_alloc_lt]

set_option maxHeartbeats 2000000 in
theorem implStep2 (w : World) (W H : Int) (A : Option Addr) (n c : Nat) (f : Nat → Int) (x y dx dy : Int) (hr : Row .i64 w A n c f) (hT : Cel w 0 [.int .i64 1, .int .i64 1, .int .i64 (-1), .int .i64 1, .int .i64 1, .int .i64 (-1)]) (hn : (n : Int) = inner W H) (hW : sideB W = true) (hH : sideB H = true) (x1 : 0 ≤ x) (x2 : x ≤ 16) (y1 : 0 ≤ y) (y2 : y ≤ 16) (hx : signB dx = true) (hy : signB dy = true)
    (h3 : hasB W H (x + dx) (y + dy) = true) (ht : tkOf W H f (x + dx) (y + dy) = 2) :
    Calls Tryd.prog 143 #[.agg #[.int .i64 W, .int .i64 H, .slice A n c], .agg #[.int .i64 x, .int .i64 y, .int .i64 dx, .int .i64 dy]] w (Gives (.agg #[.int .i64 (x + dx), .int .i64 (y + dy), .int .i64 dx, .int .i64 (-dy)]) w) := by
  obtain ⟨s1, s2⟩ := sign_bd hx
  obtain ⟨s3, s4⟩ := sign_bd hy
  have HL := Lib.hid (show Below w.heap.size w (((w.alloc (.cells #[.int .i64 W, .int .i64 H, .slice A n c] 35)).alloc (.cells #[.int .i64 x, .int .i64 y, .int .i64 dx, .int .i64 dy] 131)).alloc (.cells #[.int .i64 0, .int .i64 0, .int .i64 0, .int .i64 0] 131)) from (((Below.refl _ _).alloc (Nat.le_refl _) _).alloc (by simp) _).alloc (by simp; omega) _)
  have HR := Lib.hid hr
  have HT := Lib.hid (hT.below HL.out hT.1)
  have HN := Lib.hid hn
  have HK := Lib.hid ht
  clear hr hT hn ht
  go_enter Tryd.func143, Tryd.ntmps143
  go_wp2_with fail
  refine (implNext _ x y dx dy x1 x2 y1 y2 hx hy).mono ?_
  rintro e w1 ⟨rfl, b1⟩
  obtain ⟨hc1, hf1⟩ := bcell b1
  have hz2 : w.heap.size + 1 + 1 < w1.heap.size := by have := b1.size; simp at this; omega
  have hz1 : w.heap.size + 1 < w1.heap.size := by omega
  have hz0 : w.heap.size < w1.heap.size := by omega
  have HT1 := Lib.hid (HT.out.below b1 HT.out.1)
  have HL1 := Lib.hid (HL.out.trans (b1.mono (by first | (simp; done) | (simp; omega))))
  clear b1
  have k0 : w1.cell? ⟨w.heap.size, 0, none⟩ = some (.int .i64 W) := by rw [hc1 _ _ (by first | (simp; done) | (simp; omega))]; simp [go_sem]
  have k1 : w1.cell? ⟨w.heap.size, 1, none⟩ = some (.int .i64 H) := by rw [hc1 _ _ (by first | (simp; done) | (simp; omega))]; simp [go_sem]
  have k2 : w1.cell? ⟨w.heap.size, 2, none⟩ = some (.slice A n c) := by rw [hc1 _ _ (by first | (simp; done) | (simp; omega))]; simp [go_sem]
  have m2 : w1.cell? ⟨w.heap.size + 1, 2, none⟩ = some (.int .i64 dx) := by rw [hc1 _ _ (by first | (simp; done) | (simp; omega))]; simp [go_sem]
  have m3 : w1.cell? ⟨w.heap.size + 1, 3, none⟩ = some (.int .i64 dy) := by rw [hc1 _ _ (by first | (simp; done) | (simp; omega))]; simp [go_sem]
  have q0 : w1.cell? ⟨w.heap.size + 1 + 1, 0, none⟩ = some (.int .i64 0) := by rw [hc1 _ _ (by first | (simp; done) | (simp; omega))]; simp [go_sem]
  have fq0 : w1.frozen? ⟨w.heap.size + 1 + 1, 0, none⟩ = false := by rw [hf1 _ _ (by first | (simp; done) | (simp; omega))]; simp [go_sem]
  have q1 : w1.cell? ⟨w.heap.size + 1 + 1, 1, none⟩ = some (.int .i64 0) := by rw [hc1 _ _ (by first | (simp; done) | (simp; omega))]; simp [go_sem]
  have fq1 : w1.frozen? ⟨w.heap.size + 1 + 1, 1, none⟩ = false := by rw [hf1 _ _ (by first | (simp; done) | (simp; omega))]; simp [go_sem]
  have q2 : w1.cell? ⟨w.heap.size + 1 + 1, 2, none⟩ = some (.int .i64 0) := by rw [hc1 _ _ (by first | (simp; done) | (simp; omega))]; simp [go_sem]
  have fq2 : w1.frozen? ⟨w.heap.size + 1 + 1, 2, none⟩ = false := by rw [hf1 _ _ (by first | (simp; done) | (simp; omega))]; simp [go_sem]
  have q3 : w1.cell? ⟨w.heap.size + 1 + 1, 3, none⟩ = some (.int .i64 0) := by rw [hc1 _ _ (by first | (simp; done) | (simp; omega))]; simp [go_sem]
  have fq3 : w1.frozen? ⟨w.heap.size + 1 + 1, 3, none⟩ = false := by rw [hf1 _ _ (by first | (simp; done) | (simp; omega))]; simp [go_sem]
  clear hc1 hf1
  go_wp2_with fail
  -- the box of the next point
  have bN := (Below.refl w1.heap.size w1).alloc (Nat.le_refl _) (.cells #[.int .i64 (x + dx), .int .i64 (y + dy)] 61)
  have HP := Lib.hid (Cel.new w1 [.int .i64 (x + dx), .int .i64 (y + dy)] 61)
  have HT2 := Lib.hid (HT1.out.below bN HT1.out.1)
  have HL2 := Lib.hid (HL1.out.trans (bN.mono HL1.out.size))
  have zN : w1.heap.size < (w1.alloc (.cells #[.int .i64 (x + dx), .int .i64 (y + dy)] 61)).heap.size := by simp
  have m2' := (bN.cell (p := ⟨w.heap.size + 1, 2, none⟩) hz1).trans m2
  have m3' := (bN.cell (p := ⟨w.heap.size + 1, 3, none⟩) hz1).trans m3
  have q0' := (bN.cell (p := ⟨w.heap.size + 1 + 1, 0, none⟩) hz2).trans q0
  have q1' := (bN.cell (p := ⟨w.heap.size + 1 + 1, 1, none⟩) hz2).trans q1
  have q2' := (bN.cell (p := ⟨w.heap.size + 1 + 1, 2, none⟩) hz2).trans q2
  have q3' := (bN.cell (p := ⟨w.heap.size + 1 + 1, 3, none⟩) hz2).trans q3
  have fq0' := (bN.frozen (p := ⟨w.heap.size + 1 + 1, 0, none⟩) hz2).trans fq0
  have fq1' := (bN.frozen (p := ⟨w.heap.size + 1 + 1, 1, none⟩) hz2).trans fq1
  have fq2' := (bN.frozen (p := ⟨w.heap.size + 1 + 1, 2, none⟩) hz2).trans fq2
  have fq3' := (bN.frozen (p := ⟨w.heap.size + 1 + 1, 3, none⟩) hz2).trans fq3
  clear bN k0 k1 k2 m2 m3 q0 q1 q2 q3 fq0 fq1 fq2 fq3
  generalize w1.alloc (.cells #[.int .i64 (x + dx), .int .i64 (y + dy)] 61) = w2 at *
  generalize w1.heap.size = bP at *
  have hz2' : w.heap.size + 1 + 1 < w2.heap.size := by omega
  have hz1' : w.heap.size + 1 < w2.heap.size := by omega
  refine (implTurn _ W H A n c f (x + dx) (y + dy) (HR.out.below HL2.out (Nat.le_refl _)) HN.out hW hH h3).mono ?_
  rintro e w3 ⟨rfl, b3⟩
  rw [HK.out]
  have HT3 := Lib.hid (HT2.out.below b3 HT2.out.1)
  have HL3 := Lib.hid (HL2.out.trans (b3.mono HL2.out.size))
  have HP3 := Lib.hid (HP.out.below b3 HP.out.1)
  have m2'' := (b3.cell (p := ⟨w.heap.size + 1, 2, none⟩) hz1').trans m2'
  have m3'' := (b3.cell (p := ⟨w.heap.size + 1, 3, none⟩) hz1').trans m3'
  have q0'' := (b3.cell (p := ⟨w.heap.size + 1 + 1, 0, none⟩) hz2').trans q0'
  have q1'' := (b3.cell (p := ⟨w.heap.size + 1 + 1, 1, none⟩) hz2').trans q1'
  have q2'' := (b3.cell (p := ⟨w.heap.size + 1 + 1, 2, none⟩) hz2').trans q2'
  have q3'' := (b3.cell (p := ⟨w.heap.size + 1 + 1, 3, none⟩) hz2').trans q3'
  have fq0'' := (b3.frozen (p := ⟨w.heap.size + 1 + 1, 0, none⟩) hz2').trans fq0'
  have fq1'' := (b3.frozen (p := ⟨w.heap.size + 1 + 1, 1, none⟩) hz2').trans fq1'
  have fq2'' := (b3.frozen (p := ⟨w.heap.size + 1 + 1, 2, none⟩) hz2').trans fq2'
  have fq3'' := (b3.frozen (p := ⟨w.heap.size + 1 + 1, 3, none⟩) hz2').trans fq3'
  have z3 := b3.size
  clear b3 m2' m3' q0' q1' q2' q3' fq0' fq1' fq2' fq3'
  have p0 := HP3.out.2 0 _ rfl
  have p1 := HP3.out.2 1 _ rfl
  have hp3 := Nat.ne_of_lt HP3.out.1
  have hp4 := HP3.out.1
  have hp5 : w.heap.size + 1 < w3.heap.size := by omega
  have hp6 : w.heap.size + 1 + 1 < w3.heap.size := by omega
  have g0 := HT3.out.2 4 _ rfl
  have g1 := HT3.out.2 5 _ rfl
  have hne1 : w.heap.size + 1 ≠ w3.heap.size := by omega
  have hne2 : w.heap.size + 1 + 1 ≠ w3.heap.size := by omega
  go_wp2
  refine bodyPost_ret ?_ rfl ⟨rfl, ((((HL3.out.setCell (by first | (simp; done) | (simp; omega)) _).setCell (by first | (simp; done) | (simp; omega)) _).setCell (by first | (simp; done) | (simp; omega)) _).setCell (by first | (simp; done) | (simp; omega)) _).alloc (by first | (simp; done) | (simp; omega)) _⟩
  simp [results, Tryd.results143, go_sem, q0'', q1'', q2'', q3'', hp6, World.cell?_alloc_lt]

theorem implStep (w : World) (W H : Int) (A : Option Addr) (n c : Nat) (f : Nat → Int) (x y dx dy : Int) (hr : Row .i64 w A n c f) (hT : Cel w 0 [.int .i64 1, .int .i64 1, .int .i64 (-1), .int .i64 1, .int .i64 1, .int .i64 (-1)]) (hn : (n : Int) = inner W H) (hW : sideB W = true) (hH : sideB H = true) (x1 : 0 ≤ x) (x2 : x ≤ 16) (y1 : 0 ≤ y) (y2 : y ≤ 16) (hx : signB dx = true) (hy : signB dy = true)
    (h3 : hasB W H (x + dx) (y + dy) = true) (hK : kindsB n f = true) :
    Calls Tryd.prog 143 #[.agg #[.int .i64 W, .int .i64 H, .slice A n c], .agg #[.int .i64 x, .int .i64 y, .int .i64 dx, .int .i64 dy]] w (Gives (.agg #[.int .i64 (x + dx), .int .i64 (y + dy), .int .i64 (stDX W H f x y dx dy), .int .i64 (stDY W H f x y dx dy)]) w) := by
  unfold stDX stDY
  rcases tk_kind hn hK hW hH h3 with h | h | h
  · rw [h, if_neg (by omega), if_neg (by omega)]
    exact implStep0 w W H A n c f x y dx dy hr hT hn hW hH x1 x2 y1 y2 hx hy h3 h
  · rw [h, if_pos rfl, if_neg (by omega)]
    exact implStep1 w W H A n c f x y dx dy hr hT hn hW hH x1 x2 y1 y2 hx hy h3 h
  · rw [h, if_neg (by omega), if_pos rfl]
    exact implStep2 w W H A n c f x y dx dy hr hT hn hW hH x1 x2 y1 y2 hx hy h3 h

end Go.Proofs.YtbpdjmjkjiddjaaDoor.Base
