/-
  How a point turns: the program's.
-/
import Derived.Test.YtbpdjmjkjiddjaaStp
import Derived.Test.YtbpdjmjkjiddjaaShape
namespace Go.Proofs.Ytbpdjmjkjiddjaa.Base
open Go.RowKit
set_option linter.unusedVariables false
set_option linter.unusedSimpArgs false

theorem implTurnA1 (w : World) (W H : Int) (A : Option Addr) (n c : Nat) (f : Nat → Int) (x y : Int) (hr : Row .i64 w A n c f) (hn : (n : Int) = inner W H) (hW : sideB W = true) (hH : sideB H = true) (h3 : hasB W H x y = true) (ha : x = 0) :
    Calls Try.prog 82 #[.agg #[.int .i64 W, .int .i64 H, .slice A n c], .agg #[.int .i64 x, .int .i64 y]] w (Gives (.int .i64 1) w) := by
  obtain ⟨g1, g2, g3, g4, g5⟩ := has_yes h3
  obtain ⟨c1, c2⟩ := side_mk hW
  obtain ⟨c3, c4⟩ := side_mk hH
  have HL := Lib.hid (show Below w.heap.size w ((w.alloc (.cells #[.int .i64 W, .int .i64 H, .slice A n c] 29)).alloc (.cells #[.int .i64 x, .int .i64 y] 31)) from ((Below.refl _ _).alloc (Nat.le_refl _) _).alloc (by simp) _)
  have e0 : (x == 0) = true := beq_iff_eq.2 ha
  clear ha hr hn
  go_enter Try.func82, Try.ntmps82
  go_wp2_with fail
  refine (sizeOf_any _ W H _ n c).mono ?_
  rintro e w1 ⟨rfl, b1⟩
  obtain ⟨hc1, hf1⟩ := bcell b1
  have hz1 : w.heap.size + 1 < w1.heap.size := by have := b1.size; simp at this; omega
  have hz0 : w.heap.size < w1.heap.size := by omega
  have HL1 := Lib.hid (HL.out.trans (b1.mono (by first | (simp; done) | (simp; omega))))
  clear b1
  go_wp2
  go_ret
  exact ⟨rfl, HL1.out.alloc HL1.out.size _⟩

theorem implTurnA2 (w : World) (W H : Int) (A : Option Addr) (n c : Nat) (f : Nat → Int) (x y : Int) (hr : Row .i64 w A n c f) (hn : (n : Int) = inner W H) (hW : sideB W = true) (hH : sideB H = true) (h3 : hasB W H x y = true) (ha : x = 2 * W) :
    Calls Try.prog 82 #[.agg #[.int .i64 W, .int .i64 H, .slice A n c], .agg #[.int .i64 x, .int .i64 y]] w (Gives (.int .i64 1) w) := by
  obtain ⟨g1, g2, g3, g4, g5⟩ := has_yes h3
  obtain ⟨c1, c2⟩ := side_mk hW
  obtain ⟨c3, c4⟩ := side_mk hH
  have HL := Lib.hid (show Below w.heap.size w ((w.alloc (.cells #[.int .i64 W, .int .i64 H, .slice A n c] 29)).alloc (.cells #[.int .i64 x, .int .i64 y] 31)) from ((Below.refl _ _).alloc (Nat.le_refl _) _).alloc (by simp) _)
  have e0 : (x == 0) = false := beq_eq_false_iff_ne.2 (by omega)
  have e1 : (x == 2 * W) = true := beq_iff_eq.2 ha
  clear ha hr hn
  go_enter Try.func82, Try.ntmps82
  go_wp2_with fail
  refine (sizeOf_any _ W H _ n c).mono ?_
  rintro e w1 ⟨rfl, b1⟩
  obtain ⟨hc1, hf1⟩ := bcell b1
  have hz1 : w.heap.size + 1 < w1.heap.size := by have := b1.size; simp at this; omega
  have hz0 : w.heap.size < w1.heap.size := by omega
  have HL1 := Lib.hid (HL.out.trans (b1.mono (by first | (simp; done) | (simp; omega))))
  clear b1
  go_wp2
  go_ret
  exact ⟨rfl, HL1.out.alloc HL1.out.size _⟩

theorem implTurnB1 (w : World) (W H : Int) (A : Option Addr) (n c : Nat) (f : Nat → Int) (x y : Int) (hr : Row .i64 w A n c f) (hn : (n : Int) = inner W H) (hW : sideB W = true) (hH : sideB H = true) (h3 : hasB W H x y = true) (ha : y = 0) :
    Calls Try.prog 82 #[.agg #[.int .i64 W, .int .i64 H, .slice A n c], .agg #[.int .i64 x, .int .i64 y]] w (Gives (.int .i64 2) w) := by
  obtain ⟨g1, g2, g3, g4, g5⟩ := has_yes h3
  obtain ⟨c1, c2⟩ := side_mk hW
  obtain ⟨c3, c4⟩ := side_mk hH
  have HL := Lib.hid (show Below w.heap.size w ((w.alloc (.cells #[.int .i64 W, .int .i64 H, .slice A n c] 29)).alloc (.cells #[.int .i64 x, .int .i64 y] 31)) from ((Below.refl _ _).alloc (Nat.le_refl _) _).alloc (by simp) _)
  have e0 : (x == 0) = false := beq_eq_false_iff_ne.2 (by omega)
  have e1 : (x == 2 * W) = false := beq_eq_false_iff_ne.2 (by omega)
  have e2 : (y == 0) = true := beq_iff_eq.2 ha
  clear ha hr hn
  go_enter Try.func82, Try.ntmps82
  go_wp2_with fail
  refine (sizeOf_any _ W H _ n c).mono ?_
  rintro e w1 ⟨rfl, b1⟩
  obtain ⟨hc1, hf1⟩ := bcell b1
  have hz1 : w.heap.size + 1 < w1.heap.size := by have := b1.size; simp at this; omega
  have hz0 : w.heap.size < w1.heap.size := by omega
  have HL1 := Lib.hid (HL.out.trans (b1.mono (by first | (simp; done) | (simp; omega))))
  clear b1
  go_wp2
  go_ret
  exact ⟨rfl, HL1.out.alloc HL1.out.size _⟩

theorem implTurnB2 (w : World) (W H : Int) (A : Option Addr) (n c : Nat) (f : Nat → Int) (x y : Int) (hr : Row .i64 w A n c f) (hn : (n : Int) = inner W H) (hW : sideB W = true) (hH : sideB H = true) (h3 : hasB W H x y = true) (ha : y = 2 * H) :
    Calls Try.prog 82 #[.agg #[.int .i64 W, .int .i64 H, .slice A n c], .agg #[.int .i64 x, .int .i64 y]] w (Gives (.int .i64 2) w) := by
  obtain ⟨g1, g2, g3, g4, g5⟩ := has_yes h3
  obtain ⟨c1, c2⟩ := side_mk hW
  obtain ⟨c3, c4⟩ := side_mk hH
  have HL := Lib.hid (show Below w.heap.size w ((w.alloc (.cells #[.int .i64 W, .int .i64 H, .slice A n c] 29)).alloc (.cells #[.int .i64 x, .int .i64 y] 31)) from ((Below.refl _ _).alloc (Nat.le_refl _) _).alloc (by simp) _)
  have e0 : (x == 0) = false := beq_eq_false_iff_ne.2 (by omega)
  have e1 : (x == 2 * W) = false := beq_eq_false_iff_ne.2 (by omega)
  have e2 : (y == 0) = false := beq_eq_false_iff_ne.2 (by omega)
  have e3 : (y == 2 * H) = true := beq_iff_eq.2 ha
  clear ha hr hn
  go_enter Try.func82, Try.ntmps82
  go_wp2_with fail
  refine (sizeOf_any _ W H _ n c).mono ?_
  rintro e w1 ⟨rfl, b1⟩
  obtain ⟨hc1, hf1⟩ := bcell b1
  have hz1 : w.heap.size + 1 < w1.heap.size := by have := b1.size; simp at this; omega
  have hz0 : w.heap.size < w1.heap.size := by omega
  have HL1 := Lib.hid (HL.out.trans (b1.mono (by first | (simp; done) | (simp; omega))))
  clear b1
  go_wp2
  go_ret
  exact ⟨rfl, HL1.out.alloc HL1.out.size _⟩

theorem implTurnC (w : World) (W H : Int) (A : Option Addr) (n c : Nat) (f : Nat → Int) (x y : Int) (hr : Row .i64 w A n c f) (hn : (n : Int) = inner W H) (hW : sideB W = true) (hH : sideB H = true) (h3 : hasB W H x y = true) (ha : edgeB W H x y = false) :
    Calls Try.prog 82 #[.agg #[.int .i64 W, .int .i64 H, .slice A n c], .agg #[.int .i64 x, .int .i64 y]] w (Gives (.int .i64 (f (numN W x y).toNat)) w) := by
  obtain ⟨g1, g2, g3, g4, g5⟩ := has_yes h3
  obtain ⟨c1, c2⟩ := side_mk hW
  obtain ⟨c3, c4⟩ := side_mk hH
  have HL := Lib.hid (show Below w.heap.size w ((w.alloc (.cells #[.int .i64 W, .int .i64 H, .slice A n c] 29)).alloc (.cells #[.int .i64 x, .int .i64 y] 31)) from ((Below.refl _ _).alloc (Nat.le_refl _) _).alloc (by simp) _)
  obtain ⟨d1, d2, d3, d4⟩ := edge_no ha
  obtain ⟨i1, i2, i3, i4⟩ := inside hW hH h3 ha
  obtain ⟨l1, l2⟩ := num_lt hW hH h3 ha
  have l3 : numN W x y < (n : Int) := by rw [hn]; exact l2
  have e0 : (x == 0) = false := beq_eq_false_iff_ne.2 d1
  have e1 : (x == 2 * W) = false := beq_eq_false_iff_ne.2 d3
  have e2 : (y == 0) = false := beq_eq_false_iff_ne.2 d2
  have e3 : (y == 2 * H) = false := beq_eq_false_iff_ne.2 d4
  have hnc := hr.1
  have hcm := hr.2.1
  unfold maxLen at hcm
  obtain ⟨b, o, rfl, hbl, hcell⟩ := hr.2.2.2 (by omega)
  have CK := Lib.hid (hcell (numN W x y).toNat (by omega))
  clear hcell hr hn l2 ha
  go_enter Try.func82, Try.ntmps82
  go_wp2_with fail
  refine (sizeOf_any _ W H _ n c).mono ?_
  rintro e w1 ⟨rfl, b1⟩
  obtain ⟨hc1, hf1⟩ := bcell b1
  have hz1 : w.heap.size + 1 < w1.heap.size := by have := b1.size; simp at this; omega
  have hz0 : w.heap.size < w1.heap.size := by omega
  have HL1 := Lib.hid (HL.out.trans (b1.mono (by first | (simp; done) | (simp; omega))))
  clear b1
  have k0 : w1.cell? ⟨w.heap.size, 0, none⟩ = some (.int .i64 W) := by rw [hc1 _ _ (by first | (simp; done) | (simp; omega))]; simp [go_sem]
  have k1 : w1.cell? ⟨w.heap.size, 1, none⟩ = some (.int .i64 H) := by rw [hc1 _ _ (by first | (simp; done) | (simp; omega))]; simp [go_sem]
  have k2 : w1.cell? ⟨w.heap.size, 2, none⟩ = some (.slice (some ⟨b, o, none⟩) n c) := by rw [hc1 _ _ (by first | (simp; done) | (simp; omega))]; simp [go_sem]
  have m0 : w1.cell? ⟨w.heap.size + 1, 0, none⟩ = some (.int .i64 x) := by rw [hc1 _ _ (by first | (simp; done) | (simp; omega))]; simp [go_sem]
  have m1 : w1.cell? ⟨w.heap.size + 1, 1, none⟩ = some (.int .i64 y) := by rw [hc1 _ _ (by first | (simp; done) | (simp; omega))]; simp [go_sem]
  have bx := HL1.out.cell (p := ⟨b, o + (numN W x y).toNat, none⟩) hbl
  have ck := bx.trans CK.out
  have hb1 := World.block_lt_of_cell? _ _ ck
  have hb2 : b ≠ w1.heap.size := by have : b < w1.heap.size := hb1; omega
  clear bx hb1 hc1 hf1
  go_wp2
  have bN := (Below.refl w1.heap.size w1).alloc (Nat.le_refl _) (.cells #[.int .i64 W, .int .i64 H] 74)
  have k2' := (bN.cell (p := ⟨w.heap.size, 2, none⟩) hz0).trans k2
  have m0' := (bN.cell (p := ⟨w.heap.size + 1, 0, none⟩) hz1).trans m0
  have m1' := (bN.cell (p := ⟨w.heap.size + 1, 1, none⟩) hz1).trans m1
  have ck' := (bN.cell (p := ⟨b, o + (numN W x y).toNat, none⟩) (World.block_lt_of_cell? _ _ ck)).trans ck
  have s0 : (w1.alloc (.cells #[.int .i64 W, .int .i64 H] 74)).cell? ⟨w1.heap.size, 0, none⟩ = some (.int .i64 W) := by simp [go_sem]
  have s1 : (w1.alloc (.cells #[.int .i64 W, .int .i64 H] 74)).cell? ⟨w1.heap.size, 1, none⟩ = some (.int .i64 H) := by simp [go_sem]
  have HLN := Lib.hid (HL1.out.trans (bN.mono HL1.out.size))
  have zN : w1.heap.size < (w1.alloc (.cells #[.int .i64 W, .int .i64 H] 74)).heap.size := by simp
  clear bN k0 k1 k2 m0 m1 ck
  generalize w1.alloc (.cells #[.int .i64 W, .int .i64 H] 74) = w2 at *
  generalize w1.heap.size = bS at *
  have hw2 : w.heap.size + 1 < w2.heap.size := by omega
  have hw3 : w.heap.size < w2.heap.size := by omega
  have hw4 := World.block_lt_of_cell? _ _ ck'
  have hw5 : b < w2.heap.size := hw4
  clear hw4
  have OL := Lib.hid (Old.mk_ (Below.refl w2.heap.size w2).drew)
  go_region_held3 (fun w' => (∀ b o, b < (w2).heap.size → w'.cell? ⟨b, o, none⟩ = (w2).cell? ⟨b, o, none⟩) ∧ Below (w2).heap.size (w2) w')
    (first | assumption | exact OL.out | exact Old.trans (by assumption) (by assumption))
    (first | (go_at_call 46; refine (numberOf_any _ W H x y hW i1 i2 i3 i4).mono ?_; rintro e wa ⟨rfl, ba⟩))
  rename_i hS
  have hB3 := hS.2
  clear hS OL
  go_wp2
  go_ret
  exact ⟨rfl, HLN.out.trans (hB3.mono HLN.out.size)⟩

theorem tk_A {W H : Int} {f : Nat → Int} {x y : Int} (h : x = 0 ∨ x = 2 * W) : tkOf W H f x y = 1 := if_pos h
theorem tk_B {W H : Int} {f : Nat → Int} {x y : Int} (h : ¬ (x = 0 ∨ x = 2 * W)) (h2 : y = 0 ∨ y = 2 * H) : tkOf W H f x y = 2 := by unfold tkOf; rw [if_neg h, if_pos h2]
theorem tk_C {W H : Int} {f : Nat → Int} {x y : Int} (h : ¬ (x = 0 ∨ x = 2 * W)) (h2 : ¬ (y = 0 ∨ y = 2 * H)) : tkOf W H f x y = f (numN W x y).toNat := by unfold tkOf; rw [if_neg h, if_neg h2]
theorem edge_mk {W H x y : Int} (h : ¬ (x = 0 ∨ x = 2 * W)) (h2 : ¬ (y = 0 ∨ y = 2 * H)) : edgeB W H x y = false := by
  unfold edgeB
  exact decide_eq_false (by omega)
theorem implTurn (w : World) (W H : Int) (A : Option Addr) (n c : Nat) (f : Nat → Int) (x y : Int) (hr : Row .i64 w A n c f) (hn : (n : Int) = inner W H) (hW : sideB W = true) (hH : sideB H = true) (h3 : hasB W H x y = true) :
    Calls Try.prog 82 #[.agg #[.int .i64 W, .int .i64 H, .slice A n c], .agg #[.int .i64 x, .int .i64 y]] w (Gives (.int .i64 (tkOf W H f x y)) w) := by
  obtain ⟨g1, g2, g3, g4, g5⟩ := has_yes h3
  by_cases hA : x = 0 ∨ x = 2 * W
  · rw [tk_A hA]
    rcases hA with h | h
    · exact implTurnA1 w W H A n c f x y hr hn hW hH h3 h
    · exact implTurnA2 w W H A n c f x y hr hn hW hH h3 h
  · by_cases hB : y = 0 ∨ y = 2 * H
    · rw [tk_B hA hB]
      rcases hB with h | h
      · exact implTurnB1 w W H A n c f x y hr hn hW hH h3 h
      · exact implTurnB2 w W H A n c f x y hr hn hW hH h3 h
    · rw [tk_C hA hB]
      exact implTurnC w W H A n c f x y hr hn hW hH h3 (edge_mk hA hB)
/-- the kinds of a valid panel -/
theorem kind_of {n : Nat} {f : Nat → Int} (h : kindsB n f = true) {i : Nat} (hi : i < n) : f i = 0 ∨ f i = 1 ∨ f i = 2 := by
  have := kinds_iff.1 h i hi
  omega
end Go.Proofs.Ytbpdjmjkjiddjaa.Base

namespace Go.Proofs.Ytbpdjmjkjiddjaa.Base
open Go.RowKit
set_option linter.unusedVariables false
set_option linter.unusedSimpArgs false

def tnB (W H : Int) (n : Nat) (f : Nat → Int) (x y dx dy : Int) : Bool := if wkB W H n f x y dx dy then decide (tkOf W H f (x + dx) (y + dy) ≠ 0) else false
theorem tnB_no {W H : Int} {n : Nat} {f : Nat → Int} {x y dx dy : Int} (h : wkB W H n f x y dx dy = false) : tnB W H n f x y dx dy = false := by simp [tnB, h]
theorem tnB_0 {W H : Int} {n : Nat} {f : Nat → Int} {x y dx dy : Int} (h : wkB W H n f x y dx dy = true) (h2 : tkOf W H f (x + dx) (y + dy) = 0) : tnB W H n f x y dx dy = false := by simp [tnB, h, h2]
theorem tnB_1 {W H : Int} {n : Nat} {f : Nat → Int} {x y dx dy : Int} (h : wkB W H n f x y dx dy = true) (h2 : tkOf W H f (x + dx) (y + dy) ≠ 0) : tnB W H n f x y dx dy = true := by simp [tnB, h, h2]
theorem tk_kind {W H : Int} {n : Nat} {f : Nat → Int} {x y : Int} (hn : (n : Int) = inner W H) (hK : kindsB n f = true) (hW : sideB W = true) (hH : sideB H = true) (h3 : hasB W H x y = true) : tkOf W H f x y = 0 ∨ tkOf W H f x y = 1 ∨ tkOf W H f x y = 2 := by
  by_cases hA : x = 0 ∨ x = 2 * W
  · exact .inr (.inl (tk_A hA))
  · by_cases hB : y = 0 ∨ y = 2 * H
    · exact .inr (.inr (tk_B hA hB))
    · rw [tk_C hA hB]
      have he := edge_mk hA hB
      obtain ⟨l1, l2⟩ := num_lt hW hH h3 he
      exact kind_of hK (by omega)
theorem goAll {W H x y dx dy : Int} {n : Nat} {f : Nat → Int} (h : wkB W H n f x y dx dy = true) : (n : Int) = inner W H ∧ kindsB n f = true := by
  obtain ⟨hv, -⟩ := wk_valid h
  obtain ⟨-, -, h3, h4⟩ := validB_yes hv
  exact ⟨h3, h4⟩

end Go.Proofs.Ytbpdjmjkjiddjaa.Base

namespace Go.Proofs.Ytbpdjmjkjiddjaa.Base
open Go.RowKit
set_option linter.unusedVariables false
set_option linter.unusedSimpArgs false

end Go.Proofs.Ytbpdjmjkjiddjaa.Base
