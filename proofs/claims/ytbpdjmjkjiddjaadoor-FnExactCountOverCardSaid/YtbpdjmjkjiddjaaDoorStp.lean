/-
  A step: spec's.
-/
import Derived.Test.YtbpdjmjkjiddjaaDoorWlk
namespace Go.Proofs.YtbpdjmjkjiddjaaDoor.Base
open Go.RowKit
set_option linter.unusedVariables false
set_option linter.unusedSimpArgs false

/-- how a point turns: a border as the mirror that lies along it -/
def tkOf (W H : Int) (f : Nat → Int) (x y : Int) : Int := if x = 0 ∨ x = 2 * W then 1 else if y = 0 ∨ y = 2 * H then 2 else f (numN W x y).toNat
def stDX (W H : Int) (f : Nat → Int) (x y dx dy : Int) : Int := if tkOf W H f (x + dx) (y + dy) = 1 then -dx else dx
def stDY (W H : Int) (f : Nat → Int) (x y dx dy : Int) : Int := if tkOf W H f (x + dx) (y + dy) = 2 then -dy else dy

set_option maxHeartbeats 2000000 in
theorem specStepA1 (w : World) (p : Nat) (W H : Int) (A : Option Addr) (n c : Nat) (f : Nat → Int) (x y dx dy : Int) (hb : Box w p W H A n c) (hr : Row .i64 w A n c f) (hn : (n : Int) = inner W H) (hW : sideB W = true) (hH : sideB H = true) (x1 : 0 ≤ x) (x2 : x ≤ 16) (y1 : 0 ≤ y) (y2 : y ≤ 16) (hx : signB dx = true) (hy : signB dy = true)
    (h3 : hasB W H (x + dx) (y + dy) = true) (ha : x + dx = 0) :
    Calls Tryd.prog 136 #[.pointer (some ⟨p, 0, none⟩), .agg #[.int .i64 x, .int .i64 y, .int .i64 dx, .int .i64 dy]] w (Gives (.agg #[.int .i64 (x + dx), .int .i64 (y + dy), .int .i64 (-dx), .int .i64 dy]) w) := by
  obtain ⟨g1, g2, g3, g4, g5⟩ := has_yes h3
  obtain ⟨c1, c2⟩ := side_mk hW
  obtain ⟨c3, c4⟩ := side_mk hH
  obtain ⟨s1, s2⟩ := sign_bd hx
  obtain ⟨s3, s4⟩ := sign_bd hy
  have e0 : (x + dx == 0) = true := beq_iff_eq.2 ha
  have e1 : (y + dy == 0) = false := beq_eq_false_iff_ne.2 (by omega)
  have e2 : (y + dy == 2 * H) = false := beq_eq_false_iff_ne.2 (by omega)
  have HE := Lib.hid (show edgeB W H (x + dx) (y + dy) = true from by simp [edgeB, ha])
  have HL := Lib.hid (show Below w.heap.size w ((w.alloc (.cells #[.int .i64 x, .int .i64 y, .int .i64 dx, .int .i64 dy] 131)).alloc (.cells #[.int .i64 0, .int .i64 0, .int .i64 0, .int .i64 0] 131)) from ((Below.refl _ _).alloc (Nat.le_refl _) _).alloc (by simp) _)
  have HB := Lib.hid (hb.below HL.out hb.1)
  have HR := Lib.hid hr
  clear ha hb hr
  try clear hn
  go_enter Tryd.func136, Tryd.ntmps136
  go_wp2_with fail
  refine (specNext _ x y dx dy x1 x2 y1 y2 hx hy).mono ?_
  rintro e w1 ⟨rfl, b1⟩
  obtain ⟨hc1, hf1⟩ := bcell b1
  have hz1 : w.heap.size + 1 < w1.heap.size := by have := b1.size; simp at this; omega
  have hz0 : w.heap.size < w1.heap.size := by omega
  have HB1 := Lib.hid (HB.out.below b1 HB.out.1)
  have HL1 := Lib.hid (HL.out.trans (b1.mono (by simp; omega)))
  clear b1
  obtain ⟨hp1, k0, k1, k2⟩ := id HB1.out
  have hpz := Nat.ne_of_lt hp1
  have hpz1 : p ≠ w1.heap.size + 1 := by omega
  go_wp2
  go_quiet (fail)
  go_wp2
  go_quiet (fail)
  go_wp2_with fail
  refine (specEdge_is HE.out (HB1.out.below (B := w1.heap.size) ?_ HB1.out.1) hW hH).mono ?_
  · (repeat' first | exact Below.refl _ _ | (with_reducible refine below_drewN ?_ _) | (with_reducible refine Below.drew ?_) | (with_reducible refine Below.setCell ?_ ?_ _) | (with_reducible refine Below.alloc ?_ ?_ _)) <;> first | (simp; done) | (simp; omega)
  rintro e w2 ⟨rfl, b2⟩
  obtain ⟨hc2, hf2⟩ := bcell b2
  have hz2 : w1.heap.size + 1 < w2.heap.size := by have := b2.size; simp at this; omega
  have hz3 : w1.heap.size < w2.heap.size := by omega
  have HB12 := Lib.hid (Below.trans (show Below w1.heap.size w1 _ from by (repeat' first | exact Below.refl _ _ | (with_reducible refine below_drewN ?_ _) | (with_reducible refine Below.drew ?_) | (with_reducible refine Below.setCell ?_ ?_ _) | (with_reducible refine Below.alloc ?_ ?_ _)) <;> first | (simp; done) | (simp; omega)) (b2.mono (by first | (simp; done) | (simp; omega))))
  clear b2
  have q0 : w2.cell? ⟨w.heap.size + 1, 0, none⟩ = some (.int .i64 0) := by rw [hc2 _ _ (by first | (simp; done) | (simp; omega))]; simp [go_sem, hc1, hz0, hz1]
  have q1 : w2.cell? ⟨w.heap.size + 1, 1, none⟩ = some (.int .i64 0) := by rw [hc2 _ _ (by first | (simp; done) | (simp; omega))]; simp [go_sem, hc1, hz0, hz1]
  have q2 : w2.cell? ⟨w.heap.size + 1, 2, none⟩ = some (.int .i64 0) := by rw [hc2 _ _ (by first | (simp; done) | (simp; omega))]; simp [go_sem, hc1, hz0, hz1]
  have q3 : w2.cell? ⟨w.heap.size + 1, 3, none⟩ = some (.int .i64 0) := by rw [hc2 _ _ (by first | (simp; done) | (simp; omega))]; simp [go_sem, hc1, hz0, hz1]
  go_wp2
  refine bodyPost_ret ?_ rfl ⟨rfl, ((((HL1.out.trans (HB12.out.mono HL1.out.size)).setCell (by first | (simp; done) | (simp; omega)) _).setCell (by first | (simp; done) | (simp; omega)) _).setCell (by first | (simp; done) | (simp; omega)) _).setCell (by first | (simp; done) | (simp; omega)) _⟩
  simp [results, Tryd.results136, go_sem, q0, q1, q2, q3]

set_option maxHeartbeats 2000000 in
theorem specStepA2 (w : World) (p : Nat) (W H : Int) (A : Option Addr) (n c : Nat) (f : Nat → Int) (x y dx dy : Int) (hb : Box w p W H A n c) (hr : Row .i64 w A n c f) (hn : (n : Int) = inner W H) (hW : sideB W = true) (hH : sideB H = true) (x1 : 0 ≤ x) (x2 : x ≤ 16) (y1 : 0 ≤ y) (y2 : y ≤ 16) (hx : signB dx = true) (hy : signB dy = true)
    (h3 : hasB W H (x + dx) (y + dy) = true) (ha : x + dx = 2 * W) :
    Calls Tryd.prog 136 #[.pointer (some ⟨p, 0, none⟩), .agg #[.int .i64 x, .int .i64 y, .int .i64 dx, .int .i64 dy]] w (Gives (.agg #[.int .i64 (x + dx), .int .i64 (y + dy), .int .i64 (-dx), .int .i64 dy]) w) := by
  obtain ⟨g1, g2, g3, g4, g5⟩ := has_yes h3
  obtain ⟨c1, c2⟩ := side_mk hW
  obtain ⟨c3, c4⟩ := side_mk hH
  obtain ⟨s1, s2⟩ := sign_bd hx
  obtain ⟨s3, s4⟩ := sign_bd hy
  have e0 : (x + dx == 0) = false := beq_eq_false_iff_ne.2 (by omega)
  have e1 : (x + dx == 2 * W) = true := beq_iff_eq.2 ha
  have e2 : (y + dy == 0) = false := beq_eq_false_iff_ne.2 (by omega)
  have e3 : (y + dy == 2 * H) = false := beq_eq_false_iff_ne.2 (by omega)
  have HE := Lib.hid (show edgeB W H (x + dx) (y + dy) = true from by simp [edgeB, ha])
  have HL := Lib.hid (show Below w.heap.size w ((w.alloc (.cells #[.int .i64 x, .int .i64 y, .int .i64 dx, .int .i64 dy] 131)).alloc (.cells #[.int .i64 0, .int .i64 0, .int .i64 0, .int .i64 0] 131)) from ((Below.refl _ _).alloc (Nat.le_refl _) _).alloc (by simp) _)
  have HB := Lib.hid (hb.below HL.out hb.1)
  have HR := Lib.hid hr
  clear ha hb hr
  try clear hn
  go_enter Tryd.func136, Tryd.ntmps136
  go_wp2_with fail
  refine (specNext _ x y dx dy x1 x2 y1 y2 hx hy).mono ?_
  rintro e w1 ⟨rfl, b1⟩
  obtain ⟨hc1, hf1⟩ := bcell b1
  have hz1 : w.heap.size + 1 < w1.heap.size := by have := b1.size; simp at this; omega
  have hz0 : w.heap.size < w1.heap.size := by omega
  have HB1 := Lib.hid (HB.out.below b1 HB.out.1)
  have HL1 := Lib.hid (HL.out.trans (b1.mono (by simp; omega)))
  clear b1
  obtain ⟨hp1, k0, k1, k2⟩ := id HB1.out
  have hpz := Nat.ne_of_lt hp1
  have hpz1 : p ≠ w1.heap.size + 1 := by omega
  go_wp2
  go_quiet (fail)
  go_wp2
  go_quiet (fail)
  go_wp2_with fail
  refine (specEdge_is HE.out (HB1.out.below (B := w1.heap.size) ?_ HB1.out.1) hW hH).mono ?_
  · (repeat' first | exact Below.refl _ _ | (with_reducible refine below_drewN ?_ _) | (with_reducible refine Below.drew ?_) | (with_reducible refine Below.setCell ?_ ?_ _) | (with_reducible refine Below.alloc ?_ ?_ _)) <;> first | (simp; done) | (simp; omega)
  rintro e w2 ⟨rfl, b2⟩
  obtain ⟨hc2, hf2⟩ := bcell b2
  have hz2 : w1.heap.size + 1 < w2.heap.size := by have := b2.size; simp at this; omega
  have hz3 : w1.heap.size < w2.heap.size := by omega
  have HB12 := Lib.hid (Below.trans (show Below w1.heap.size w1 _ from by (repeat' first | exact Below.refl _ _ | (with_reducible refine below_drewN ?_ _) | (with_reducible refine Below.drew ?_) | (with_reducible refine Below.setCell ?_ ?_ _) | (with_reducible refine Below.alloc ?_ ?_ _)) <;> first | (simp; done) | (simp; omega)) (b2.mono (by first | (simp; done) | (simp; omega))))
  clear b2
  have q0 : w2.cell? ⟨w.heap.size + 1, 0, none⟩ = some (.int .i64 0) := by rw [hc2 _ _ (by first | (simp; done) | (simp; omega))]; simp [go_sem, hc1, hz0, hz1]
  have q1 : w2.cell? ⟨w.heap.size + 1, 1, none⟩ = some (.int .i64 0) := by rw [hc2 _ _ (by first | (simp; done) | (simp; omega))]; simp [go_sem, hc1, hz0, hz1]
  have q2 : w2.cell? ⟨w.heap.size + 1, 2, none⟩ = some (.int .i64 0) := by rw [hc2 _ _ (by first | (simp; done) | (simp; omega))]; simp [go_sem, hc1, hz0, hz1]
  have q3 : w2.cell? ⟨w.heap.size + 1, 3, none⟩ = some (.int .i64 0) := by rw [hc2 _ _ (by first | (simp; done) | (simp; omega))]; simp [go_sem, hc1, hz0, hz1]
  go_wp2
  refine bodyPost_ret ?_ rfl ⟨rfl, ((((HL1.out.trans (HB12.out.mono HL1.out.size)).setCell (by first | (simp; done) | (simp; omega)) _).setCell (by first | (simp; done) | (simp; omega)) _).setCell (by first | (simp; done) | (simp; omega)) _).setCell (by first | (simp; done) | (simp; omega)) _⟩
  simp [results, Tryd.results136, go_sem, q0, q1, q2, q3]

set_option maxHeartbeats 2000000 in
theorem specStepB1 (w : World) (p : Nat) (W H : Int) (A : Option Addr) (n c : Nat) (f : Nat → Int) (x y dx dy : Int) (hb : Box w p W H A n c) (hr : Row .i64 w A n c f) (hn : (n : Int) = inner W H) (hW : sideB W = true) (hH : sideB H = true) (x1 : 0 ≤ x) (x2 : x ≤ 16) (y1 : 0 ≤ y) (y2 : y ≤ 16) (hx : signB dx = true) (hy : signB dy = true)
    (h3 : hasB W H (x + dx) (y + dy) = true) (ha : y + dy = 0) :
    Calls Tryd.prog 136 #[.pointer (some ⟨p, 0, none⟩), .agg #[.int .i64 x, .int .i64 y, .int .i64 dx, .int .i64 dy]] w (Gives (.agg #[.int .i64 (x + dx), .int .i64 (y + dy), .int .i64 dx, .int .i64 (-dy)]) w) := by
  obtain ⟨g1, g2, g3, g4, g5⟩ := has_yes h3
  obtain ⟨c1, c2⟩ := side_mk hW
  obtain ⟨c3, c4⟩ := side_mk hH
  obtain ⟨s1, s2⟩ := sign_bd hx
  obtain ⟨s3, s4⟩ := sign_bd hy
  have e0 : (x + dx == 0) = false := beq_eq_false_iff_ne.2 (by omega)
  have e1 : (x + dx == 2 * W) = false := beq_eq_false_iff_ne.2 (by omega)
  have e2 : (y + dy == 0) = true := beq_iff_eq.2 ha
  have HE := Lib.hid (show edgeB W H (x + dx) (y + dy) = true from by simp [edgeB, ha])
  have HL := Lib.hid (show Below w.heap.size w ((w.alloc (.cells #[.int .i64 x, .int .i64 y, .int .i64 dx, .int .i64 dy] 131)).alloc (.cells #[.int .i64 0, .int .i64 0, .int .i64 0, .int .i64 0] 131)) from ((Below.refl _ _).alloc (Nat.le_refl _) _).alloc (by simp) _)
  have HB := Lib.hid (hb.below HL.out hb.1)
  have HR := Lib.hid hr
  clear ha hb hr
  try clear hn
  go_enter Tryd.func136, Tryd.ntmps136
  go_wp2_with fail
  refine (specNext _ x y dx dy x1 x2 y1 y2 hx hy).mono ?_
  rintro e w1 ⟨rfl, b1⟩
  obtain ⟨hc1, hf1⟩ := bcell b1
  have hz1 : w.heap.size + 1 < w1.heap.size := by have := b1.size; simp at this; omega
  have hz0 : w.heap.size < w1.heap.size := by omega
  have HB1 := Lib.hid (HB.out.below b1 HB.out.1)
  have HL1 := Lib.hid (HL.out.trans (b1.mono (by simp; omega)))
  clear b1
  obtain ⟨hp1, k0, k1, k2⟩ := id HB1.out
  have hpz := Nat.ne_of_lt hp1
  have hpz1 : p ≠ w1.heap.size + 1 := by omega
  go_wp2
  go_quiet (fail)
  go_wp2
  go_quiet (fail)
  go_wp2_with fail
  refine (specEdge_is HE.out (HB1.out.below (B := w1.heap.size) ?_ HB1.out.1) hW hH).mono ?_
  · (repeat' first | exact Below.refl _ _ | (with_reducible refine below_drewN ?_ _) | (with_reducible refine Below.drew ?_) | (with_reducible refine Below.setCell ?_ ?_ _) | (with_reducible refine Below.alloc ?_ ?_ _)) <;> first | (simp; done) | (simp; omega)
  rintro e w2 ⟨rfl, b2⟩
  obtain ⟨hc2, hf2⟩ := bcell b2
  have hz2 : w1.heap.size + 1 < w2.heap.size := by have := b2.size; simp at this; omega
  have hz3 : w1.heap.size < w2.heap.size := by omega
  have HB12 := Lib.hid (Below.trans (show Below w1.heap.size w1 _ from by (repeat' first | exact Below.refl _ _ | (with_reducible refine below_drewN ?_ _) | (with_reducible refine Below.drew ?_) | (with_reducible refine Below.setCell ?_ ?_ _) | (with_reducible refine Below.alloc ?_ ?_ _)) <;> first | (simp; done) | (simp; omega)) (b2.mono (by first | (simp; done) | (simp; omega))))
  clear b2
  have q0 : w2.cell? ⟨w.heap.size + 1, 0, none⟩ = some (.int .i64 0) := by rw [hc2 _ _ (by first | (simp; done) | (simp; omega))]; simp [go_sem, hc1, hz0, hz1]
  have q1 : w2.cell? ⟨w.heap.size + 1, 1, none⟩ = some (.int .i64 0) := by rw [hc2 _ _ (by first | (simp; done) | (simp; omega))]; simp [go_sem, hc1, hz0, hz1]
  have q2 : w2.cell? ⟨w.heap.size + 1, 2, none⟩ = some (.int .i64 0) := by rw [hc2 _ _ (by first | (simp; done) | (simp; omega))]; simp [go_sem, hc1, hz0, hz1]
  have q3 : w2.cell? ⟨w.heap.size + 1, 3, none⟩ = some (.int .i64 0) := by rw [hc2 _ _ (by first | (simp; done) | (simp; omega))]; simp [go_sem, hc1, hz0, hz1]
  go_wp2
  refine bodyPost_ret ?_ rfl ⟨rfl, ((((HL1.out.trans (HB12.out.mono HL1.out.size)).setCell (by first | (simp; done) | (simp; omega)) _).setCell (by first | (simp; done) | (simp; omega)) _).setCell (by first | (simp; done) | (simp; omega)) _).setCell (by first | (simp; done) | (simp; omega)) _⟩
  simp [results, Tryd.results136, go_sem, q0, q1, q2, q3]

set_option maxHeartbeats 2000000 in
theorem specStepB2 (w : World) (p : Nat) (W H : Int) (A : Option Addr) (n c : Nat) (f : Nat → Int) (x y dx dy : Int) (hb : Box w p W H A n c) (hr : Row .i64 w A n c f) (hn : (n : Int) = inner W H) (hW : sideB W = true) (hH : sideB H = true) (x1 : 0 ≤ x) (x2 : x ≤ 16) (y1 : 0 ≤ y) (y2 : y ≤ 16) (hx : signB dx = true) (hy : signB dy = true)
    (h3 : hasB W H (x + dx) (y + dy) = true) (ha : y + dy = 2 * H) :
    Calls Tryd.prog 136 #[.pointer (some ⟨p, 0, none⟩), .agg #[.int .i64 x, .int .i64 y, .int .i64 dx, .int .i64 dy]] w (Gives (.agg #[.int .i64 (x + dx), .int .i64 (y + dy), .int .i64 dx, .int .i64 (-dy)]) w) := by
  obtain ⟨g1, g2, g3, g4, g5⟩ := has_yes h3
  obtain ⟨c1, c2⟩ := side_mk hW
  obtain ⟨c3, c4⟩ := side_mk hH
  obtain ⟨s1, s2⟩ := sign_bd hx
  obtain ⟨s3, s4⟩ := sign_bd hy
  have e0 : (x + dx == 0) = false := beq_eq_false_iff_ne.2 (by omega)
  have e1 : (x + dx == 2 * W) = false := beq_eq_false_iff_ne.2 (by omega)
  have e2 : (y + dy == 0) = false := beq_eq_false_iff_ne.2 (by omega)
  have e3 : (y + dy == 2 * H) = true := beq_iff_eq.2 ha
  have HE := Lib.hid (show edgeB W H (x + dx) (y + dy) = true from by simp [edgeB, ha])
  have HL := Lib.hid (show Below w.heap.size w ((w.alloc (.cells #[.int .i64 x, .int .i64 y, .int .i64 dx, .int .i64 dy] 131)).alloc (.cells #[.int .i64 0, .int .i64 0, .int .i64 0, .int .i64 0] 131)) from ((Below.refl _ _).alloc (Nat.le_refl _) _).alloc (by simp) _)
  have HB := Lib.hid (hb.below HL.out hb.1)
  have HR := Lib.hid hr
  clear ha hb hr
  try clear hn
  go_enter Tryd.func136, Tryd.ntmps136
  go_wp2_with fail
  refine (specNext _ x y dx dy x1 x2 y1 y2 hx hy).mono ?_
  rintro e w1 ⟨rfl, b1⟩
  obtain ⟨hc1, hf1⟩ := bcell b1
  have hz1 : w.heap.size + 1 < w1.heap.size := by have := b1.size; simp at this; omega
  have hz0 : w.heap.size < w1.heap.size := by omega
  have HB1 := Lib.hid (HB.out.below b1 HB.out.1)
  have HL1 := Lib.hid (HL.out.trans (b1.mono (by simp; omega)))
  clear b1
  obtain ⟨hp1, k0, k1, k2⟩ := id HB1.out
  have hpz := Nat.ne_of_lt hp1
  have hpz1 : p ≠ w1.heap.size + 1 := by omega
  go_wp2
  go_quiet (fail)
  go_wp2
  go_quiet (fail)
  go_wp2_with fail
  refine (specEdge_is HE.out (HB1.out.below (B := w1.heap.size) ?_ HB1.out.1) hW hH).mono ?_
  · (repeat' first | exact Below.refl _ _ | (with_reducible refine below_drewN ?_ _) | (with_reducible refine Below.drew ?_) | (with_reducible refine Below.setCell ?_ ?_ _) | (with_reducible refine Below.alloc ?_ ?_ _)) <;> first | (simp; done) | (simp; omega)
  rintro e w2 ⟨rfl, b2⟩
  obtain ⟨hc2, hf2⟩ := bcell b2
  have hz2 : w1.heap.size + 1 < w2.heap.size := by have := b2.size; simp at this; omega
  have hz3 : w1.heap.size < w2.heap.size := by omega
  have HB12 := Lib.hid (Below.trans (show Below w1.heap.size w1 _ from by (repeat' first | exact Below.refl _ _ | (with_reducible refine below_drewN ?_ _) | (with_reducible refine Below.drew ?_) | (with_reducible refine Below.setCell ?_ ?_ _) | (with_reducible refine Below.alloc ?_ ?_ _)) <;> first | (simp; done) | (simp; omega)) (b2.mono (by first | (simp; done) | (simp; omega))))
  clear b2
  have q0 : w2.cell? ⟨w.heap.size + 1, 0, none⟩ = some (.int .i64 0) := by rw [hc2 _ _ (by first | (simp; done) | (simp; omega))]; simp [go_sem, hc1, hz0, hz1]
  have q1 : w2.cell? ⟨w.heap.size + 1, 1, none⟩ = some (.int .i64 0) := by rw [hc2 _ _ (by first | (simp; done) | (simp; omega))]; simp [go_sem, hc1, hz0, hz1]
  have q2 : w2.cell? ⟨w.heap.size + 1, 2, none⟩ = some (.int .i64 0) := by rw [hc2 _ _ (by first | (simp; done) | (simp; omega))]; simp [go_sem, hc1, hz0, hz1]
  have q3 : w2.cell? ⟨w.heap.size + 1, 3, none⟩ = some (.int .i64 0) := by rw [hc2 _ _ (by first | (simp; done) | (simp; omega))]; simp [go_sem, hc1, hz0, hz1]
  go_wp2
  refine bodyPost_ret ?_ rfl ⟨rfl, ((((HL1.out.trans (HB12.out.mono HL1.out.size)).setCell (by first | (simp; done) | (simp; omega)) _).setCell (by first | (simp; done) | (simp; omega)) _).setCell (by first | (simp; done) | (simp; omega)) _).setCell (by first | (simp; done) | (simp; omega)) _⟩
  simp [results, Tryd.results136, go_sem, q0, q1, q2, q3]

set_option maxHeartbeats 2000000 in
theorem specStepC0 (w : World) (p : Nat) (W H : Int) (A : Option Addr) (n c : Nat) (f : Nat → Int) (x y dx dy : Int) (hb : Box w p W H A n c) (hr : Row .i64 w A n c f) (hn : (n : Int) = inner W H) (hW : sideB W = true) (hH : sideB H = true) (x1 : 0 ≤ x) (x2 : x ≤ 16) (y1 : 0 ≤ y) (y2 : y ≤ 16) (hx : signB dx = true) (hy : signB dy = true)
    (h3 : hasB W H (x + dx) (y + dy) = true) (ha : edgeB W H (x + dx) (y + dy) = false ∧ f (numN W (x + dx) (y + dy)).toNat = 0) :
    Calls Tryd.prog 136 #[.pointer (some ⟨p, 0, none⟩), .agg #[.int .i64 x, .int .i64 y, .int .i64 dx, .int .i64 dy]] w (Gives (.agg #[.int .i64 (x + dx), .int .i64 (y + dy), .int .i64 dx, .int .i64 dy]) w) := by
  obtain ⟨g1, g2, g3, g4, g5⟩ := has_yes h3
  obtain ⟨c1, c2⟩ := side_mk hW
  obtain ⟨c3, c4⟩ := side_mk hH
  obtain ⟨s1, s2⟩ := sign_bd hx
  obtain ⟨s3, s4⟩ := sign_bd hy
  obtain ⟨ha, hk⟩ := ha
  obtain ⟨d1, d2, d3, d4⟩ := edge_no ha
  obtain ⟨i1, i2, i3, i4⟩ := inside hW hH h3 ha
  obtain ⟨l1, l2⟩ := num_lt hW hH h3 ha
  have l3 : numN W (x + dx) (y + dy) < (n : Int) := by rw [hn]; exact l2
  have e0 : (x + dx == 0) = false := beq_eq_false_iff_ne.2 d1
  have e1 : (x + dx == 2 * W) = false := beq_eq_false_iff_ne.2 d3
  have e2 : (y + dy == 0) = false := beq_eq_false_iff_ne.2 d2
  have e3 : (y + dy == 2 * H) = false := beq_eq_false_iff_ne.2 d4
  have HE := Lib.hid ha
  have hnc := hr.1
  have hcm := hr.2.1
  unfold maxLen at hcm
  obtain ⟨b, o, rfl, hbl, hcell⟩ := hr.2.2.2 (by omega)
  have ck0 := hcell (numN W (x + dx) (y + dy)).toNat (by omega)
  rw [hk] at ck0
  have CK := Lib.hid ck0
  clear hcell ck0 hk hn l2
  have HL := Lib.hid (show Below w.heap.size w ((w.alloc (.cells #[.int .i64 x, .int .i64 y, .int .i64 dx, .int .i64 dy] 131)).alloc (.cells #[.int .i64 0, .int .i64 0, .int .i64 0, .int .i64 0] 131)) from ((Below.refl _ _).alloc (Nat.le_refl _) _).alloc (by simp) _)
  have HB := Lib.hid (hb.below HL.out hb.1)
  have HR := Lib.hid hr
  clear ha hb hr
  try clear hn
  go_enter Tryd.func136, Tryd.ntmps136
  go_wp2_with fail
  refine (specNext _ x y dx dy x1 x2 y1 y2 hx hy).mono ?_
  rintro e w1 ⟨rfl, b1⟩
  obtain ⟨hc1, hf1⟩ := bcell b1
  have hz1 : w.heap.size + 1 < w1.heap.size := by have := b1.size; simp at this; omega
  have hz0 : w.heap.size < w1.heap.size := by omega
  have HB1 := Lib.hid (HB.out.below b1 HB.out.1)
  have HL1 := Lib.hid (HL.out.trans (b1.mono (by simp; omega)))
  clear b1
  obtain ⟨hp1, k0, k1, k2⟩ := id HB1.out
  have hpz := Nat.ne_of_lt hp1
  have hpz1 : p ≠ w1.heap.size + 1 := by omega
  go_wp2
  go_quiet (fail)
  go_wp2
  go_quiet (fail)
  go_wp2_with fail
  refine (specEdge_is HE.out (HB1.out.below (B := w1.heap.size) ?_ HB1.out.1) hW hH).mono ?_
  · (repeat' first | exact Below.refl _ _ | (with_reducible refine below_drewN ?_ _) | (with_reducible refine Below.drew ?_) | (with_reducible refine Below.setCell ?_ ?_ _) | (with_reducible refine Below.alloc ?_ ?_ _)) <;> first | (simp; done) | (simp; omega)
  rintro e w2 ⟨rfl, b2⟩
  obtain ⟨hc2, hf2⟩ := bcell b2
  have hz2 : w1.heap.size + 1 < w2.heap.size := by have := b2.size; simp at this; omega
  have hz3 : w1.heap.size < w2.heap.size := by omega
  have HB12 := Lib.hid (Below.trans (show Below w1.heap.size w1 _ from by (repeat' first | exact Below.refl _ _ | (with_reducible refine below_drewN ?_ _) | (with_reducible refine Below.drew ?_) | (with_reducible refine Below.setCell ?_ ?_ _) | (with_reducible refine Below.alloc ?_ ?_ _)) <;> first | (simp; done) | (simp; omega)) (b2.mono (by first | (simp; done) | (simp; omega))))
  clear b2
  have HBX := Lib.hid (HB1.out.below HB12.out HB1.out.1)
  obtain ⟨hp2, r0, r1, r2⟩ := id HBX.out
  have m0 : w2.cell? ⟨w1.heap.size, 0, none⟩ = some (.int .i64 (x + dx)) := by rw [hc2 _ _ (by first | (simp; done) | (simp; omega))]; simp [go_sem, hc1, hz0, hz1]
  have m1 : w2.cell? ⟨w1.heap.size, 1, none⟩ = some (.int .i64 (y + dy)) := by rw [hc2 _ _ (by first | (simp; done) | (simp; omega))]; simp [go_sem, hc1, hz0, hz1]
  have o0 : w2.cell? ⟨w1.heap.size + 1, 0, none⟩ = some (.int .i64 (x + dx)) := by rw [hc2 _ _ (by first | (simp; done) | (simp; omega))]; simp [go_sem, hc1, hz0, hz1]
  have o1 : w2.cell? ⟨w1.heap.size + 1, 1, none⟩ = some (.int .i64 (y + dy)) := by rw [hc2 _ _ (by first | (simp; done) | (simp; omega))]; simp [go_sem, hc1, hz0, hz1]
  have o2 : w2.cell? ⟨w1.heap.size + 1, 2, none⟩ = some (.int .i64 dx) := by rw [hc2 _ _ (by first | (simp; done) | (simp; omega))]; simp [go_sem, hc1, hz0, hz1]
  have o3 : w2.cell? ⟨w1.heap.size + 1, 3, none⟩ = some (.int .i64 dy) := by rw [hc2 _ _ (by first | (simp; done) | (simp; omega))]; simp [go_sem, hc1, hz0, hz1]
  have q0 : w2.cell? ⟨w.heap.size + 1, 0, none⟩ = some (.int .i64 0) := by rw [hc2 _ _ (by first | (simp; done) | (simp; omega))]; simp [go_sem, hc1, hz0, hz1]
  have q1 : w2.cell? ⟨w.heap.size + 1, 1, none⟩ = some (.int .i64 0) := by rw [hc2 _ _ (by first | (simp; done) | (simp; omega))]; simp [go_sem, hc1, hz0, hz1]
  have q2 : w2.cell? ⟨w.heap.size + 1, 2, none⟩ = some (.int .i64 0) := by rw [hc2 _ _ (by first | (simp; done) | (simp; omega))]; simp [go_sem, hc1, hz0, hz1]
  have q3 : w2.cell? ⟨w.heap.size + 1, 3, none⟩ = some (.int .i64 0) := by rw [hc2 _ _ (by first | (simp; done) | (simp; omega))]; simp [go_sem, hc1, hz0, hz1]
  have fo0 : w2.frozen? ⟨w1.heap.size + 1, 0, none⟩ = false := by rw [hf2 _ _ (by first | (simp; done) | (simp; omega))]; simp [go_sem]
  have fo1 : w2.frozen? ⟨w1.heap.size + 1, 1, none⟩ = false := by rw [hf2 _ _ (by first | (simp; done) | (simp; omega))]; simp [go_sem]
  have fo2 : w2.frozen? ⟨w1.heap.size + 1, 2, none⟩ = false := by rw [hf2 _ _ (by first | (simp; done) | (simp; omega))]; simp [go_sem]
  have fo3 : w2.frozen? ⟨w1.heap.size + 1, 3, none⟩ = false := by rw [hf2 _ _ (by first | (simp; done) | (simp; omega))]; simp [go_sem]
  have fq0 : w2.frozen? ⟨w.heap.size + 1, 0, none⟩ = false := by rw [hf2 _ _ (by first | (simp; done) | (simp; omega))]; simp [go_sem, hf1, hz0, hz1]
  have fq1 : w2.frozen? ⟨w.heap.size + 1, 1, none⟩ = false := by rw [hf2 _ _ (by first | (simp; done) | (simp; omega))]; simp [go_sem, hf1, hz0, hz1]
  have fq2 : w2.frozen? ⟨w.heap.size + 1, 2, none⟩ = false := by rw [hf2 _ _ (by first | (simp; done) | (simp; omega))]; simp [go_sem, hf1, hz0, hz1]
  have fq3 : w2.frozen? ⟨w.heap.size + 1, 3, none⟩ = false := by rw [hf2 _ _ (by first | (simp; done) | (simp; omega))]; simp [go_sem, hf1, hz0, hz1]
  have cko : w2.cell? ⟨b, o + (numN W (x + dx) (y + dy)).toNat, none⟩ = some (.int .i64 0) := ((HL1.out.trans (HB12.out.mono HL1.out.size)).cell (p := ⟨b, o + (numN W (x + dx) (y + dy)).toNat, none⟩) hbl).trans CK.out
  have hbl2 : b < w2.heap.size := World.block_lt_of_cell? _ _ cko
  have hw2 : w.heap.size + 1 < w2.heap.size := by omega
  have OL := Lib.hid (Old.mk_ (Below.refl w2.heap.size w2).drew)
  clear hc1 hf1 hc2 hf2 k0 k1 k2
  go_wp2_with fail
  go_region_held3 (fun w' => (∀ b o, b < (w2).heap.size → w'.cell? ⟨b, o, none⟩ = (w2).cell? ⟨b, o, none⟩) ∧ Below (w2).heap.size (w2) w')
    (first | assumption | exact OL.out | exact Old.trans (by assumption) (by assumption))
    (first | (go_at_call 171; refine (specNumber _ p W H (some ⟨b, o, none⟩) n c (x + dx) (y + dy) ?_ hW i1 i2 i3 i4).mono ?_; exact HBX.out.below (And.right (by assumption)) HBX.out.1; rintro e wa ⟨rfl, ba⟩))
  rename_i hS
  have hB3 := hS.2
  clear hS OL
  have HB3 := Lib.hid hB3
  have o0' := (hB3.cell (p := ⟨w1.heap.size + 1, 0, none⟩) hz2).trans o0
  have fo0' := (hB3.frozen (p := ⟨w1.heap.size + 1, 0, none⟩) hz2).trans fo0
  have o1' := (hB3.cell (p := ⟨w1.heap.size + 1, 1, none⟩) hz2).trans o1
  have fo1' := (hB3.frozen (p := ⟨w1.heap.size + 1, 1, none⟩) hz2).trans fo1
  have o2' := (hB3.cell (p := ⟨w1.heap.size + 1, 2, none⟩) hz2).trans o2
  have fo2' := (hB3.frozen (p := ⟨w1.heap.size + 1, 2, none⟩) hz2).trans fo2
  have o3' := (hB3.cell (p := ⟨w1.heap.size + 1, 3, none⟩) hz2).trans o3
  have fo3' := (hB3.frozen (p := ⟨w1.heap.size + 1, 3, none⟩) hz2).trans fo3
  have q0' := (hB3.cell (p := ⟨w.heap.size + 1, 0, none⟩) hw2).trans q0
  have fq0' := (hB3.frozen (p := ⟨w.heap.size + 1, 0, none⟩) hw2).trans fq0
  have q1' := (hB3.cell (p := ⟨w.heap.size + 1, 1, none⟩) hw2).trans q1
  have fq1' := (hB3.frozen (p := ⟨w.heap.size + 1, 1, none⟩) hw2).trans fq1
  have q2' := (hB3.cell (p := ⟨w.heap.size + 1, 2, none⟩) hw2).trans q2
  have fq2' := (hB3.frozen (p := ⟨w.heap.size + 1, 2, none⟩) hw2).trans fq2
  have q3' := (hB3.cell (p := ⟨w.heap.size + 1, 3, none⟩) hw2).trans q3
  have fq3' := (hB3.frozen (p := ⟨w.heap.size + 1, 3, none⟩) hw2).trans fq3
  have hne : w.heap.size + 1 ≠ w1.heap.size + 1 := by omega
  have hBF := Lib.hid ((HL1.out.trans (HB12.out.mono HL1.out.size)).trans (hB3.mono (Nat.le_trans HL1.out.size HB12.out.size)))
  clear hB3 m0 m1 o0 o1 o2 o3 q0 q1 q2 q3 fo0 fo1 fo2 fo3 fq0 fq1 fq2 fq3 cko r0 r1 r2
  go_wp2
  refine bodyPost_ret ?_ rfl ⟨rfl, ((((hBF.out).setCell (by first | (simp; done) | (simp; omega)) _).setCell (by first | (simp; done) | (simp; omega)) _).setCell (by first | (simp; done) | (simp; omega)) _).setCell (by first | (simp; done) | (simp; omega)) _⟩
  simp [results, Tryd.results136, go_sem, q0', q1', q2', q3', hne]

set_option maxHeartbeats 2000000 in
theorem specStepC1 (w : World) (p : Nat) (W H : Int) (A : Option Addr) (n c : Nat) (f : Nat → Int) (x y dx dy : Int) (hb : Box w p W H A n c) (hr : Row .i64 w A n c f) (hn : (n : Int) = inner W H) (hW : sideB W = true) (hH : sideB H = true) (x1 : 0 ≤ x) (x2 : x ≤ 16) (y1 : 0 ≤ y) (y2 : y ≤ 16) (hx : signB dx = true) (hy : signB dy = true)
    (h3 : hasB W H (x + dx) (y + dy) = true) (ha : edgeB W H (x + dx) (y + dy) = false ∧ f (numN W (x + dx) (y + dy)).toNat = 1) :
    Calls Tryd.prog 136 #[.pointer (some ⟨p, 0, none⟩), .agg #[.int .i64 x, .int .i64 y, .int .i64 dx, .int .i64 dy]] w (Gives (.agg #[.int .i64 (x + dx), .int .i64 (y + dy), .int .i64 (-dx), .int .i64 dy]) w) := by
  obtain ⟨g1, g2, g3, g4, g5⟩ := has_yes h3
  obtain ⟨c1, c2⟩ := side_mk hW
  obtain ⟨c3, c4⟩ := side_mk hH
  obtain ⟨s1, s2⟩ := sign_bd hx
  obtain ⟨s3, s4⟩ := sign_bd hy
  obtain ⟨ha, hk⟩ := ha
  obtain ⟨d1, d2, d3, d4⟩ := edge_no ha
  obtain ⟨i1, i2, i3, i4⟩ := inside hW hH h3 ha
  obtain ⟨l1, l2⟩ := num_lt hW hH h3 ha
  have l3 : numN W (x + dx) (y + dy) < (n : Int) := by rw [hn]; exact l2
  have e0 : (x + dx == 0) = false := beq_eq_false_iff_ne.2 d1
  have e1 : (x + dx == 2 * W) = false := beq_eq_false_iff_ne.2 d3
  have e2 : (y + dy == 0) = false := beq_eq_false_iff_ne.2 d2
  have e3 : (y + dy == 2 * H) = false := beq_eq_false_iff_ne.2 d4
  have HE := Lib.hid ha
  have hnc := hr.1
  have hcm := hr.2.1
  unfold maxLen at hcm
  obtain ⟨b, o, rfl, hbl, hcell⟩ := hr.2.2.2 (by omega)
  have ck0 := hcell (numN W (x + dx) (y + dy)).toNat (by omega)
  rw [hk] at ck0
  have CK := Lib.hid ck0
  clear hcell ck0 hk hn l2
  have HL := Lib.hid (show Below w.heap.size w ((w.alloc (.cells #[.int .i64 x, .int .i64 y, .int .i64 dx, .int .i64 dy] 131)).alloc (.cells #[.int .i64 0, .int .i64 0, .int .i64 0, .int .i64 0] 131)) from ((Below.refl _ _).alloc (Nat.le_refl _) _).alloc (by simp) _)
  have HB := Lib.hid (hb.below HL.out hb.1)
  have HR := Lib.hid hr
  clear ha hb hr
  try clear hn
  go_enter Tryd.func136, Tryd.ntmps136
  go_wp2_with fail
  refine (specNext _ x y dx dy x1 x2 y1 y2 hx hy).mono ?_
  rintro e w1 ⟨rfl, b1⟩
  obtain ⟨hc1, hf1⟩ := bcell b1
  have hz1 : w.heap.size + 1 < w1.heap.size := by have := b1.size; simp at this; omega
  have hz0 : w.heap.size < w1.heap.size := by omega
  have HB1 := Lib.hid (HB.out.below b1 HB.out.1)
  have HL1 := Lib.hid (HL.out.trans (b1.mono (by simp; omega)))
  clear b1
  obtain ⟨hp1, k0, k1, k2⟩ := id HB1.out
  have hpz := Nat.ne_of_lt hp1
  have hpz1 : p ≠ w1.heap.size + 1 := by omega
  go_wp2
  go_quiet (fail)
  go_wp2
  go_quiet (fail)
  go_wp2_with fail
  refine (specEdge_is HE.out (HB1.out.below (B := w1.heap.size) ?_ HB1.out.1) hW hH).mono ?_
  · (repeat' first | exact Below.refl _ _ | (with_reducible refine below_drewN ?_ _) | (with_reducible refine Below.drew ?_) | (with_reducible refine Below.setCell ?_ ?_ _) | (with_reducible refine Below.alloc ?_ ?_ _)) <;> first | (simp; done) | (simp; omega)
  rintro e w2 ⟨rfl, b2⟩
  obtain ⟨hc2, hf2⟩ := bcell b2
  have hz2 : w1.heap.size + 1 < w2.heap.size := by have := b2.size; simp at this; omega
  have hz3 : w1.heap.size < w2.heap.size := by omega
  have HB12 := Lib.hid (Below.trans (show Below w1.heap.size w1 _ from by (repeat' first | exact Below.refl _ _ | (with_reducible refine below_drewN ?_ _) | (with_reducible refine Below.drew ?_) | (with_reducible refine Below.setCell ?_ ?_ _) | (with_reducible refine Below.alloc ?_ ?_ _)) <;> first | (simp; done) | (simp; omega)) (b2.mono (by first | (simp; done) | (simp; omega))))
  clear b2
  have HBX := Lib.hid (HB1.out.below HB12.out HB1.out.1)
  obtain ⟨hp2, r0, r1, r2⟩ := id HBX.out
  have m0 : w2.cell? ⟨w1.heap.size, 0, none⟩ = some (.int .i64 (x + dx)) := by rw [hc2 _ _ (by first | (simp; done) | (simp; omega))]; simp [go_sem, hc1, hz0, hz1]
  have m1 : w2.cell? ⟨w1.heap.size, 1, none⟩ = some (.int .i64 (y + dy)) := by rw [hc2 _ _ (by first | (simp; done) | (simp; omega))]; simp [go_sem, hc1, hz0, hz1]
  have o0 : w2.cell? ⟨w1.heap.size + 1, 0, none⟩ = some (.int .i64 (x + dx)) := by rw [hc2 _ _ (by first | (simp; done) | (simp; omega))]; simp [go_sem, hc1, hz0, hz1]
  have o1 : w2.cell? ⟨w1.heap.size + 1, 1, none⟩ = some (.int .i64 (y + dy)) := by rw [hc2 _ _ (by first | (simp; done) | (simp; omega))]; simp [go_sem, hc1, hz0, hz1]
  have o2 : w2.cell? ⟨w1.heap.size + 1, 2, none⟩ = some (.int .i64 dx) := by rw [hc2 _ _ (by first | (simp; done) | (simp; omega))]; simp [go_sem, hc1, hz0, hz1]
  have o3 : w2.cell? ⟨w1.heap.size + 1, 3, none⟩ = some (.int .i64 dy) := by rw [hc2 _ _ (by first | (simp; done) | (simp; omega))]; simp [go_sem, hc1, hz0, hz1]
  have q0 : w2.cell? ⟨w.heap.size + 1, 0, none⟩ = some (.int .i64 0) := by rw [hc2 _ _ (by first | (simp; done) | (simp; omega))]; simp [go_sem, hc1, hz0, hz1]
  have q1 : w2.cell? ⟨w.heap.size + 1, 1, none⟩ = some (.int .i64 0) := by rw [hc2 _ _ (by first | (simp; done) | (simp; omega))]; simp [go_sem, hc1, hz0, hz1]
  have q2 : w2.cell? ⟨w.heap.size + 1, 2, none⟩ = some (.int .i64 0) := by rw [hc2 _ _ (by first | (simp; done) | (simp; omega))]; simp [go_sem, hc1, hz0, hz1]
  have q3 : w2.cell? ⟨w.heap.size + 1, 3, none⟩ = some (.int .i64 0) := by rw [hc2 _ _ (by first | (simp; done) | (simp; omega))]; simp [go_sem, hc1, hz0, hz1]
  have fo0 : w2.frozen? ⟨w1.heap.size + 1, 0, none⟩ = false := by rw [hf2 _ _ (by first | (simp; done) | (simp; omega))]; simp [go_sem]
  have fo1 : w2.frozen? ⟨w1.heap.size + 1, 1, none⟩ = false := by rw [hf2 _ _ (by first | (simp; done) | (simp; omega))]; simp [go_sem]
  have fo2 : w2.frozen? ⟨w1.heap.size + 1, 2, none⟩ = false := by rw [hf2 _ _ (by first | (simp; done) | (simp; omega))]; simp [go_sem]
  have fo3 : w2.frozen? ⟨w1.heap.size + 1, 3, none⟩ = false := by rw [hf2 _ _ (by first | (simp; done) | (simp; omega))]; simp [go_sem]
  have fq0 : w2.frozen? ⟨w.heap.size + 1, 0, none⟩ = false := by rw [hf2 _ _ (by first | (simp; done) | (simp; omega))]; simp [go_sem, hf1, hz0, hz1]
  have fq1 : w2.frozen? ⟨w.heap.size + 1, 1, none⟩ = false := by rw [hf2 _ _ (by first | (simp; done) | (simp; omega))]; simp [go_sem, hf1, hz0, hz1]
  have fq2 : w2.frozen? ⟨w.heap.size + 1, 2, none⟩ = false := by rw [hf2 _ _ (by first | (simp; done) | (simp; omega))]; simp [go_sem, hf1, hz0, hz1]
  have fq3 : w2.frozen? ⟨w.heap.size + 1, 3, none⟩ = false := by rw [hf2 _ _ (by first | (simp; done) | (simp; omega))]; simp [go_sem, hf1, hz0, hz1]
  have cko : w2.cell? ⟨b, o + (numN W (x + dx) (y + dy)).toNat, none⟩ = some (.int .i64 1) := ((HL1.out.trans (HB12.out.mono HL1.out.size)).cell (p := ⟨b, o + (numN W (x + dx) (y + dy)).toNat, none⟩) hbl).trans CK.out
  have hbl2 : b < w2.heap.size := World.block_lt_of_cell? _ _ cko
  have hw2 : w.heap.size + 1 < w2.heap.size := by omega
  have OL := Lib.hid (Old.mk_ (Below.refl w2.heap.size w2).drew)
  clear hc1 hf1 hc2 hf2 k0 k1 k2
  go_wp2_with fail
  go_region_held3 (fun w' => (∀ b o, b < (w2).heap.size → w'.cell? ⟨b, o, none⟩ = (w2).cell? ⟨b, o, none⟩) ∧ Below (w2).heap.size (w2) w')
    (first | assumption | exact OL.out | exact Old.trans (by assumption) (by assumption))
    (first | (go_at_call 171; refine (specNumber _ p W H (some ⟨b, o, none⟩) n c (x + dx) (y + dy) ?_ hW i1 i2 i3 i4).mono ?_; exact HBX.out.below (And.right (by assumption)) HBX.out.1; rintro e wa ⟨rfl, ba⟩))
  rename_i hS
  have hB3 := hS.2
  clear hS OL
  have HB3 := Lib.hid hB3
  have o0' := (hB3.cell (p := ⟨w1.heap.size + 1, 0, none⟩) hz2).trans o0
  have fo0' := (hB3.frozen (p := ⟨w1.heap.size + 1, 0, none⟩) hz2).trans fo0
  have o1' := (hB3.cell (p := ⟨w1.heap.size + 1, 1, none⟩) hz2).trans o1
  have fo1' := (hB3.frozen (p := ⟨w1.heap.size + 1, 1, none⟩) hz2).trans fo1
  have o2' := (hB3.cell (p := ⟨w1.heap.size + 1, 2, none⟩) hz2).trans o2
  have fo2' := (hB3.frozen (p := ⟨w1.heap.size + 1, 2, none⟩) hz2).trans fo2
  have o3' := (hB3.cell (p := ⟨w1.heap.size + 1, 3, none⟩) hz2).trans o3
  have fo3' := (hB3.frozen (p := ⟨w1.heap.size + 1, 3, none⟩) hz2).trans fo3
  have q0' := (hB3.cell (p := ⟨w.heap.size + 1, 0, none⟩) hw2).trans q0
  have fq0' := (hB3.frozen (p := ⟨w.heap.size + 1, 0, none⟩) hw2).trans fq0
  have q1' := (hB3.cell (p := ⟨w.heap.size + 1, 1, none⟩) hw2).trans q1
  have fq1' := (hB3.frozen (p := ⟨w.heap.size + 1, 1, none⟩) hw2).trans fq1
  have q2' := (hB3.cell (p := ⟨w.heap.size + 1, 2, none⟩) hw2).trans q2
  have fq2' := (hB3.frozen (p := ⟨w.heap.size + 1, 2, none⟩) hw2).trans fq2
  have q3' := (hB3.cell (p := ⟨w.heap.size + 1, 3, none⟩) hw2).trans q3
  have fq3' := (hB3.frozen (p := ⟨w.heap.size + 1, 3, none⟩) hw2).trans fq3
  have hne : w.heap.size + 1 ≠ w1.heap.size + 1 := by omega
  have hBF := Lib.hid ((HL1.out.trans (HB12.out.mono HL1.out.size)).trans (hB3.mono (Nat.le_trans HL1.out.size HB12.out.size)))
  clear hB3 m0 m1 o0 o1 o2 o3 q0 q1 q2 q3 fo0 fo1 fo2 fo3 fq0 fq1 fq2 fq3 cko r0 r1 r2
  go_wp2
  refine bodyPost_ret ?_ rfl ⟨rfl, (((((hBF.out.setCell (by first | (simp; done) | (simp; omega)) _)).setCell (by first | (simp; done) | (simp; omega)) _).setCell (by first | (simp; done) | (simp; omega)) _).setCell (by first | (simp; done) | (simp; omega)) _).setCell (by first | (simp; done) | (simp; omega)) _⟩
  simp [results, Tryd.results136, go_sem, q0', q1', q2', q3', hne]

set_option maxHeartbeats 2000000 in
theorem specStepC2 (w : World) (p : Nat) (W H : Int) (A : Option Addr) (n c : Nat) (f : Nat → Int) (x y dx dy : Int) (hb : Box w p W H A n c) (hr : Row .i64 w A n c f) (hn : (n : Int) = inner W H) (hW : sideB W = true) (hH : sideB H = true) (x1 : 0 ≤ x) (x2 : x ≤ 16) (y1 : 0 ≤ y) (y2 : y ≤ 16) (hx : signB dx = true) (hy : signB dy = true)
    (h3 : hasB W H (x + dx) (y + dy) = true) (ha : edgeB W H (x + dx) (y + dy) = false ∧ f (numN W (x + dx) (y + dy)).toNat = 2) :
    Calls Tryd.prog 136 #[.pointer (some ⟨p, 0, none⟩), .agg #[.int .i64 x, .int .i64 y, .int .i64 dx, .int .i64 dy]] w (Gives (.agg #[.int .i64 (x + dx), .int .i64 (y + dy), .int .i64 dx, .int .i64 (-dy)]) w) := by
  obtain ⟨g1, g2, g3, g4, g5⟩ := has_yes h3
  obtain ⟨c1, c2⟩ := side_mk hW
  obtain ⟨c3, c4⟩ := side_mk hH
  obtain ⟨s1, s2⟩ := sign_bd hx
  obtain ⟨s3, s4⟩ := sign_bd hy
  obtain ⟨ha, hk⟩ := ha
  obtain ⟨d1, d2, d3, d4⟩ := edge_no ha
  obtain ⟨i1, i2, i3, i4⟩ := inside hW hH h3 ha
  obtain ⟨l1, l2⟩ := num_lt hW hH h3 ha
  have l3 : numN W (x + dx) (y + dy) < (n : Int) := by rw [hn]; exact l2
  have e0 : (x + dx == 0) = false := beq_eq_false_iff_ne.2 d1
  have e1 : (x + dx == 2 * W) = false := beq_eq_false_iff_ne.2 d3
  have e2 : (y + dy == 0) = false := beq_eq_false_iff_ne.2 d2
  have e3 : (y + dy == 2 * H) = false := beq_eq_false_iff_ne.2 d4
  have HE := Lib.hid ha
  have hnc := hr.1
  have hcm := hr.2.1
  unfold maxLen at hcm
  obtain ⟨b, o, rfl, hbl, hcell⟩ := hr.2.2.2 (by omega)
  have ck0 := hcell (numN W (x + dx) (y + dy)).toNat (by omega)
  rw [hk] at ck0
  have CK := Lib.hid ck0
  clear hcell ck0 hk hn l2
  have HL := Lib.hid (show Below w.heap.size w ((w.alloc (.cells #[.int .i64 x, .int .i64 y, .int .i64 dx, .int .i64 dy] 131)).alloc (.cells #[.int .i64 0, .int .i64 0, .int .i64 0, .int .i64 0] 131)) from ((Below.refl _ _).alloc (Nat.le_refl _) _).alloc (by simp) _)
  have HB := Lib.hid (hb.below HL.out hb.1)
  have HR := Lib.hid hr
  clear ha hb hr
  try clear hn
  go_enter Tryd.func136, Tryd.ntmps136
  go_wp2_with fail
  refine (specNext _ x y dx dy x1 x2 y1 y2 hx hy).mono ?_
  rintro e w1 ⟨rfl, b1⟩
  obtain ⟨hc1, hf1⟩ := bcell b1
  have hz1 : w.heap.size + 1 < w1.heap.size := by have := b1.size; simp at this; omega
  have hz0 : w.heap.size < w1.heap.size := by omega
  have HB1 := Lib.hid (HB.out.below b1 HB.out.1)
  have HL1 := Lib.hid (HL.out.trans (b1.mono (by simp; omega)))
  clear b1
  obtain ⟨hp1, k0, k1, k2⟩ := id HB1.out
  have hpz := Nat.ne_of_lt hp1
  have hpz1 : p ≠ w1.heap.size + 1 := by omega
  go_wp2
  go_quiet (fail)
  go_wp2
  go_quiet (fail)
  go_wp2_with fail
  refine (specEdge_is HE.out (HB1.out.below (B := w1.heap.size) ?_ HB1.out.1) hW hH).mono ?_
  · (repeat' first | exact Below.refl _ _ | (with_reducible refine below_drewN ?_ _) | (with_reducible refine Below.drew ?_) | (with_reducible refine Below.setCell ?_ ?_ _) | (with_reducible refine Below.alloc ?_ ?_ _)) <;> first | (simp; done) | (simp; omega)
  rintro e w2 ⟨rfl, b2⟩
  obtain ⟨hc2, hf2⟩ := bcell b2
  have hz2 : w1.heap.size + 1 < w2.heap.size := by have := b2.size; simp at this; omega
  have hz3 : w1.heap.size < w2.heap.size := by omega
  have HB12 := Lib.hid (Below.trans (show Below w1.heap.size w1 _ from by (repeat' first | exact Below.refl _ _ | (with_reducible refine below_drewN ?_ _) | (with_reducible refine Below.drew ?_) | (with_reducible refine Below.setCell ?_ ?_ _) | (with_reducible refine Below.alloc ?_ ?_ _)) <;> first | (simp; done) | (simp; omega)) (b2.mono (by first | (simp; done) | (simp; omega))))
  clear b2
  have HBX := Lib.hid (HB1.out.below HB12.out HB1.out.1)
  obtain ⟨hp2, r0, r1, r2⟩ := id HBX.out
  have m0 : w2.cell? ⟨w1.heap.size, 0, none⟩ = some (.int .i64 (x + dx)) := by rw [hc2 _ _ (by first | (simp; done) | (simp; omega))]; simp [go_sem, hc1, hz0, hz1]
  have m1 : w2.cell? ⟨w1.heap.size, 1, none⟩ = some (.int .i64 (y + dy)) := by rw [hc2 _ _ (by first | (simp; done) | (simp; omega))]; simp [go_sem, hc1, hz0, hz1]
  have o0 : w2.cell? ⟨w1.heap.size + 1, 0, none⟩ = some (.int .i64 (x + dx)) := by rw [hc2 _ _ (by first | (simp; done) | (simp; omega))]; simp [go_sem, hc1, hz0, hz1]
  have o1 : w2.cell? ⟨w1.heap.size + 1, 1, none⟩ = some (.int .i64 (y + dy)) := by rw [hc2 _ _ (by first | (simp; done) | (simp; omega))]; simp [go_sem, hc1, hz0, hz1]
  have o2 : w2.cell? ⟨w1.heap.size + 1, 2, none⟩ = some (.int .i64 dx) := by rw [hc2 _ _ (by first | (simp; done) | (simp; omega))]; simp [go_sem, hc1, hz0, hz1]
  have o3 : w2.cell? ⟨w1.heap.size + 1, 3, none⟩ = some (.int .i64 dy) := by rw [hc2 _ _ (by first | (simp; done) | (simp; omega))]; simp [go_sem, hc1, hz0, hz1]
  have q0 : w2.cell? ⟨w.heap.size + 1, 0, none⟩ = some (.int .i64 0) := by rw [hc2 _ _ (by first | (simp; done) | (simp; omega))]; simp [go_sem, hc1, hz0, hz1]
  have q1 : w2.cell? ⟨w.heap.size + 1, 1, none⟩ = some (.int .i64 0) := by rw [hc2 _ _ (by first | (simp; done) | (simp; omega))]; simp [go_sem, hc1, hz0, hz1]
  have q2 : w2.cell? ⟨w.heap.size + 1, 2, none⟩ = some (.int .i64 0) := by rw [hc2 _ _ (by first | (simp; done) | (simp; omega))]; simp [go_sem, hc1, hz0, hz1]
  have q3 : w2.cell? ⟨w.heap.size + 1, 3, none⟩ = some (.int .i64 0) := by rw [hc2 _ _ (by first | (simp; done) | (simp; omega))]; simp [go_sem, hc1, hz0, hz1]
  have fo0 : w2.frozen? ⟨w1.heap.size + 1, 0, none⟩ = false := by rw [hf2 _ _ (by first | (simp; done) | (simp; omega))]; simp [go_sem]
  have fo1 : w2.frozen? ⟨w1.heap.size + 1, 1, none⟩ = false := by rw [hf2 _ _ (by first | (simp; done) | (simp; omega))]; simp [go_sem]
  have fo2 : w2.frozen? ⟨w1.heap.size + 1, 2, none⟩ = false := by rw [hf2 _ _ (by first | (simp; done) | (simp; omega))]; simp [go_sem]
  have fo3 : w2.frozen? ⟨w1.heap.size + 1, 3, none⟩ = false := by rw [hf2 _ _ (by first | (simp; done) | (simp; omega))]; simp [go_sem]
  have fq0 : w2.frozen? ⟨w.heap.size + 1, 0, none⟩ = false := by rw [hf2 _ _ (by first | (simp; done) | (simp; omega))]; simp [go_sem, hf1, hz0, hz1]
  have fq1 : w2.frozen? ⟨w.heap.size + 1, 1, none⟩ = false := by rw [hf2 _ _ (by first | (simp; done) | (simp; omega))]; simp [go_sem, hf1, hz0, hz1]
  have fq2 : w2.frozen? ⟨w.heap.size + 1, 2, none⟩ = false := by rw [hf2 _ _ (by first | (simp; done) | (simp; omega))]; simp [go_sem, hf1, hz0, hz1]
  have fq3 : w2.frozen? ⟨w.heap.size + 1, 3, none⟩ = false := by rw [hf2 _ _ (by first | (simp; done) | (simp; omega))]; simp [go_sem, hf1, hz0, hz1]
  have cko : w2.cell? ⟨b, o + (numN W (x + dx) (y + dy)).toNat, none⟩ = some (.int .i64 2) := ((HL1.out.trans (HB12.out.mono HL1.out.size)).cell (p := ⟨b, o + (numN W (x + dx) (y + dy)).toNat, none⟩) hbl).trans CK.out
  have hbl2 : b < w2.heap.size := World.block_lt_of_cell? _ _ cko
  have hw2 : w.heap.size + 1 < w2.heap.size := by omega
  have OL := Lib.hid (Old.mk_ (Below.refl w2.heap.size w2).drew)
  clear hc1 hf1 hc2 hf2 k0 k1 k2
  go_wp2_with fail
  go_region_held3 (fun w' => (∀ b o, b < (w2).heap.size → w'.cell? ⟨b, o, none⟩ = (w2).cell? ⟨b, o, none⟩) ∧ Below (w2).heap.size (w2) w')
    (first | assumption | exact OL.out | exact Old.trans (by assumption) (by assumption))
    (first | (go_at_call 171; refine (specNumber _ p W H (some ⟨b, o, none⟩) n c (x + dx) (y + dy) ?_ hW i1 i2 i3 i4).mono ?_; exact HBX.out.below (And.right (by assumption)) HBX.out.1; rintro e wa ⟨rfl, ba⟩))
  rename_i hS
  have hB3 := hS.2
  clear hS OL
  have HB3 := Lib.hid hB3
  have o0' := (hB3.cell (p := ⟨w1.heap.size + 1, 0, none⟩) hz2).trans o0
  have fo0' := (hB3.frozen (p := ⟨w1.heap.size + 1, 0, none⟩) hz2).trans fo0
  have o1' := (hB3.cell (p := ⟨w1.heap.size + 1, 1, none⟩) hz2).trans o1
  have fo1' := (hB3.frozen (p := ⟨w1.heap.size + 1, 1, none⟩) hz2).trans fo1
  have o2' := (hB3.cell (p := ⟨w1.heap.size + 1, 2, none⟩) hz2).trans o2
  have fo2' := (hB3.frozen (p := ⟨w1.heap.size + 1, 2, none⟩) hz2).trans fo2
  have o3' := (hB3.cell (p := ⟨w1.heap.size + 1, 3, none⟩) hz2).trans o3
  have fo3' := (hB3.frozen (p := ⟨w1.heap.size + 1, 3, none⟩) hz2).trans fo3
  have q0' := (hB3.cell (p := ⟨w.heap.size + 1, 0, none⟩) hw2).trans q0
  have fq0' := (hB3.frozen (p := ⟨w.heap.size + 1, 0, none⟩) hw2).trans fq0
  have q1' := (hB3.cell (p := ⟨w.heap.size + 1, 1, none⟩) hw2).trans q1
  have fq1' := (hB3.frozen (p := ⟨w.heap.size + 1, 1, none⟩) hw2).trans fq1
  have q2' := (hB3.cell (p := ⟨w.heap.size + 1, 2, none⟩) hw2).trans q2
  have fq2' := (hB3.frozen (p := ⟨w.heap.size + 1, 2, none⟩) hw2).trans fq2
  have q3' := (hB3.cell (p := ⟨w.heap.size + 1, 3, none⟩) hw2).trans q3
  have fq3' := (hB3.frozen (p := ⟨w.heap.size + 1, 3, none⟩) hw2).trans fq3
  have hne : w.heap.size + 1 ≠ w1.heap.size + 1 := by omega
  have hBF := Lib.hid ((HL1.out.trans (HB12.out.mono HL1.out.size)).trans (hB3.mono (Nat.le_trans HL1.out.size HB12.out.size)))
  clear hB3 m0 m1 o0 o1 o2 o3 q0 q1 q2 q3 fo0 fo1 fo2 fo3 fq0 fq1 fq2 fq3 cko r0 r1 r2
  go_wp2
  refine bodyPost_ret ?_ rfl ⟨rfl, (((((hBF.out.setCell (by first | (simp; done) | (simp; omega)) _)).setCell (by first | (simp; done) | (simp; omega)) _).setCell (by first | (simp; done) | (simp; omega)) _).setCell (by first | (simp; done) | (simp; omega)) _).setCell (by first | (simp; done) | (simp; omega)) _⟩
  simp [results, Tryd.results136, go_sem, q0', q1', q2', q3', hne]

end Go.Proofs.YtbpdjmjkjiddjaaDoor.Base
