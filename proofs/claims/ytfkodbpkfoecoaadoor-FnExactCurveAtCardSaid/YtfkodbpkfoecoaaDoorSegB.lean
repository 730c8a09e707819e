/-
  SegmentOf: spec's and the program's.
-/
import Derived.Test.YtfkodbpkfoecoaaDoorBackB
import Derived.RegionTactic
namespace Go.Proofs.YtfkodbpkfoecoaaDoor.Base
open Go.RowKit
set_option linter.unusedVariables false

def lowI (a d : Int) : Int := if d = 1 then a else a + d
def segOf (H x y dx dy : Int) : Int := lowI x dx * 2 * H + lowI y dy
def sgN (W H : Int) (n : Nat) (f : Nat → Int) (x y dx dy : Int) : Int := if wkB W H n f x y dx dy then segOf H x y dx dy else 0
theorem sgN_no {W H : Int} {n : Nat} {f : Nat → Int} {x y dx dy : Int} (h : wkB W H n f x y dx dy = false) : sgN W H n f x y dx dy = 0 := by simp [sgN, h]
theorem sgN_yes {W H : Int} {n : Nat} {f : Nat → Int} {x y dx dy : Int} (h : wkB W H n f x y dx dy = true) : sgN W H n f x y dx dy = segOf H x y dx dy := by simp [sgN, h]

/-- the left point, and the Y at the right -/
theorem specLeft1 (w : World) (x y dy : Int) (x1 : 0 ≤ x) (x2 : x ≤ 16) (y1 : 0 ≤ y) (y2 : y ≤ 16) (hy : signB dy = true) :
    Calls Tryd.prog 146 #[.agg #[.int .i64 x, .int .i64 y, .int .i64 1, .int .i64 dy]] w (Gives (.tuple #[.agg #[.int .i64 x, .int .i64 y], .int .i64 (y + dy)]) w) := by
  go_enter Tryd.func146, Tryd.ntmps146
  go_wp2_with fail
  refine (specNext _ x y 1 dy x1 x2 y1 y2 rfl hy).mono ?_
  rintro e w1 ⟨rfl, b1⟩
  obtain ⟨hc1, hf1⟩ := bcell b1
  have p0 : w1.cell? ⟨w.heap.size, 0, none⟩ = some (.int .i64 x) := by rw [hc1 _ _ (by first | (simp; done) | (simp; omega))]; simp [go_sem]
  have p1 : w1.cell? ⟨w.heap.size, 1, none⟩ = some (.int .i64 y) := by rw [hc1 _ _ (by first | (simp; done) | (simp; omega))]; simp [go_sem]
  have p2 : w1.cell? ⟨w.heap.size, 2, none⟩ = some (.int .i64 1) := by rw [hc1 _ _ (by first | (simp; done) | (simp; omega))]; simp [go_sem]
  have q0 : w1.cell? ⟨w.heap.size + 1, 0, none⟩ = some (.int .i64 0) := by rw [hc1 _ _ (by first | (simp; done) | (simp; omega))]; simp [go_sem]
  have q1 : w1.cell? ⟨w.heap.size + 1, 1, none⟩ = some (.int .i64 0) := by rw [hc1 _ _ (by first | (simp; done) | (simp; omega))]; simp [go_sem]
  have f0 : w1.frozen? ⟨w.heap.size + 1, 0, none⟩ = false := by rw [hf1 _ _ (by first | (simp; done) | (simp; omega))]; simp [go_sem]
  have f1 : w1.frozen? ⟨w.heap.size + 1, 1, none⟩ = false := by rw [hf1 _ _ (by first | (simp; done) | (simp; omega))]; simp [go_sem]
  have hz : w.heap.size + 1 < w1.heap.size := by have := b1.size; simp at this; omega
  have hz0 : w.heap.size < w1.heap.size := by omega
  have HB := Lib.hid (((Below.refl w.heap.size w).alloc (Nat.le_refl _) _ |>.alloc (by simp) _).trans (b1.mono (by first | (simp; done) | (simp; omega))))
  clear b1 hc1 hf1
  go_wp2
  go_region
  all_goals
    go_wp2
    refine bodyPost_ret ?_ rfl ⟨rfl, ?_⟩
    · simp [results, Tryd.results146, go_sem, q0, q1, hz, World.cell?_alloc_lt]
    · exact (((HB.out.setCell (by first | (simp; done) | (simp; omega)) _).setCell (by first | (simp; done) | (simp; omega)) _).alloc (by first | (simp; done) | (simp; omega)) _).drew

/-- the left point, and the Y at the right -/
theorem specLeft2 (w : World) (x y dy : Int) (x1 : 0 ≤ x) (x2 : x ≤ 16) (y1 : 0 ≤ y) (y2 : y ≤ 16) (hy : signB dy = true) :
    Calls Tryd.prog 146 #[.agg #[.int .i64 x, .int .i64 y, .int .i64 (-1), .int .i64 dy]] w (Gives (.tuple #[.agg #[.int .i64 (x + -1), .int .i64 (y + dy)], .int .i64 y]) w) := by
  go_enter Tryd.func146, Tryd.ntmps146
  go_wp2_with fail
  refine (specNext _ x y (-1) dy x1 x2 y1 y2 rfl hy).mono ?_
  rintro e w1 ⟨rfl, b1⟩
  obtain ⟨hc1, hf1⟩ := bcell b1
  have p0 : w1.cell? ⟨w.heap.size, 0, none⟩ = some (.int .i64 x) := by rw [hc1 _ _ (by first | (simp; done) | (simp; omega))]; simp [go_sem]
  have p1 : w1.cell? ⟨w.heap.size, 1, none⟩ = some (.int .i64 y) := by rw [hc1 _ _ (by first | (simp; done) | (simp; omega))]; simp [go_sem]
  have p2 : w1.cell? ⟨w.heap.size, 2, none⟩ = some (.int .i64 (-1)) := by rw [hc1 _ _ (by first | (simp; done) | (simp; omega))]; simp [go_sem]
  have q0 : w1.cell? ⟨w.heap.size + 1, 0, none⟩ = some (.int .i64 0) := by rw [hc1 _ _ (by first | (simp; done) | (simp; omega))]; simp [go_sem]
  have q1 : w1.cell? ⟨w.heap.size + 1, 1, none⟩ = some (.int .i64 0) := by rw [hc1 _ _ (by first | (simp; done) | (simp; omega))]; simp [go_sem]
  have f0 : w1.frozen? ⟨w.heap.size + 1, 0, none⟩ = false := by rw [hf1 _ _ (by first | (simp; done) | (simp; omega))]; simp [go_sem]
  have f1 : w1.frozen? ⟨w.heap.size + 1, 1, none⟩ = false := by rw [hf1 _ _ (by first | (simp; done) | (simp; omega))]; simp [go_sem]
  have hz : w.heap.size + 1 < w1.heap.size := by have := b1.size; simp at this; omega
  have hz0 : w.heap.size < w1.heap.size := by omega
  have HB := Lib.hid (((Below.refl w.heap.size w).alloc (Nat.le_refl _) _ |>.alloc (by simp) _).trans (b1.mono (by first | (simp; done) | (simp; omega))))
  clear b1 hc1 hf1
  go_wp2
  go_region
  all_goals
    go_wp2
    refine bodyPost_ret ?_ rfl ⟨rfl, ?_⟩
    · simp [results, Tryd.results146, go_sem, q0, q1, hz, World.cell?_alloc_lt]
    · exact (((HB.out.setCell (by first | (simp; done) | (simp; omega)) _).setCell (by first | (simp; done) | (simp; omega)) _).alloc (by first | (simp; done) | (simp; omega)) _).drew

theorem seg_mul {a H : Int} (h1 : 0 ≤ a) (h2 : a ≤ 16) (hH : sideB H = true) : 0 ≤ a * 2 * H ∧ a * 2 * H ≤ 256 := by
  obtain ⟨b1, b2⟩ := side_mk hH
  exact ⟨Int.mul_nonneg (by omega) (by omega), Int.mul_le_mul (show a * 2 ≤ 32 by omega) b2 (by omega) (by omega)⟩

theorem specSegPP (w : World) (p : Nat) (W H : Int) (A : Option Addr) (n c : Nat) (x y : Int) (hb : Box w p W H A n c) (hH : sideB H = true) (x1 : 0 ≤ x) (x2 : x ≤ 16) (y1 : 0 ≤ y) (y2 : y ≤ 16) (x3 : 0 ≤ x + 1) (y3 : 0 ≤ y + 1) :
    Calls Tryd.prog 82 #[.pointer (some ⟨p, 0, none⟩), .agg #[.int .i64 x, .int .i64 y, .int .i64 1, .int .i64 1]] w (Gives (.int .i64 (x * 2 * H + y)) w) := by
  obtain ⟨m0, m1⟩ := seg_mul (a := x) (by omega) (by omega) hH
  obtain ⟨c1, c2⟩ := side_mk hH
  have HL := Lib.hid (show Below w.heap.size w (w.alloc (.cells #[.int .i64 x, .int .i64 y, .int .i64 1, .int .i64 1] 30)) from (Below.refl _ _).alloc (Nat.le_refl _) _)
  have HB := Lib.hid (hb.below HL.out hb.1)
  clear hb hH
  go_enter Tryd.func82, Tryd.ntmps82
  go_wp2_with fail
  refine (specLeft1 _ x y 1 x1 x2 y1 y2 rfl).mono ?_
  rintro e w1 ⟨rfl, b1⟩
  obtain ⟨hp1, k0, k1, k2⟩ := HB.out.below b1 HB.out.1
  have HL1 := Lib.hid (HL.out.trans (b1.mono (by simp)))
  have hpz := Nat.ne_of_lt hp1
  clear b1
  go_wp2
  go_quiet (fail)
  go_wp2
  go_ret
  exact ⟨ret_int (by omega), below_drewN (HL1.out.alloc HL1.out.size _) _⟩
theorem specSegPM (w : World) (p : Nat) (W H : Int) (A : Option Addr) (n c : Nat) (x y : Int) (hb : Box w p W H A n c) (hH : sideB H = true) (x1 : 0 ≤ x) (x2 : x ≤ 16) (y1 : 0 ≤ y) (y2 : y ≤ 16) (x3 : 0 ≤ x + 1) (y3 : 0 ≤ y + -1) :
    Calls Tryd.prog 82 #[.pointer (some ⟨p, 0, none⟩), .agg #[.int .i64 x, .int .i64 y, .int .i64 1, .int .i64 (-1)]] w (Gives (.int .i64 (x * 2 * H + (y + -1))) w) := by
  obtain ⟨m0, m1⟩ := seg_mul (a := x) (by omega) (by omega) hH
  obtain ⟨c1, c2⟩ := side_mk hH
  have HL := Lib.hid (show Below w.heap.size w (w.alloc (.cells #[.int .i64 x, .int .i64 y, .int .i64 1, .int .i64 (-1)] 30)) from (Below.refl _ _).alloc (Nat.le_refl _) _)
  have HB := Lib.hid (hb.below HL.out hb.1)
  clear hb hH
  go_enter Tryd.func82, Tryd.ntmps82
  go_wp2_with fail
  refine (specLeft1 _ x y (-1) x1 x2 y1 y2 rfl).mono ?_
  rintro e w1 ⟨rfl, b1⟩
  obtain ⟨hp1, k0, k1, k2⟩ := HB.out.below b1 HB.out.1
  have HL1 := Lib.hid (HL.out.trans (b1.mono (by simp)))
  have hpz := Nat.ne_of_lt hp1
  clear b1
  go_wp2
  go_quiet (fail)
  go_wp2
  go_ret
  exact ⟨ret_int (by omega), below_drewN (HL1.out.alloc HL1.out.size _) _⟩
theorem specSegMP (w : World) (p : Nat) (W H : Int) (A : Option Addr) (n c : Nat) (x y : Int) (hb : Box w p W H A n c) (hH : sideB H = true) (x1 : 0 ≤ x) (x2 : x ≤ 16) (y1 : 0 ≤ y) (y2 : y ≤ 16) (x3 : 0 ≤ x + -1) (y3 : 0 ≤ y + 1) :
    Calls Tryd.prog 82 #[.pointer (some ⟨p, 0, none⟩), .agg #[.int .i64 x, .int .i64 y, .int .i64 (-1), .int .i64 1]] w (Gives (.int .i64 ((x + -1) * 2 * H + y)) w) := by
  obtain ⟨m0, m1⟩ := seg_mul (a := (x + -1)) (by omega) (by omega) hH
  obtain ⟨c1, c2⟩ := side_mk hH
  have HL := Lib.hid (show Below w.heap.size w (w.alloc (.cells #[.int .i64 x, .int .i64 y, .int .i64 (-1), .int .i64 1] 30)) from (Below.refl _ _).alloc (Nat.le_refl _) _)
  have HB := Lib.hid (hb.below HL.out hb.1)
  clear hb hH
  go_enter Tryd.func82, Tryd.ntmps82
  go_wp2_with fail
  refine (specLeft2 _ x y 1 x1 x2 y1 y2 rfl).mono ?_
  rintro e w1 ⟨rfl, b1⟩
  obtain ⟨hp1, k0, k1, k2⟩ := HB.out.below b1 HB.out.1
  have HL1 := Lib.hid (HL.out.trans (b1.mono (by simp)))
  have hpz := Nat.ne_of_lt hp1
  clear b1
  go_wp2
  go_quiet (fail)
  go_wp2
  go_ret
  exact ⟨ret_int (by omega), below_drewN (HL1.out.alloc HL1.out.size _) _⟩
theorem specSegMM (w : World) (p : Nat) (W H : Int) (A : Option Addr) (n c : Nat) (x y : Int) (hb : Box w p W H A n c) (hH : sideB H = true) (x1 : 0 ≤ x) (x2 : x ≤ 16) (y1 : 0 ≤ y) (y2 : y ≤ 16) (x3 : 0 ≤ x + -1) (y3 : 0 ≤ y + -1) :
    Calls Tryd.prog 82 #[.pointer (some ⟨p, 0, none⟩), .agg #[.int .i64 x, .int .i64 y, .int .i64 (-1), .int .i64 (-1)]] w (Gives (.int .i64 ((x + -1) * 2 * H + (y + -1))) w) := by
  obtain ⟨m0, m1⟩ := seg_mul (a := (x + -1)) (by omega) (by omega) hH
  obtain ⟨c1, c2⟩ := side_mk hH
  have HL := Lib.hid (show Below w.heap.size w (w.alloc (.cells #[.int .i64 x, .int .i64 y, .int .i64 (-1), .int .i64 (-1)] 30)) from (Below.refl _ _).alloc (Nat.le_refl _) _)
  have HB := Lib.hid (hb.below HL.out hb.1)
  clear hb hH
  go_enter Tryd.func82, Tryd.ntmps82
  go_wp2_with fail
  refine (specLeft2 _ x y (-1) x1 x2 y1 y2 rfl).mono ?_
  rintro e w1 ⟨rfl, b1⟩
  obtain ⟨hp1, k0, k1, k2⟩ := HB.out.below b1 HB.out.1
  have HL1 := Lib.hid (HL.out.trans (b1.mono (by simp)))
  have hpz := Nat.ne_of_lt hp1
  clear b1
  go_wp2
  go_quiet (fail)
  go_wp2
  go_ret
  exact ⟨ret_int (by omega), below_drewN (HL1.out.alloc HL1.out.size _) _⟩
theorem implSegPP (w : World) (W H : Int) (x y : Int) (hH : sideB H = true) (x1 : 0 ≤ x) (x2 : x ≤ 16) (y1 : 0 ≤ y) (y2 : y ≤ 16) (x3 : 0 ≤ x + 1) (y3 : 0 ≤ y + 1) :
    Calls Tryd.prog 126 #[.agg #[.int .i64 W, .int .i64 H], .agg #[.int .i64 x, .int .i64 y, .int .i64 1, .int .i64 1]] w (Gives (.int .i64 (x * 2 * H + y)) w) := by
  obtain ⟨m0, m1⟩ := seg_mul (a := x) (by omega) (by omega) hH
  obtain ⟨c1, c2⟩ := side_mk hH
  have HL := Lib.hid (show Below w.heap.size w ((w.alloc (.cells #[.int .i64 W, .int .i64 H] 120)).alloc (.cells #[.int .i64 x, .int .i64 y, .int .i64 1, .int .i64 1] 30)) from ((Below.refl _ _).alloc (Nat.le_refl _) _).alloc (by simp) _)
  clear hH
  go_enter Tryd.func126, Tryd.ntmps126
  go_wp2_with fail
  refine (implNext _ x y 1 1 x1 x2 y1 y2 rfl rfl).mono ?_
  rintro e w1 ⟨rfl, b1⟩
  obtain ⟨hc1, hf1⟩ := bcell b1
  have HL1 := Lib.hid (HL.out.trans (b1.mono (by first | (simp; done) | (simp; omega))))
  have hz : w.heap.size + 1 < w1.heap.size := by have := b1.size; simp at this; omega
  have hz0 : w.heap.size < w1.heap.size := by omega
  clear b1
  go_wp2
  go_ret
  exact ⟨ret_int (by omega), HL1.out.alloc HL1.out.size _⟩
theorem implSegPM (w : World) (W H : Int) (x y : Int) (hH : sideB H = true) (x1 : 0 ≤ x) (x2 : x ≤ 16) (y1 : 0 ≤ y) (y2 : y ≤ 16) (x3 : 0 ≤ x + 1) (y3 : 0 ≤ y + (-1)) :
    Calls Tryd.prog 126 #[.agg #[.int .i64 W, .int .i64 H], .agg #[.int .i64 x, .int .i64 y, .int .i64 1, .int .i64 (-1)]] w (Gives (.int .i64 (x * 2 * H + (y + -1))) w) := by
  obtain ⟨m0, m1⟩ := seg_mul (a := x) (by omega) (by omega) hH
  obtain ⟨c1, c2⟩ := side_mk hH
  have HL := Lib.hid (show Below w.heap.size w ((w.alloc (.cells #[.int .i64 W, .int .i64 H] 120)).alloc (.cells #[.int .i64 x, .int .i64 y, .int .i64 1, .int .i64 (-1)] 30)) from ((Below.refl _ _).alloc (Nat.le_refl _) _).alloc (by simp) _)
  clear hH
  go_enter Tryd.func126, Tryd.ntmps126
  go_wp2_with fail
  refine (implNext _ x y 1 (-1) x1 x2 y1 y2 rfl rfl).mono ?_
  rintro e w1 ⟨rfl, b1⟩
  obtain ⟨hc1, hf1⟩ := bcell b1
  have HL1 := Lib.hid (HL.out.trans (b1.mono (by first | (simp; done) | (simp; omega))))
  have hz : w.heap.size + 1 < w1.heap.size := by have := b1.size; simp at this; omega
  have hz0 : w.heap.size < w1.heap.size := by omega
  clear b1
  go_wp2
  go_ret
  exact ⟨ret_int (by omega), HL1.out.alloc HL1.out.size _⟩
theorem implSegMP (w : World) (W H : Int) (x y : Int) (hH : sideB H = true) (x1 : 0 ≤ x) (x2 : x ≤ 16) (y1 : 0 ≤ y) (y2 : y ≤ 16) (x3 : 0 ≤ x + (-1)) (y3 : 0 ≤ y + 1) :
    Calls Tryd.prog 126 #[.agg #[.int .i64 W, .int .i64 H], .agg #[.int .i64 x, .int .i64 y, .int .i64 (-1), .int .i64 1]] w (Gives (.int .i64 ((x + -1) * 2 * H + y)) w) := by
  obtain ⟨m0, m1⟩ := seg_mul (a := (x + -1)) (by omega) (by omega) hH
  obtain ⟨c1, c2⟩ := side_mk hH
  have HL := Lib.hid (show Below w.heap.size w ((w.alloc (.cells #[.int .i64 W, .int .i64 H] 120)).alloc (.cells #[.int .i64 x, .int .i64 y, .int .i64 (-1), .int .i64 1] 30)) from ((Below.refl _ _).alloc (Nat.le_refl _) _).alloc (by simp) _)
  clear hH
  go_enter Tryd.func126, Tryd.ntmps126
  go_wp2_with fail
  refine (implNext _ x y (-1) 1 x1 x2 y1 y2 rfl rfl).mono ?_
  rintro e w1 ⟨rfl, b1⟩
  obtain ⟨hc1, hf1⟩ := bcell b1
  have HL1 := Lib.hid (HL.out.trans (b1.mono (by first | (simp; done) | (simp; omega))))
  have hz : w.heap.size + 1 < w1.heap.size := by have := b1.size; simp at this; omega
  have hz0 : w.heap.size < w1.heap.size := by omega
  clear b1
  go_wp2
  go_ret
  exact ⟨ret_int (by omega), HL1.out.alloc HL1.out.size _⟩
theorem implSegMM (w : World) (W H : Int) (x y : Int) (hH : sideB H = true) (x1 : 0 ≤ x) (x2 : x ≤ 16) (y1 : 0 ≤ y) (y2 : y ≤ 16) (x3 : 0 ≤ x + (-1)) (y3 : 0 ≤ y + (-1)) :
    Calls Tryd.prog 126 #[.agg #[.int .i64 W, .int .i64 H], .agg #[.int .i64 x, .int .i64 y, .int .i64 (-1), .int .i64 (-1)]] w (Gives (.int .i64 ((x + -1) * 2 * H + (y + -1))) w) := by
  obtain ⟨m0, m1⟩ := seg_mul (a := (x + -1)) (by omega) (by omega) hH
  obtain ⟨c1, c2⟩ := side_mk hH
  have HL := Lib.hid (show Below w.heap.size w ((w.alloc (.cells #[.int .i64 W, .int .i64 H] 120)).alloc (.cells #[.int .i64 x, .int .i64 y, .int .i64 (-1), .int .i64 (-1)] 30)) from ((Below.refl _ _).alloc (Nat.le_refl _) _).alloc (by simp) _)
  clear hH
  go_enter Tryd.func126, Tryd.ntmps126
  go_wp2_with fail
  refine (implNext _ x y (-1) (-1) x1 x2 y1 y2 rfl rfl).mono ?_
  rintro e w1 ⟨rfl, b1⟩
  obtain ⟨hc1, hf1⟩ := bcell b1
  have HL1 := Lib.hid (HL.out.trans (b1.mono (by first | (simp; done) | (simp; omega))))
  have hz : w.heap.size + 1 < w1.heap.size := by have := b1.size; simp at this; omega
  have hz0 : w.heap.size < w1.heap.size := by omega
  clear b1
  go_wp2
  go_ret
  exact ⟨ret_int (by omega), HL1.out.alloc HL1.out.size _⟩
end Go.Proofs.YtfkodbpkfoecoaaDoor.Base
