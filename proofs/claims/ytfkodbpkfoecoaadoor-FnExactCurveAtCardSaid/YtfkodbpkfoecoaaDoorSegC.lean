/-
  SegmentOf: spec's and the program's.
-/
import Derived.Test.YtfkodbpkfoecoaaDoorSegB
namespace Go.Proofs.YtfkodbpkfoecoaaDoor.Base
open Go.RowKit
set_option linter.unusedVariables false

theorem specSeg (w : World) (p : Nat) (W H : Int) (A : Option Addr) (n c : Nat) (x y dx dy : Int) (hb : Box w p W H A n c) (hH : sideB H = true) (x1 : 0 ≤ x) (x2 : x ≤ 16) (y1 : 0 ≤ y) (y2 : y ≤ 16) (x3 : 0 ≤ x + dx) (y3 : 0 ≤ y + dy) (hx : signB dx = true) (hy : signB dy = true) :
    Calls Tryd.prog 82 #[.pointer (some ⟨p, 0, none⟩), .agg #[.int .i64 x, .int .i64 y, .int .i64 dx, .int .i64 dy]] w (Gives (.int .i64 (segOf H x y dx dy)) w) := by
  rcases sign_yes hx with rfl | rfl <;> rcases sign_yes hy with rfl | rfl
  · exact specSegPP w p W H A n c x y hb hH x1 x2 y1 y2 x3 y3
  · exact specSegPM w p W H A n c x y hb hH x1 x2 y1 y2 x3 y3
  · exact specSegMP w p W H A n c x y hb hH x1 x2 y1 y2 x3 y3
  · exact specSegMM w p W H A n c x y hb hH x1 x2 y1 y2 x3 y3
theorem implSeg (w : World) (W H : Int) (x y dx dy : Int) (hH : sideB H = true) (x1 : 0 ≤ x) (x2 : x ≤ 16) (y1 : 0 ≤ y) (y2 : y ≤ 16) (x3 : 0 ≤ x + dx) (y3 : 0 ≤ y + dy) (hx : signB dx = true) (hy : signB dy = true) :
    Calls Tryd.prog 126 #[.agg #[.int .i64 W, .int .i64 H], .agg #[.int .i64 x, .int .i64 y, .int .i64 dx, .int .i64 dy]] w (Gives (.int .i64 (segOf H x y dx dy)) w) := by
  rcases sign_yes hx with rfl | rfl <;> rcases sign_yes hy with rfl | rfl
  · exact implSegPP w W H x y hH x1 x2 y1 y2 x3 y3
  · exact implSegPM w W H x y hH x1 x2 y1 y2 x3 y3
  · exact implSegMP w W H x y hH x1 x2 y1 y2 x3 y3
  · exact implSegMM w W H x y hH x1 x2 y1 y2 x3 y3
theorem goNext {W H x y dx dy : Int} {n : Nat} {f : Nat → Int} (h : wkB W H n f x y dx dy = true) : hasB W H (x + dx) (y + dy) = true ∧ 0 ≤ x + dx ∧ x + dx ≤ 16 ∧ 0 ≤ y + dy ∧ y + dy ≤ 16 := by
  obtain ⟨hv, hg⟩ := wk_valid h
  obtain ⟨hW, hH, -, -⟩ := validB_yes hv
  obtain ⟨g1, g2, g3, g4⟩ := go_yes hg
  obtain ⟨x1, x2, y1, y2⟩ := has_bd hW hH g4
  exact ⟨g4, x1, x2, y1, y2⟩

theorem spec_segmentOf (w : World) (W H : Int) (A : Option Addr) (n c : Nat) (f : Nat → Int) (x y dx dy : Int) (hr : Row .i64 w A n c f) :
    Calls Tryd.prog 29 #[.agg #[.int .i64 W, .int .i64 H, .slice A n c], .agg #[.int .i64 x, .int .i64 y, .int .i64 dx, .int .i64 dy]] w (Gives (.tuple #[.int .i64 (sgN W H n f x y dx dy), .int .i64 (wkC W H n f x y dx dy)]) w) := by
  have HL := Lib.hid (show Below w.heap.size w ((w.alloc (.cells #[.int .i64 W, .int .i64 H, .slice A n c] 26)).alloc (.cells #[.int .i64 x, .int .i64 y, .int .i64 dx, .int .i64 dy] 30)) from ((Below.refl _ _).alloc (Nat.le_refl _) _).alloc (by simp) _)
  have HR := Lib.hid hr
  clear hr
  cases hw : wkB W H n f x y dx dy
  · rw [sgN_no hw, wkC_no hw]
    have HC := Lib.hid (wkC_no hw)
    clear hw
    go_enter Tryd.func29, Tryd.ntmps29
    go_wp2_with fail
    refine (specC_is HC.out (panel_walker w _ _ W H A n c _ _ _ _) (HR.out.below HL.out (Nat.le_refl _))).mono ?_
    rintro e w1 ⟨rfl, b1⟩
    go_wp2
    go_ret2
    exact ⟨rfl, HL.out.trans (b1.mono (by first | (simp; done) | (simp; omega)))⟩
  · obtain ⟨hW, hH, x1, x2, y1, y2, g1, g2⟩ := goW hw
    obtain ⟨-, x3, -, y3, -⟩ := goNext hw
    rw [sgN_yes hw, wkC_yes hw]
    have HC := Lib.hid (wkC_yes hw)
    clear hw
    go_enter Tryd.func29, Tryd.ntmps29
    go_wp2_with fail
    refine (specC_is HC.out (panel_walker w _ _ W H A n c _ _ _ _) (HR.out.below HL.out (Nat.le_refl _))).mono ?_
    rintro e w1 ⟨rfl, b1⟩
    obtain ⟨hc1, hf1⟩ := bcell b1
    have HX := Lib.hid ((panel_walker w 26 30 W H A n c x y dx dy).below b1 (by first | (simp; done) | (simp; omega)))
    have HB1 := Lib.hid (HL.out.trans (b1.mono (by first | (simp; done) | (simp; omega))))
    clear b1
    go_wp2_with fail
    refine (specSeg _ w.heap.size W H A n c x y dx dy HX.out hH x1 x2 y1 y2 x3 y3 g1 g2).mono ?_
    rintro e w2 ⟨rfl, b2⟩
    go_wp2
    go_ret2
    exact ⟨rfl, HB1.out.trans (b2.mono HB1.out.size)⟩

end Go.Proofs.YtfkodbpkfoecoaaDoor.Base
