/-
  BackWalker: spec's and the program's.
-/
import Derived.Test.YtfkodbpkfoecoaaDoorBack
namespace Go.Proofs.YtfkodbpkfoecoaaDoor.Base
open Go.RowKit
set_option linter.unusedVariables false

def bkV (W H : Int) (n : Nat) (f : Nat → Int) (x y dx dy v : Int) : Int := if wkB W H n f x y dx dy then v else 0
theorem bkV_no {W H : Int} {n : Nat} {f : Nat → Int} {x y dx dy v : Int} (h : wkB W H n f x y dx dy = false) : bkV W H n f x y dx dy v = 0 := by simp [bkV, h]
theorem bkV_yes {W H : Int} {n : Nat} {f : Nat → Int} {x y dx dy v : Int} (h : wkB W H n f x y dx dy = true) : bkV W H n f x y dx dy v = v := by simp [bkV, h]
/-- the box of the panel below the walker's and the result's -/
theorem panel3 (w : World) (t : TypeId) (W H : Int) (A : Option Addr) (n c : Nat) (o o' : Obj) :
    Box (((w.alloc (.cells #[.int .i64 W, .int .i64 H, .slice A n c] t)).alloc o).alloc o') w.heap.size W H A n c :=
  (Box.new w t W H A n c).below (((Below.refl _ _).alloc (Nat.le_refl _) _).alloc (by simp) _) (by simp)
theorem goW {W H x y dx dy : Int} {n : Nat} {f : Nat → Int} (h : wkB W H n f x y dx dy = true) : sideB W = true ∧ sideB H = true ∧ 0 ≤ x ∧ x ≤ 16 ∧ 0 ≤ y ∧ y ≤ 16 ∧ signB dx = true ∧ signB dy = true := by
  obtain ⟨hv, hg⟩ := wk_valid h
  obtain ⟨hW, hH, -, -⟩ := validB_yes hv
  obtain ⟨g1, g2, g3, g4⟩ := go_yes hg
  obtain ⟨x1, x2, y1, y2⟩ := has_bd hW hH g3
  exact ⟨hW, hH, x1, x2, y1, y2, g1, g2⟩
theorem implW_is {w : World} {W H : Int} {A : Option Addr} {n c : Nat} {f : Nat → Int} {x y dx dy : Int} {v : Bool} (h : wkB W H n f x y dx dy = v) (hr : Row .i64 w A n c f) :
    Calls Tryd.prog 66 #[.agg #[.int .i64 W, .int .i64 H, .slice A n c], .agg #[.int .i64 x, .int .i64 y, .int .i64 dx, .int .i64 dy]] w (Gives (.bool v) w) := by rw [← h]; exact impl_validWalker w W H A n c f x y dx dy hr
theorem specC_is {w : World} {p : Nat} {W H : Int} {A : Option Addr} {n c : Nat} {f : Nat → Int} {x y dx dy v : Int} (h : wkC W H n f x y dx dy = v) (hb : Box w p W H A n c) (hr : Row .i64 w A n c f) :
    Calls Tryd.prog 81 #[.pointer (some ⟨p, 0, none⟩), .agg #[.int .i64 x, .int .i64 y, .int .i64 dx, .int .i64 dy]] w (Gives (.int .i64 v) w) := by rw [← h]; exact spec_wcode w p W H A n c f x y dx dy hb hr

set_option maxHeartbeats 1000000 in
theorem impl_backWalker (w : World) (W H : Int) (A : Option Addr) (n c : Nat) (f : Nat → Int) (x y dx dy : Int) (hr : Row .i64 w A n c f) :
    Calls Tryd.prog 17 #[.agg #[.int .i64 W, .int .i64 H, .slice A n c], .agg #[.int .i64 x, .int .i64 y, .int .i64 dx, .int .i64 dy]] w (Gives (.tuple #[.agg #[.int .i64 (bkV W H n f x y dx dy (x + dx)), .int .i64 (bkV W H n f x y dx dy (y + dy)), .int .i64 (bkV W H n f x y dx dy (-dx)), .int .i64 (bkV W H n f x y dx dy (-dy))], .int .i64 (wkC W H n f x y dx dy)]) w) := by
  have HL := Lib.hid (show Below w.heap.size w (((w.alloc (.cells #[.int .i64 W, .int .i64 H, .slice A n c] 26)).alloc (.cells #[.int .i64 x, .int .i64 y, .int .i64 dx, .int .i64 dy] 30)).alloc (.cells #[.int .i64 0, .int .i64 0, .int .i64 0, .int .i64 0] 30)) from (((Below.refl _ _).alloc (Nat.le_refl _) _).alloc (by simp) _).alloc (by simp; omega) _)
  have HR := Lib.hid hr
  clear hr
  cases hw : wkB W H n f x y dx dy
  · simp only [bkV_no hw, wkC_no hw]
    have HC := Lib.hid hw
    clear hw
    go_enter Tryd.func17, Tryd.ntmps17
    go_wp2_with fail
    refine (implW_is HC.out (HR.out.below HL.out (Nat.le_refl _))).mono ?_
    rintro e w1 ⟨rfl, b1⟩
    obtain ⟨hc1, hf1⟩ := bcell b1
    go_wp2
    refine bodyPost_ret ?_ rfl ⟨rfl, ((((HL.out.trans (b1.mono (by first | (simp; done) | (simp; omega)))).setCell (by first | (simp; done) | (simp; omega)) _).setCell (by first | (simp; done) | (simp; omega)) _).setCell (by first | (simp; done) | (simp; omega)) _).setCell (by first | (simp; done) | (simp; omega)) _⟩
    simp [results, Tryd.results17, go_sem, hc1]
  · obtain ⟨hW, hH, x1, x2, y1, y2, g1, g2⟩ := goW hw
    simp only [bkV_yes hw, wkC_yes hw]
    have HC := Lib.hid hw
    clear hw
    go_enter Tryd.func17, Tryd.ntmps17
    go_wp2_with fail
    refine (implW_is HC.out (HR.out.below HL.out (Nat.le_refl _))).mono ?_
    rintro e w1 ⟨rfl, b1⟩
    obtain ⟨hc1, hf1⟩ := bcell b1
    go_wp2_with fail
    refine (implBack _ x y dx dy x1 x2 y1 y2 g1 g2).mono ?_
    rintro e w2 ⟨rfl, b2⟩
    have b12 := b1.trans (b2.mono b1.size)
    clear hc1 hf1
    obtain ⟨hc1, hf1⟩ := bcell b12
    clear b1 b2
    go_wp2
    refine bodyPost_ret ?_ rfl ⟨rfl, ((((HL.out.trans (b12.mono (by first | (simp; done) | (simp; omega)))).setCell (by first | (simp; done) | (simp; omega)) _).setCell (by first | (simp; done) | (simp; omega)) _).setCell (by first | (simp; done) | (simp; omega)) _).setCell (by first | (simp; done) | (simp; omega)) _⟩
    simp [results, Tryd.results17, go_sem, hc1]
end Go.Proofs.YtfkodbpkfoecoaaDoor.Base
