/-
  TurnsOf: spec's and the program's.
-/
import Derived.Test.YtfkodbpkfoecoaaDoorTrn
namespace Go.Proofs.YtfkodbpkfoecoaaDoor.Base
open Go.RowKit
set_option linter.unusedVariables false
set_option linter.unusedSimpArgs false

def tnB (W H : Int) (n : Nat) (f : Nat → Int) (x y dx dy : Int) : Bool := if wkB W H n f x y dx dy then decide (tkOf W H f (x + dx) (y + dy) ≠ 0) else false
theorem tnB_no {W H : Int} {n : Nat} {f : Nat → Int} {x y dx dy : Int} (h : wkB W H n f x y dx dy = false) : tnB W H n f x y dx dy = false := by simp [tnB, h]
theorem tnB_0 {W H : Int} {n : Nat} {f : Nat → Int} {x y dx dy : Int} (h : wkB W H n f x y dx dy = true) (h2 : tkOf W H f (x + dx) (y + dy) = 0) : tnB W H n f x y dx dy = false := by simp [tnB, h, h2]
theorem tnB_1 {W H : Int} {n : Nat} {f : Nat → Int} {x y dx dy : Int} (h : wkB W H n f x y dx dy = true) (h2 : tkOf W H f (x + dx) (y + dy) ≠ 0) : tnB W H n f x y dx dy = true := by simp [tnB, h, h2]
theorem tk_kind {W H : Int} {n : Nat} {f : Nat → Int} {x y : Int} (hn : (n : Int) = inner W H) (hK : kindsB n f = true) (hW : sideB W = true) (hH : sideB H = true) (h3 : hasB W H x y = true) : tkOf W H f x y = 0 ∨ tkOf W H f x y = 1 ∨ tkOf W H f x y = 2 := by
  by_cases hA : x = 0 ∨ x = 2 * W
  · exact .inr (.inl (tk_A hA))
  · by_cases hB : y = 0 ∨ y = 2 * H
    · exact .inr (.inr (tk_B hA hB))
    · rw [tk_C hA hB]
      have he := edge_mk hA hB
      obtain ⟨l1, l2⟩ := num_lt hW hH h3 he
      exact kind_of hK (by omega)
theorem goAll {W H x y dx dy : Int} {n : Nat} {f : Nat → Int} (h : wkB W H n f x y dx dy = true) : (n : Int) = inner W H ∧ kindsB n f = true := by
  obtain ⟨hv, -⟩ := wk_valid h
  obtain ⟨-, -, h3, h4⟩ := validB_yes hv
  exact ⟨h3, h4⟩

theorem impl_turnsYes (w : World) (W H : Int) (A : Option Addr) (n c : Nat) (f : Nat → Int) (x y dx dy : Int) (hr : Row .i64 w A n c f) (hw : wkB W H n f x y dx dy = true) (v : Bool) (hv : (tkOf W H f (x + dx) (y + dy) != 0) = v) :
    Calls Tryd.prog 18 #[.agg #[.int .i64 W, .int .i64 H, .slice A n c], .agg #[.int .i64 x, .int .i64 y, .int .i64 dx, .int .i64 dy]] w (Gives (.tuple #[.bool v, .int .i64 0]) w) := by
  have HL := Lib.hid (show Below w.heap.size w ((w.alloc (.cells #[.int .i64 W, .int .i64 H, .slice A n c] 26)).alloc (.cells #[.int .i64 x, .int .i64 y, .int .i64 dx, .int .i64 dy] 30)) from ((Below.refl _ _).alloc (Nat.le_refl _) _).alloc (by simp) _)
  have HR := Lib.hid hr
  have HRW := Lib.hid (hr.below HL.out (Nat.le_refl _))
  have HC := Lib.hid hw
  obtain ⟨hW, hH, x1, x2, y1, y2, q1, q2⟩ := goW hw
  obtain ⟨h4, -⟩ := goNext hw
  obtain ⟨hn, hK⟩ := goAll hw
  have HN := Lib.hid hn
  clear hr hw hn
  go_enter Tryd.func18, Tryd.ntmps18
  go_wp2_with fail
  refine (implW_is HC.out (HR.out.below HL.out (Nat.le_refl _))).mono ?_
  rintro e w1 ⟨rfl, b1⟩
  have OL := Lib.hid ((Old.mk_ b1.drew))
  clear b1
  go_wp2_with fail
  go_region_held3 (fun w' => (∀ b o, b < ((w.alloc (.cells #[.int .i64 W, .int .i64 H, .slice A n c] 26)).alloc (.cells #[.int .i64 x, .int .i64 y, .int .i64 dx, .int .i64 dy] 30)).heap.size → w'.cell? ⟨b, o, none⟩ = ((w.alloc (.cells #[.int .i64 W, .int .i64 H, .slice A n c] 26)).alloc (.cells #[.int .i64 x, .int .i64 y, .int .i64 dx, .int .i64 dy] 30)).cell? ⟨b, o, none⟩) ∧ Below ((w.alloc (.cells #[.int .i64 W, .int .i64 H, .slice A n c] 26)).alloc (.cells #[.int .i64 x, .int .i64 y, .int .i64 dx, .int .i64 dy] 30)).heap.size ((w.alloc (.cells #[.int .i64 W, .int .i64 H, .slice A n c] 26)).alloc (.cells #[.int .i64 x, .int .i64 y, .int .i64 dx, .int .i64 dy] 30)) w')
    (first | assumption | exact OL.out | exact Old.trans (by assumption) (by assumption))
    (first | (go_at_call 70; refine (implNext _ x y dx dy x1 x2 y1 y2 q1 q2).mono ?_; rintro e wa ⟨rfl, ba⟩) | (go_at_call 69; refine (implTurn _ W H A n c f (x + dx) (y + dy) ?_ HN.out hW hH h4).mono ?_; exact HRW.out.old (by assumption); rintro e wb ⟨rfl, bb⟩))
  rename_i hS
  have hB := hS.2
  clear hS
  go_wp2
  go_ret2
  exact ⟨rfl, HL.out.trans (hB.mono (by first | (simp; done) | (simp; omega)))⟩
theorem impl_turnsOf (w : World) (W H : Int) (A : Option Addr) (n c : Nat) (f : Nat → Int) (x y dx dy : Int) (hr : Row .i64 w A n c f) :
    Calls Tryd.prog 18 #[.agg #[.int .i64 W, .int .i64 H, .slice A n c], .agg #[.int .i64 x, .int .i64 y, .int .i64 dx, .int .i64 dy]] w (Gives (.tuple #[.bool (tnB W H n f x y dx dy), .int .i64 (wkC W H n f x y dx dy)]) w) := by
  cases hw : wkB W H n f x y dx dy
  · rw [tnB_no hw, wkC_no hw]
    have HL := Lib.hid (show Below w.heap.size w ((w.alloc (.cells #[.int .i64 W, .int .i64 H, .slice A n c] 26)).alloc (.cells #[.int .i64 x, .int .i64 y, .int .i64 dx, .int .i64 dy] 30)) from ((Below.refl _ _).alloc (Nat.le_refl _) _).alloc (by simp) _)
    have HR := Lib.hid hr
    have HC := Lib.hid hw
    clear hr hw
    go_enter Tryd.func18, Tryd.ntmps18
    go_wp2_with fail
    refine (implW_is HC.out (HR.out.below HL.out (Nat.le_refl _))).mono ?_
    rintro e w1 ⟨rfl, b1⟩
    go_wp2
    go_ret2
    exact ⟨rfl, HL.out.trans (b1.mono (by first | (simp; done) | (simp; omega)))⟩
  · rw [wkC_yes hw]
    by_cases h : tkOf W H f (x + dx) (y + dy) = 0
    · rw [tnB_0 hw h]
      exact impl_turnsYes w W H A n c f x y dx dy hr hw false (by rw [h]; rfl)
    · rw [tnB_1 hw h]
      exact impl_turnsYes w W H A n c f x y dx dy hr hw true (bne_iff_ne.2 h)
end Go.Proofs.YtfkodbpkfoecoaaDoor.Base
