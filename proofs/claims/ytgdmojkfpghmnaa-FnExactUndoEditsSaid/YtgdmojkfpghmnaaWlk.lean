/-
  Walkers: signs, the next point, is there such a walker; spec's and the program's.
-/
import Derived.Test.YtgdmojkfpghmnaaPan
import Derived.Test.YtgdmojkfpghmnaaNum
import Derived.Test.YtgdmojkfpghmnaaShape
import Derived.IntWalk
import Derived.RegionTactic
namespace Go.Proofs.Ytgdmojkfpghmnaa.Base
open Go.RowKit
set_option linter.unusedVariables false

def signB (d : Int) : Bool := decide (d = 1 ∨ d = -1)
def goB (W H x y dx dy : Int) : Bool := signB dx && signB dy && hasB W H x y && hasB W H (x + dx) (y + dy)
def wkB (W H : Int) (n : Nat) (f : Nat → Int) (x y dx dy : Int) : Bool := validB W H n f && goB W H x y dx dy
def wkC (W H : Int) (n : Nat) (f : Nat → Int) (x y dx dy : Int) : Int := if wkB W H n f x y dx dy then 0 else 1
theorem sign_yes {d : Int} (h : signB d = true) : d = 1 ∨ d = -1 := of_decide_eq_true h
theorem sign_no {d : Int} (h : signB d = false) : d ≠ 1 ∧ d ≠ -1 := by have := of_decide_eq_false h; omega
theorem sign_bd {d : Int} (h : signB d = true) : -1 ≤ d ∧ d ≤ 1 := by have := sign_yes h; omega

end Go.Proofs.Ytgdmojkfpghmnaa.Base

namespace Go.Proofs.Ytgdmojkfpghmnaa.Base
open Go.RowKit
set_option linter.unusedVariables false

theorem go_no1 {W H x y dx dy : Int} (h : signB dx = false) : goB W H x y dx dy = false := by simp [goB, h]
theorem go_no2 {W H x y dx dy : Int} (h : signB dy = false) : goB W H x y dx dy = false := by simp [goB, h]
theorem go_no3 {W H x y dx dy : Int} (h : hasB W H x y = false) : goB W H x y dx dy = false := by simp [goB, h]
theorem go_is {W H x y dx dy : Int} (h1 : signB dx = true) (h2 : signB dy = true) (h3 : hasB W H x y = true) : goB W H x y dx dy = hasB W H (x + dx) (y + dy) := by simp [goB, h1, h2, h3]
theorem go_yes {W H x y dx dy : Int} (h : goB W H x y dx dy = true) : signB dx = true ∧ signB dy = true ∧ hasB W H x y = true ∧ hasB W H (x + dx) (y + dy) = true := by
  simp [goB] at h
  exact ⟨h.1.1.1, h.1.1.2, h.1.2, h.2⟩
theorem has_bd {W H x y : Int} (hW : sideB W = true) (hH : sideB H = true) (h : hasB W H x y = true) : 0 ≤ x ∧ x ≤ 16 ∧ 0 ≤ y ∧ y ≤ 16 := by
  obtain ⟨a1, a2⟩ := side_mk hW
  obtain ⟨b1, b2⟩ := side_mk hH
  obtain ⟨x1, x2, y1, y2, _⟩ := has_yes h
  omega

theorem has_bdG {W H x y : Int} (hW : bigB W = true) (hH : bigB H = true) (h : hasB W H x y = true) : 0 ≤ x ∧ x ≤ 2000000 ∧ 0 ≤ y ∧ y ≤ 2000000 := by
  obtain ⟨a1, a2⟩ := big_mk hW
  obtain ⟨b1, b2⟩ := big_mk hH
  obtain ⟨x1, x2, y1, y2, _⟩ := has_yes h
  omega

theorem wk_no {W H : Int} {n : Nat} {f : Nat → Int} {x y dx dy : Int} (h : validB W H n f = false) : wkB W H n f x y dx dy = false := by simp [wkB, h]
theorem wk_is {W H : Int} {n : Nat} {f : Nat → Int} {x y dx dy : Int} (h : validB W H n f = true) : wkB W H n f x y dx dy = goB W H x y dx dy := by simp [wkB, h]

/-- a panel's box and a walker's box, made one after the other -/
theorem panel_walker (w : World) (t u : TypeId) (W H : Int) (A : Option Addr) (n c : Nat) (x y dx dy : Int) :
    Box ((w.alloc (.cells #[.int .i64 W, .int .i64 H, .slice A n c] t)).alloc (.cells #[.int .i64 x, .int .i64 y, .int .i64 dx, .int .i64 dy] u)) w.heap.size W H A n c :=
  (Box.new w t W H A n c).below ((Below.refl _ _).alloc (Nat.le_refl _) _) (by simp)

end Go.Proofs.Ytgdmojkfpghmnaa.Base

namespace Go.Proofs.Ytgdmojkfpghmnaa.Base
open Go.RowKit
set_option linter.unusedVariables false

def segs (W H : Int) : Int := 4 * W * H
def segN (W H : Int) (n : Nat) (f : Nat → Int) : Int := if validB W H n f then segs W H else 0
def okC (W H : Int) (n : Nat) (f : Nat → Int) : Int := if validB W H n f then 0 else 1
theorem segs_bd {W H : Int} (hW : sideB W = true) (hH : sideB H = true) : 0 ≤ 4 * W * H ∧ 4 * W * H ≤ 256 := by
  obtain ⟨a1, a2⟩ := side_mk hW
  obtain ⟨b1, b2⟩ := side_mk hH
  exact ⟨Int.mul_nonneg (by omega) (by omega), Int.mul_le_mul (show 4 * W ≤ 32 by omega) b2 (by omega) (by omega)⟩
theorem segN_yes {W H : Int} {n : Nat} {f : Nat → Int} (h : validB W H n f = true) : segN W H n f = 4 * W * H ∧ okC W H n f = 0 := by simp [segN, okC, segs, h]
theorem segN_no {W H : Int} {n : Nat} {f : Nat → Int} (h : validB W H n f = false) : segN W H n f = 0 ∧ okC W H n f = 1 := by simp [segN, okC, h]

end Go.Proofs.Ytgdmojkfpghmnaa.Base

namespace Go.Proofs.Ytgdmojkfpghmnaa.Base
open Go.RowKit
set_option linter.unusedVariables false

theorem wkC_no {W H : Int} {n : Nat} {f : Nat → Int} {x y dx dy : Int} (h : wkB W H n f x y dx dy = false) : wkC W H n f x y dx dy = 1 := by simp [wkC, h]
theorem wkC_yes {W H : Int} {n : Nat} {f : Nat → Int} {x y dx dy : Int} (h : wkB W H n f x y dx dy = true) : wkC W H n f x y dx dy = 0 := by simp [wkC, h]
theorem wk_valid {W H : Int} {n : Nat} {f : Nat → Int} {x y dx dy : Int} (h : wkB W H n f x y dx dy = true) : validB W H n f = true ∧ goB W H x y dx dy = true := by simpa [wkB] using h

end Go.Proofs.Ytgdmojkfpghmnaa.Base

namespace Go.Proofs.Ytgdmojkfpghmnaa.Base
open Go.RowKit
set_option linter.unusedVariables false

def bkV (W H : Int) (n : Nat) (f : Nat → Int) (x y dx dy v : Int) : Int := if wkB W H n f x y dx dy then v else 0
theorem bkV_no {W H : Int} {n : Nat} {f : Nat → Int} {x y dx dy v : Int} (h : wkB W H n f x y dx dy = false) : bkV W H n f x y dx dy v = 0 := by simp [bkV, h]
theorem bkV_yes {W H : Int} {n : Nat} {f : Nat → Int} {x y dx dy v : Int} (h : wkB W H n f x y dx dy = true) : bkV W H n f x y dx dy v = v := by simp [bkV, h]
/-- the box of the panel below the walker's and the result's -/
theorem panel3 (w : World) (t : TypeId) (W H : Int) (A : Option Addr) (n c : Nat) (o o' : Obj) :
    Box (((w.alloc (.cells #[.int .i64 W, .int .i64 H, .slice A n c] t)).alloc o).alloc o') w.heap.size W H A n c :=
  (Box.new w t W H A n c).below (((Below.refl _ _).alloc (Nat.le_refl _) _).alloc (by simp) _) (by simp)
theorem goW {W H x y dx dy : Int} {n : Nat} {f : Nat → Int} (h : wkB W H n f x y dx dy = true) : sideB W = true ∧ sideB H = true ∧ 0 ≤ x ∧ x ≤ 16 ∧ 0 ≤ y ∧ y ≤ 16 ∧ signB dx = true ∧ signB dy = true := by
  obtain ⟨hv, hg⟩ := wk_valid h
  obtain ⟨hW, hH, -, -⟩ := validB_yes hv
  obtain ⟨g1, g2, g3, g4⟩ := go_yes hg
  obtain ⟨x1, x2, y1, y2⟩ := has_bd hW hH g3
  exact ⟨hW, hH, x1, x2, y1, y2, g1, g2⟩
end Go.Proofs.Ytgdmojkfpghmnaa.Base

namespace Go.Proofs.Ytgdmojkfpghmnaa.Base
open Go.RowKit
set_option linter.unusedVariables false

def lowI (a d : Int) : Int := if d = 1 then a else a + d
def segOf (H x y dx dy : Int) : Int := lowI x dx * 2 * H + lowI y dy
def sgN (W H : Int) (n : Nat) (f : Nat → Int) (x y dx dy : Int) : Int := if wkB W H n f x y dx dy then segOf H x y dx dy else 0
theorem sgN_no {W H : Int} {n : Nat} {f : Nat → Int} {x y dx dy : Int} (h : wkB W H n f x y dx dy = false) : sgN W H n f x y dx dy = 0 := by simp [sgN, h]
theorem sgN_yes {W H : Int} {n : Nat} {f : Nat → Int} {x y dx dy : Int} (h : wkB W H n f x y dx dy = true) : sgN W H n f x y dx dy = segOf H x y dx dy := by simp [sgN, h]

theorem seg_mul {a H : Int} (h1 : 0 ≤ a) (h2 : a ≤ 16) (hH : sideB H = true) : 0 ≤ a * 2 * H ∧ a * 2 * H ≤ 256 := by
  obtain ⟨b1, b2⟩ := side_mk hH
  exact ⟨Int.mul_nonneg (by omega) (by omega), Int.mul_le_mul (show a * 2 ≤ 32 by omega) b2 (by omega) (by omega)⟩

end Go.Proofs.Ytgdmojkfpghmnaa.Base

namespace Go.Proofs.Ytgdmojkfpghmnaa.Base
open Go.RowKit
set_option linter.unusedVariables false

theorem goNext {W H x y dx dy : Int} {n : Nat} {f : Nat → Int} (h : wkB W H n f x y dx dy = true) : hasB W H (x + dx) (y + dy) = true ∧ 0 ≤ x + dx ∧ x + dx ≤ 16 ∧ 0 ≤ y + dy ∧ y + dy ≤ 16 := by
  obtain ⟨hv, hg⟩ := wk_valid h
  obtain ⟨hW, hH, -, -⟩ := validB_yes hv
  obtain ⟨g1, g2, g3, g4⟩ := go_yes hg
  obtain ⟨x1, x2, y1, y2⟩ := has_bd hW hH g4
  exact ⟨g4, x1, x2, y1, y2⟩

end Go.Proofs.Ytgdmojkfpghmnaa.Base

namespace Go.Proofs.Ytgdmojkfpghmnaa.Base
open Go.RowKit
set_option linter.unusedVariables false

def wtX (H s : Int) : Int := s / (2 * H)
def wtY (H s : Int) : Int := if (s / (2 * H) + s % (2 * H)) % 2 = 1 then s % (2 * H) else s % (2 * H) + 1
def wtD (H s : Int) : Int := if (s / (2 * H) + s % (2 * H)) % 2 = 1 then 1 else -1
theorem wt_bd {H s : Int} (hH : sideB H = true) (h0 : 0 ≤ s) (h1 : s ≤ 255) : 0 ≤ s / (2 * H) ∧ s / (2 * H) ≤ 255 ∧ 0 ≤ s % (2 * H) ∧ s % (2 * H) < 2 * H ∧ 1 ≤ H ∧ H ≤ 8 := by
  obtain ⟨b1, b2⟩ := side_mk hH
  exact ⟨Int.ediv_nonneg h0 (by omega), Int.le_trans (Int.ediv_le_self _ h0) h1, Int.emod_nonneg _ (by omega), Int.emod_lt_of_pos _ (by omega), b1, b2⟩

def wtC (W H : Int) (n : Nat) (f : Nat → Int) (s : Int) : Int := if validB W H n f then (if inB s 0 (4 * W * H - 1) then 0 else 2) else 1
def wtV (W H : Int) (n : Nat) (f : Nat → Int) (s v : Int) : Int := if wtC W H n f s = 0 then v else 0
theorem wt_bad {W H : Int} {n : Nat} {f : Nat → Int} {s : Int} (h : validB W H n f = false) : wtC W H n f s = 1 ∧ ∀ v, wtV W H n f s v = 0 := by
  have e : wtC W H n f s = 1 := by simp [wtC, h]
  exact ⟨e, fun v => by unfold wtV; rw [e]; rfl⟩
theorem wt_out {W H : Int} {n : Nat} {f : Nat → Int} {s : Int} (h : validB W H n f = true) (h2 : inB s 0 (4 * W * H - 1) = false) : wtC W H n f s = 2 ∧ ∀ v, wtV W H n f s v = 0 := by
  have e : wtC W H n f s = 2 := by simp [wtC, h, h2]
  exact ⟨e, fun v => by unfold wtV; rw [e]; rfl⟩
theorem wt_in {W H : Int} {n : Nat} {f : Nat → Int} {s : Int} (h : validB W H n f = true) (h2 : inB s 0 (4 * W * H - 1) = true) : wtC W H n f s = 0 ∧ ∀ v, wtV W H n f s v = v := by
  have e : wtC W H n f s = 0 := by simp [wtC, h, h2]
  exact ⟨e, fun v => by unfold wtV; rw [e]; rfl⟩
end Go.Proofs.Ytgdmojkfpghmnaa.Base

namespace Go.Proofs.Ytgdmojkfpghmnaa.Base
open Go.RowKit
set_option linter.unusedVariables false

theorem panel2 (w : World) (t : TypeId) (W H : Int) (A : Option Addr) (n c : Nat) (o : Obj) : Box ((w.alloc (.cells #[.int .i64 W, .int .i64 H, .slice A n c] t)).alloc o) w.heap.size W H A n c :=
  (Box.new w t W H A n c).below ((Below.refl _ _).alloc (Nat.le_refl _) _) (by simp)

end Go.Proofs.Ytgdmojkfpghmnaa.Base
