/-
  Walkers: signs, the next point, is there such a walker; spec's and the program's.
-/
import Derived.Test.YtbpdjmjkjiddjaaDoorPan
import Derived.Test.YtbpdjmjkjiddjaaDoorNum
import Derived.Test.YtbpdjmjkjiddjaaDoorShape
import Derived.IntWalk
import Derived.RegionTactic
namespace Go.Proofs.YtbpdjmjkjiddjaaDoor.Base
open Go.RowKit
set_option linter.unusedVariables false

def signB (d : Int) : Bool := decide (d = 1 ∨ d = -1)
def goB (W H x y dx dy : Int) : Bool := signB dx && signB dy && hasB W H x y && hasB W H (x + dx) (y + dy)
def wkB (W H : Int) (n : Nat) (f : Nat → Int) (x y dx dy : Int) : Bool := validB W H n f && goB W H x y dx dy
def wkC (W H : Int) (n : Nat) (f : Nat → Int) (x y dx dy : Int) : Int := if wkB W H n f x y dx dy then 0 else 1
theorem sign_yes {d : Int} (h : signB d = true) : d = 1 ∨ d = -1 := of_decide_eq_true h
theorem sign_no {d : Int} (h : signB d = false) : d ≠ 1 ∧ d ≠ -1 := by have := of_decide_eq_false h; omega
theorem sign_bd {d : Int} (h : signB d = true) : -1 ≤ d ∧ d ≤ 1 := by have := sign_yes h; omega

theorem implSign (d : Int) (w : World) : Calls Tryd.prog 190 #[.int .i64 d] w fun e w' => e = .returned (.bool (signB d)) ∧ w = w' := by
  by_cases h1 : d = 1
  · subst h1
    go_enter Tryd.func190, Tryd.ntmps190
    go_wp2
    go_ret
    exact ⟨rfl, rfl⟩
  · have e1 : (d == 1) = false := beq_eq_false_iff_ne.2 h1
    by_cases h2 : d = -1
    · subst h2
      go_enter Tryd.func190, Tryd.ntmps190
      go_wp2
      go_ret
      exact ⟨rfl, rfl⟩
    · have e2 : (d == -1) = false := beq_eq_false_iff_ne.2 h2
      have e : signB d = false := by simp [signB, h1, h2]
      rw [e]
      clear e
      go_enter Tryd.func190, Tryd.ntmps190
      go_wp2
      go_ret
      exact ⟨rfl, rfl⟩

theorem specNextG (w : World) (x y dx dy : Int) (x1 : 0 ≤ x) (x2 : x ≤ 2000000) (y1 : 0 ≤ y) (y2 : y ≤ 2000000) (hx : signB dx = true) (hy : signB dy = true) :
    Calls Tryd.prog 132 #[.agg #[.int .i64 x, .int .i64 y, .int .i64 dx, .int .i64 dy]] w (Gives (.agg #[.int .i64 (x + dx), .int .i64 (y + dy)]) w) := by
  obtain ⟨a1, a2⟩ := sign_bd hx
  obtain ⟨b1, b2⟩ := sign_bd hy
  clear hx hy
  go_enter Tryd.func132, Tryd.ntmps132
  go_wp2
  refine bodyPost_ret ?_ rfl ⟨rfl, ?_⟩
  · simp [results, Tryd.results132, go_sem]
  · go_grown
theorem specNext (w : World) (x y dx dy : Int) (x1 : 0 ≤ x) (x2 : x ≤ 16) (y1 : 0 ≤ y) (y2 : y ≤ 16) (hx : signB dx = true) (hy : signB dy = true) :
    Calls Tryd.prog 132 #[.agg #[.int .i64 x, .int .i64 y, .int .i64 dx, .int .i64 dy]] w (Gives (.agg #[.int .i64 (x + dx), .int .i64 (y + dy)]) w) := specNextG w x y dx dy x1 (by omega) y1 (by omega) hx hy

theorem implNextG (w : World) (x y dx dy : Int) (x1 : 0 ≤ x) (x2 : x ≤ 2000000) (y1 : 0 ≤ y) (y2 : y ≤ 2000000) (hx : signB dx = true) (hy : signB dy = true) :
    Calls Tryd.prog 144 #[.agg #[.int .i64 x, .int .i64 y, .int .i64 dx, .int .i64 dy]] w (Gives (.agg #[.int .i64 (x + dx), .int .i64 (y + dy)]) w) := by
  obtain ⟨a1, a2⟩ := sign_bd hx
  obtain ⟨b1, b2⟩ := sign_bd hy
  clear hx hy
  go_enter Tryd.func144, Tryd.ntmps144
  go_wp2
  refine bodyPost_ret ?_ rfl ⟨rfl, ?_⟩
  · simp [results, Tryd.results144, go_sem]
  · go_grown
theorem implNext (w : World) (x y dx dy : Int) (x1 : 0 ≤ x) (x2 : x ≤ 16) (y1 : 0 ≤ y) (y2 : y ≤ 16) (hx : signB dx = true) (hy : signB dy = true) :
    Calls Tryd.prog 144 #[.agg #[.int .i64 x, .int .i64 y, .int .i64 dx, .int .i64 dy]] w (Gives (.agg #[.int .i64 (x + dx), .int .i64 (y + dy)]) w) := implNextG w x y dx dy x1 (by omega) y1 (by omega) hx hy
end Go.Proofs.YtbpdjmjkjiddjaaDoor.Base

namespace Go.Proofs.YtbpdjmjkjiddjaaDoor.Base
open Go.RowKit
set_option linter.unusedVariables false

theorem go_no1 {W H x y dx dy : Int} (h : signB dx = false) : goB W H x y dx dy = false := by simp [goB, h]
theorem go_no2 {W H x y dx dy : Int} (h : signB dy = false) : goB W H x y dx dy = false := by simp [goB, h]
theorem go_no3 {W H x y dx dy : Int} (h : hasB W H x y = false) : goB W H x y dx dy = false := by simp [goB, h]
theorem go_is {W H x y dx dy : Int} (h1 : signB dx = true) (h2 : signB dy = true) (h3 : hasB W H x y = true) : goB W H x y dx dy = hasB W H (x + dx) (y + dy) := by simp [goB, h1, h2, h3]
theorem go_yes {W H x y dx dy : Int} (h : goB W H x y dx dy = true) : signB dx = true ∧ signB dy = true ∧ hasB W H x y = true ∧ hasB W H (x + dx) (y + dy) = true := by
  simp [goB] at h
  exact ⟨h.1.1.1, h.1.1.2, h.1.2, h.2⟩
theorem has_bd {W H x y : Int} (hW : sideB W = true) (hH : sideB H = true) (h : hasB W H x y = true) : 0 ≤ x ∧ x ≤ 16 ∧ 0 ≤ y ∧ y ≤ 16 := by
  obtain ⟨a1, a2⟩ := side_mk hW
  obtain ⟨b1, b2⟩ := side_mk hH
  obtain ⟨x1, x2, y1, y2, _⟩ := has_yes h
  omega

theorem has_bdG {W H x y : Int} (hW : bigB W = true) (hH : bigB H = true) (h : hasB W H x y = true) : 0 ≤ x ∧ x ≤ 2000000 ∧ 0 ≤ y ∧ y ≤ 2000000 := by
  obtain ⟨a1, a2⟩ := big_mk hW
  obtain ⟨b1, b2⟩ := big_mk hH
  obtain ⟨x1, x2, y1, y2, _⟩ := has_yes h
  omega

theorem wk_no {W H : Int} {n : Nat} {f : Nat → Int} {x y dx dy : Int} (h : validB W H n f = false) : wkB W H n f x y dx dy = false := by simp [wkB, h]
theorem wk_is {W H : Int} {n : Nat} {f : Nat → Int} {x y dx dy : Int} (h : validB W H n f = true) : wkB W H n f x y dx dy = goB W H x y dx dy := by simp [wkB, h]

/-- a panel's box and a walker's box, made one after the other -/
theorem panel_walker (w : World) (t u : TypeId) (W H : Int) (A : Option Addr) (n c : Nat) (x y dx dy : Int) :
    Box ((w.alloc (.cells #[.int .i64 W, .int .i64 H, .slice A n c] t)).alloc (.cells #[.int .i64 x, .int .i64 y, .int .i64 dx, .int .i64 dy] u)) w.heap.size W H A n c :=
  (Box.new w t W H A n c).below ((Below.refl _ _).alloc (Nat.le_refl _) _) (by simp)

theorem goB_is {W H x y : Int} {v : Bool} (h : hasB W H x y = v) (hW : sideB W = true) (hH : sideB H = true) (w : World) :
    Calls Tryd.prog 176 #[.agg #[.int .i64 W, .int .i64 H], .agg #[.int .i64 x, .int .i64 y]] w (Gives (.bool v) w) := hasPoint_is h hW hH

set_option maxHeartbeats 2000000 in
theorem hasWalker_any (w : World) (W H x y dx dy : Int) (hW : bigB W = true) (hH : bigB H = true) :
    Calls Tryd.prog 183 #[.agg #[.int .i64 W, .int .i64 H], .agg #[.int .i64 x, .int .i64 y, .int .i64 dx, .int .i64 dy]] w (Gives (.bool (goB W H x y dx dy)) w) := by
  have hbel : Below w.heap.size w ((w.alloc (.cells #[.int .i64 W, .int .i64 H] 99)).alloc (.cells #[.int .i64 x, .int .i64 y, .int .i64 dx, .int .i64 dy] 131)) := by go_grown
  have HL := Lib.hid hbel
  clear hbel
  cases h1 : signB dx
  · rw [go_no1 h1]
    go_enter Tryd.func183, Tryd.ntmps183
    go_wp2_with (go_at_call 190; refine (implSign _ _).mono ?_; rintro e w' ⟨rfl, rfl⟩)
    go_ret
    exact ⟨rfl, HL.out⟩
  · cases h2 : signB dy
    · rw [go_no2 h2]
      go_enter Tryd.func183, Tryd.ntmps183
      go_wp2_with (go_at_call 190; refine (implSign _ _).mono ?_; rintro e w' ⟨rfl, rfl⟩)
      go_ret
      exact ⟨rfl, HL.out⟩
    · cases h3 : hasB W H x y
      · rw [go_no3 h3]
        go_enter Tryd.func183, Tryd.ntmps183
        go_wp2_with (go_at_call 190; refine (implSign _ _).mono ?_; rintro e w' ⟨rfl, rfl⟩)
        first | (go_region_with (go_at_call 176; refine (hasPointG_is h3 hW hH).mono ?_; rintro e wb ⟨rfl, bb⟩)) | fail
        all_goals
          go_wp2
          go_ret
          exact ⟨rfl, HL.out.trans (((Below.refl _ _).drew.trans bb).mono (by simp; omega))⟩
      · obtain ⟨x1, x2, y1, y2⟩ := has_bdG hW hH h3
        rw [go_is h1 h2 h3]
        cases h4 : hasB W H (x + dx) (y + dy)
        all_goals
          go_enter Tryd.func183, Tryd.ntmps183
          go_wp2_with (go_at_call 190; refine (implSign _ _).mono ?_; rintro e w' ⟨rfl, rfl⟩)
          have OL := Lib.hid ((Old.mk_ (Below.refl _ ((w.alloc (.cells #[.int .i64 W, .int .i64 H] 99)).alloc (.cells #[.int .i64 x, .int .i64 y, .int .i64 dx, .int .i64 dy] 131))).drew))
          first | (go_region_held3 (fun w' => (∀ b o, b < ((w.alloc (.cells #[.int .i64 W, .int .i64 H] 99)).alloc (.cells #[.int .i64 x, .int .i64 y, .int .i64 dx, .int .i64 dy] 131)).heap.size → w'.cell? ⟨b, o, none⟩ = ((w.alloc (.cells #[.int .i64 W, .int .i64 H] 99)).alloc (.cells #[.int .i64 x, .int .i64 y, .int .i64 dx, .int .i64 dy] 131)).cell? ⟨b, o, none⟩) ∧ Below ((w.alloc (.cells #[.int .i64 W, .int .i64 H] 99)).alloc (.cells #[.int .i64 x, .int .i64 y, .int .i64 dx, .int .i64 dy] 131)).heap.size ((w.alloc (.cells #[.int .i64 W, .int .i64 H] 99)).alloc (.cells #[.int .i64 x, .int .i64 y, .int .i64 dx, .int .i64 dy] 131)) w')
            (first | assumption | exact OL.out | exact Old.trans (by assumption) (by assumption))
            (first | (go_at_call 176; (with_reducible refine (hasPointG_is h3 hW hH).mono ?_); rintro e wb ⟨rfl, bb⟩) | (go_at_call 144; refine (implNextG _ x y dx dy x1 x2 y1 y2 h1 h2).mono ?_; rintro e wa ⟨rfl, ba⟩) | (go_at_call 176; (with_reducible refine (hasPointG_is h4 hW hH).mono ?_); rintro e wb ⟨rfl, bb⟩))) | fail
          all_goals
            rename_i hS
            have hB := hS.2
            clear hS
            go_wp2
            go_ret
            exact ⟨rfl, HL.out.trans (hB.mono (by simp; omega))⟩
theorem hasWalker_is {w : World} {W H x y dx dy : Int} {v : Bool} (h : goB W H x y dx dy = v) (hW : bigB W = true) (hH : bigB H = true) :
    Calls Tryd.prog 183 #[.agg #[.int .i64 W, .int .i64 H], .agg #[.int .i64 x, .int .i64 y, .int .i64 dx, .int .i64 dy]] w (Gives (.bool v) w) := by rw [← h]; exact hasWalker_any w W H x y dx dy hW hH

end Go.Proofs.YtbpdjmjkjiddjaaDoor.Base

namespace Go.Proofs.YtbpdjmjkjiddjaaDoor.Base
open Go.RowKit
set_option linter.unusedVariables false

def segs (W H : Int) : Int := 4 * W * H
def segN (W H : Int) (n : Nat) (f : Nat → Int) : Int := if validB W H n f then segs W H else 0
def okC (W H : Int) (n : Nat) (f : Nat → Int) : Int := if validB W H n f then 0 else 1
theorem segs_bd {W H : Int} (hW : sideB W = true) (hH : sideB H = true) : 0 ≤ 4 * W * H ∧ 4 * W * H ≤ 256 := by
  obtain ⟨a1, a2⟩ := side_mk hW
  obtain ⟨b1, b2⟩ := side_mk hH
  exact ⟨Int.mul_nonneg (by omega) (by omega), Int.mul_le_mul (show 4 * W ≤ 32 by omega) b2 (by omega) (by omega)⟩
theorem segN_yes {W H : Int} {n : Nat} {f : Nat → Int} (h : validB W H n f = true) : segN W H n f = 4 * W * H ∧ okC W H n f = 0 := by simp [segN, okC, segs, h]
theorem segN_no {W H : Int} {n : Nat} {f : Nat → Int} (h : validB W H n f = false) : segN W H n f = 0 ∧ okC W H n f = 1 := by simp [segN, okC, h]

theorem implSegs (w : World) (W H : Int) (hW : sideB W = true) (hH : sideB H = true) :
    Calls Tryd.prog 137 #[.agg #[.int .i64 W, .int .i64 H]] w (Gives (.int .i64 (4 * W * H)) w) := by
  obtain ⟨m0, m1⟩ := segs_bd hW hH
  obtain ⟨a1, a2⟩ := side_mk hW
  obtain ⟨b1, b2⟩ := side_mk hH
  clear hW hH
  go_enter Tryd.func137, Tryd.ntmps137
  go_wp2
  go_ret
  exact ⟨rfl, by go_grown⟩

end Go.Proofs.YtbpdjmjkjiddjaaDoor.Base

namespace Go.Proofs.YtbpdjmjkjiddjaaDoor.Base
open Go.RowKit
set_option linter.unusedVariables false

theorem wkC_no {W H : Int} {n : Nat} {f : Nat → Int} {x y dx dy : Int} (h : wkB W H n f x y dx dy = false) : wkC W H n f x y dx dy = 1 := by simp [wkC, h]
theorem wkC_yes {W H : Int} {n : Nat} {f : Nat → Int} {x y dx dy : Int} (h : wkB W H n f x y dx dy = true) : wkC W H n f x y dx dy = 0 := by simp [wkC, h]
theorem wk_valid {W H : Int} {n : Nat} {f : Nat → Int} {x y dx dy : Int} (h : wkB W H n f x y dx dy = true) : validB W H n f = true ∧ goB W H x y dx dy = true := by simpa [wkB] using h

end Go.Proofs.YtbpdjmjkjiddjaaDoor.Base

namespace Go.Proofs.YtbpdjmjkjiddjaaDoor.Base
open Go.RowKit
set_option linter.unusedVariables false

def bkV (W H : Int) (n : Nat) (f : Nat → Int) (x y dx dy v : Int) : Int := if wkB W H n f x y dx dy then v else 0
theorem bkV_no {W H : Int} {n : Nat} {f : Nat → Int} {x y dx dy v : Int} (h : wkB W H n f x y dx dy = false) : bkV W H n f x y dx dy v = 0 := by simp [bkV, h]
theorem bkV_yes {W H : Int} {n : Nat} {f : Nat → Int} {x y dx dy v : Int} (h : wkB W H n f x y dx dy = true) : bkV W H n f x y dx dy v = v := by simp [bkV, h]
/-- the box of the panel below the walker's and the result's -/
theorem panel3 (w : World) (t : TypeId) (W H : Int) (A : Option Addr) (n c : Nat) (o o' : Obj) :
    Box (((w.alloc (.cells #[.int .i64 W, .int .i64 H, .slice A n c] t)).alloc o).alloc o') w.heap.size W H A n c :=
  (Box.new w t W H A n c).below (((Below.refl _ _).alloc (Nat.le_refl _) _).alloc (by simp) _) (by simp)
theorem goW {W H x y dx dy : Int} {n : Nat} {f : Nat → Int} (h : wkB W H n f x y dx dy = true) : sideB W = true ∧ sideB H = true ∧ 0 ≤ x ∧ x ≤ 16 ∧ 0 ≤ y ∧ y ≤ 16 ∧ signB dx = true ∧ signB dy = true := by
  obtain ⟨hv, hg⟩ := wk_valid h
  obtain ⟨hW, hH, -, -⟩ := validB_yes hv
  obtain ⟨g1, g2, g3, g4⟩ := go_yes hg
  obtain ⟨x1, x2, y1, y2⟩ := has_bd hW hH g3
  exact ⟨hW, hH, x1, x2, y1, y2, g1, g2⟩
end Go.Proofs.YtbpdjmjkjiddjaaDoor.Base

namespace Go.Proofs.YtbpdjmjkjiddjaaDoor.Base
open Go.RowKit
set_option linter.unusedVariables false

def lowI (a d : Int) : Int := if d = 1 then a else a + d
def segOf (H x y dx dy : Int) : Int := lowI x dx * 2 * H + lowI y dy
def sgN (W H : Int) (n : Nat) (f : Nat → Int) (x y dx dy : Int) : Int := if wkB W H n f x y dx dy then segOf H x y dx dy else 0
theorem sgN_no {W H : Int} {n : Nat} {f : Nat → Int} {x y dx dy : Int} (h : wkB W H n f x y dx dy = false) : sgN W H n f x y dx dy = 0 := by simp [sgN, h]
theorem sgN_yes {W H : Int} {n : Nat} {f : Nat → Int} {x y dx dy : Int} (h : wkB W H n f x y dx dy = true) : sgN W H n f x y dx dy = segOf H x y dx dy := by simp [sgN, h]

/-- the left point, and the Y at the right -/
theorem specLeft1 (w : World) (x y dy : Int) (x1 : 0 ≤ x) (x2 : x ≤ 16) (y1 : 0 ≤ y) (y2 : y ≤ 16) (hy : signB dy = true) :
    Calls Tryd.prog 175 #[.agg #[.int .i64 x, .int .i64 y, .int .i64 1, .int .i64 dy]] w (Gives (.tuple #[.agg #[.int .i64 x, .int .i64 y], .int .i64 (y + dy)]) w) := by
  go_enter Tryd.func175, Tryd.ntmps175
  go_wp2_with fail
  refine (specNext _ x y 1 dy x1 x2 y1 y2 rfl hy).mono ?_
  rintro e w1 ⟨rfl, b1⟩
  obtain ⟨hc1, hf1⟩ := bcell b1
  have p0 : w1.cell? ⟨w.heap.size, 0, none⟩ = some (.int .i64 x) := by rw [hc1 _ _ (by first | (simp; done) | (simp; omega))]; simp [go_sem]
  have p1 : w1.cell? ⟨w.heap.size, 1, none⟩ = some (.int .i64 y) := by rw [hc1 _ _ (by first | (simp; done) | (simp; omega))]; simp [go_sem]
  have p2 : w1.cell? ⟨w.heap.size, 2, none⟩ = some (.int .i64 1) := by rw [hc1 _ _ (by first | (simp; done) | (simp; omega))]; simp [go_sem]
  have q0 : w1.cell? ⟨w.heap.size + 1, 0, none⟩ = some (.int .i64 0) := by rw [hc1 _ _ (by first | (simp; done) | (simp; omega))]; simp [go_sem]
  have q1 : w1.cell? ⟨w.heap.size + 1, 1, none⟩ = some (.int .i64 0) := by rw [hc1 _ _ (by first | (simp; done) | (simp; omega))]; simp [go_sem]
  have f0 : w1.frozen? ⟨w.heap.size + 1, 0, none⟩ = false := by rw [hf1 _ _ (by first | (simp; done) | (simp; omega))]; simp [go_sem]
  have f1 : w1.frozen? ⟨w.heap.size + 1, 1, none⟩ = false := by rw [hf1 _ _ (by first | (simp; done) | (simp; omega))]; simp [go_sem]
  have hz : w.heap.size + 1 < w1.heap.size := by have := b1.size; simp at this; omega
  have hz0 : w.heap.size < w1.heap.size := by omega
  have HB := Lib.hid (((Below.refl w.heap.size w).alloc (Nat.le_refl _) _ |>.alloc (by simp) _).trans (b1.mono (by first | (simp; done) | (simp; omega))))
  clear b1 hc1 hf1
  go_wp2
  go_region
  all_goals
    go_wp2
    refine bodyPost_ret ?_ rfl ⟨rfl, ?_⟩
    · simp [results, Tryd.results175, go_sem, q0, q1, hz, World.cell?_alloc_lt]
    · exact (((HB.out.setCell (by first | (simp; done) | (simp; omega)) _).setCell (by first | (simp; done) | (simp; omega)) _).alloc (by first | (simp; done) | (simp; omega)) _).drew

/-- the left point, and the Y at the right -/
theorem specLeft2 (w : World) (x y dy : Int) (x1 : 0 ≤ x) (x2 : x ≤ 16) (y1 : 0 ≤ y) (y2 : y ≤ 16) (hy : signB dy = true) :
    Calls Tryd.prog 175 #[.agg #[.int .i64 x, .int .i64 y, .int .i64 (-1), .int .i64 dy]] w (Gives (.tuple #[.agg #[.int .i64 (x + -1), .int .i64 (y + dy)], .int .i64 y]) w) := by
  go_enter Tryd.func175, Tryd.ntmps175
  go_wp2_with fail
  refine (specNext _ x y (-1) dy x1 x2 y1 y2 rfl hy).mono ?_
  rintro e w1 ⟨rfl, b1⟩
  obtain ⟨hc1, hf1⟩ := bcell b1
  have p0 : w1.cell? ⟨w.heap.size, 0, none⟩ = some (.int .i64 x) := by rw [hc1 _ _ (by first | (simp; done) | (simp; omega))]; simp [go_sem]
  have p1 : w1.cell? ⟨w.heap.size, 1, none⟩ = some (.int .i64 y) := by rw [hc1 _ _ (by first | (simp; done) | (simp; omega))]; simp [go_sem]
  have p2 : w1.cell? ⟨w.heap.size, 2, none⟩ = some (.int .i64 (-1)) := by rw [hc1 _ _ (by first | (simp; done) | (simp; omega))]; simp [go_sem]
  have q0 : w1.cell? ⟨w.heap.size + 1, 0, none⟩ = some (.int .i64 0) := by rw [hc1 _ _ (by first | (simp; done) | (simp; omega))]; simp [go_sem]
  have q1 : w1.cell? ⟨w.heap.size + 1, 1, none⟩ = some (.int .i64 0) := by rw [hc1 _ _ (by first | (simp; done) | (simp; omega))]; simp [go_sem]
  have f0 : w1.frozen? ⟨w.heap.size + 1, 0, none⟩ = false := by rw [hf1 _ _ (by first | (simp; done) | (simp; omega))]; simp [go_sem]
  have f1 : w1.frozen? ⟨w.heap.size + 1, 1, none⟩ = false := by rw [hf1 _ _ (by first | (simp; done) | (simp; omega))]; simp [go_sem]
  have hz : w.heap.size + 1 < w1.heap.size := by have := b1.size; simp at this; omega
  have hz0 : w.heap.size < w1.heap.size := by omega
  have HB := Lib.hid (((Below.refl w.heap.size w).alloc (Nat.le_refl _) _ |>.alloc (by simp) _).trans (b1.mono (by first | (simp; done) | (simp; omega))))
  clear b1 hc1 hf1
  go_wp2
  go_region
  all_goals
    go_wp2
    refine bodyPost_ret ?_ rfl ⟨rfl, ?_⟩
    · simp [results, Tryd.results175, go_sem, q0, q1, hz, World.cell?_alloc_lt]
    · exact (((HB.out.setCell (by first | (simp; done) | (simp; omega)) _).setCell (by first | (simp; done) | (simp; omega)) _).alloc (by first | (simp; done) | (simp; omega)) _).drew

theorem seg_mul {a H : Int} (h1 : 0 ≤ a) (h2 : a ≤ 16) (hH : sideB H = true) : 0 ≤ a * 2 * H ∧ a * 2 * H ≤ 256 := by
  obtain ⟨b1, b2⟩ := side_mk hH
  exact ⟨Int.mul_nonneg (by omega) (by omega), Int.mul_le_mul (show a * 2 ≤ 32 by omega) b2 (by omega) (by omega)⟩

theorem specSegPP (w : World) (p : Nat) (W H : Int) (A : Option Addr) (n c : Nat) (x y : Int) (hb : Box w p W H A n c) (hH : sideB H = true) (x1 : 0 ≤ x) (x2 : x ≤ 16) (y1 : 0 ≤ y) (y2 : y ≤ 16) (x3 : 0 ≤ x + 1) (y3 : 0 ≤ y + 1) :
    Calls Tryd.prog 149 #[.pointer (some ⟨p, 0, none⟩), .agg #[.int .i64 x, .int .i64 y, .int .i64 1, .int .i64 1]] w (Gives (.int .i64 (x * 2 * H + y)) w) := by
  obtain ⟨m0, m1⟩ := seg_mul (a := x) (by omega) (by omega) hH
  obtain ⟨c1, c2⟩ := side_mk hH
  have HL := Lib.hid (show Below w.heap.size w (w.alloc (.cells #[.int .i64 x, .int .i64 y, .int .i64 1, .int .i64 1] 131)) from (Below.refl _ _).alloc (Nat.le_refl _) _)
  have HB := Lib.hid (hb.below HL.out hb.1)
  clear hb hH
  go_enter Tryd.func149, Tryd.ntmps149
  go_wp2_with fail
  refine (specLeft1 _ x y 1 x1 x2 y1 y2 rfl).mono ?_
  rintro e w1 ⟨rfl, b1⟩
  obtain ⟨hp1, k0, k1, k2⟩ := HB.out.below b1 HB.out.1
  have HL1 := Lib.hid (HL.out.trans (b1.mono (by simp)))
  have hpz := Nat.ne_of_lt hp1
  clear b1
  go_wp2
  go_quiet (fail)
  go_wp2
  go_ret
  exact ⟨ret_int (by omega), below_drewN (HL1.out.alloc HL1.out.size _) _⟩
theorem specSegPM (w : World) (p : Nat) (W H : Int) (A : Option Addr) (n c : Nat) (x y : Int) (hb : Box w p W H A n c) (hH : sideB H = true) (x1 : 0 ≤ x) (x2 : x ≤ 16) (y1 : 0 ≤ y) (y2 : y ≤ 16) (x3 : 0 ≤ x + 1) (y3 : 0 ≤ y + -1) :
    Calls Tryd.prog 149 #[.pointer (some ⟨p, 0, none⟩), .agg #[.int .i64 x, .int .i64 y, .int .i64 1, .int .i64 (-1)]] w (Gives (.int .i64 (x * 2 * H + (y + -1))) w) := by
  obtain ⟨m0, m1⟩ := seg_mul (a := x) (by omega) (by omega) hH
  obtain ⟨c1, c2⟩ := side_mk hH
  have HL := Lib.hid (show Below w.heap.size w (w.alloc (.cells #[.int .i64 x, .int .i64 y, .int .i64 1, .int .i64 (-1)] 131)) from (Below.refl _ _).alloc (Nat.le_refl _) _)
  have HB := Lib.hid (hb.below HL.out hb.1)
  clear hb hH
  go_enter Tryd.func149, Tryd.ntmps149
  go_wp2_with fail
  refine (specLeft1 _ x y (-1) x1 x2 y1 y2 rfl).mono ?_
  rintro e w1 ⟨rfl, b1⟩
  obtain ⟨hp1, k0, k1, k2⟩ := HB.out.below b1 HB.out.1
  have HL1 := Lib.hid (HL.out.trans (b1.mono (by simp)))
  have hpz := Nat.ne_of_lt hp1
  clear b1
  go_wp2
  go_quiet (fail)
  go_wp2
  go_ret
  exact ⟨ret_int (by omega), below_drewN (HL1.out.alloc HL1.out.size _) _⟩
theorem specSegMP (w : World) (p : Nat) (W H : Int) (A : Option Addr) (n c : Nat) (x y : Int) (hb : Box w p W H A n c) (hH : sideB H = true) (x1 : 0 ≤ x) (x2 : x ≤ 16) (y1 : 0 ≤ y) (y2 : y ≤ 16) (x3 : 0 ≤ x + -1) (y3 : 0 ≤ y + 1) :
    Calls Tryd.prog 149 #[.pointer (some ⟨p, 0, none⟩), .agg #[.int .i64 x, .int .i64 y, .int .i64 (-1), .int .i64 1]] w (Gives (.int .i64 ((x + -1) * 2 * H + y)) w) := by
  obtain ⟨m0, m1⟩ := seg_mul (a := (x + -1)) (by omega) (by omega) hH
  obtain ⟨c1, c2⟩ := side_mk hH
  have HL := Lib.hid (show Below w.heap.size w (w.alloc (.cells #[.int .i64 x, .int .i64 y, .int .i64 (-1), .int .i64 1] 131)) from (Below.refl _ _).alloc (Nat.le_refl _) _)
  have HB := Lib.hid (hb.below HL.out hb.1)
  clear hb hH
  go_enter Tryd.func149, Tryd.ntmps149
  go_wp2_with fail
  refine (specLeft2 _ x y 1 x1 x2 y1 y2 rfl).mono ?_
  rintro e w1 ⟨rfl, b1⟩
  obtain ⟨hp1, k0, k1, k2⟩ := HB.out.below b1 HB.out.1
  have HL1 := Lib.hid (HL.out.trans (b1.mono (by simp)))
  have hpz := Nat.ne_of_lt hp1
  clear b1
  go_wp2
  go_quiet (fail)
  go_wp2
  go_ret
  exact ⟨ret_int (by omega), below_drewN (HL1.out.alloc HL1.out.size _) _⟩
theorem specSegMM (w : World) (p : Nat) (W H : Int) (A : Option Addr) (n c : Nat) (x y : Int) (hb : Box w p W H A n c) (hH : sideB H = true) (x1 : 0 ≤ x) (x2 : x ≤ 16) (y1 : 0 ≤ y) (y2 : y ≤ 16) (x3 : 0 ≤ x + -1) (y3 : 0 ≤ y + -1) :
    Calls Tryd.prog 149 #[.pointer (some ⟨p, 0, none⟩), .agg #[.int .i64 x, .int .i64 y, .int .i64 (-1), .int .i64 (-1)]] w (Gives (.int .i64 ((x + -1) * 2 * H + (y + -1))) w) := by
  obtain ⟨m0, m1⟩ := seg_mul (a := (x + -1)) (by omega) (by omega) hH
  obtain ⟨c1, c2⟩ := side_mk hH
  have HL := Lib.hid (show Below w.heap.size w (w.alloc (.cells #[.int .i64 x, .int .i64 y, .int .i64 (-1), .int .i64 (-1)] 131)) from (Below.refl _ _).alloc (Nat.le_refl _) _)
  have HB := Lib.hid (hb.below HL.out hb.1)
  clear hb hH
  go_enter Tryd.func149, Tryd.ntmps149
  go_wp2_with fail
  refine (specLeft2 _ x y (-1) x1 x2 y1 y2 rfl).mono ?_
  rintro e w1 ⟨rfl, b1⟩
  obtain ⟨hp1, k0, k1, k2⟩ := HB.out.below b1 HB.out.1
  have HL1 := Lib.hid (HL.out.trans (b1.mono (by simp)))
  have hpz := Nat.ne_of_lt hp1
  clear b1
  go_wp2
  go_quiet (fail)
  go_wp2
  go_ret
  exact ⟨ret_int (by omega), below_drewN (HL1.out.alloc HL1.out.size _) _⟩
theorem implSegPP (w : World) (W H : Int) (x y : Int) (hH : sideB H = true) (x1 : 0 ≤ x) (x2 : x ≤ 16) (y1 : 0 ≤ y) (y2 : y ≤ 16) (x3 : 0 ≤ x + 1) (y3 : 0 ≤ y + 1) :
    Calls Tryd.prog 139 #[.agg #[.int .i64 W, .int .i64 H], .agg #[.int .i64 x, .int .i64 y, .int .i64 1, .int .i64 1]] w (Gives (.int .i64 (x * 2 * H + y)) w) := by
  obtain ⟨m0, m1⟩ := seg_mul (a := x) (by omega) (by omega) hH
  obtain ⟨c1, c2⟩ := side_mk hH
  have HL := Lib.hid (show Below w.heap.size w ((w.alloc (.cells #[.int .i64 W, .int .i64 H] 99)).alloc (.cells #[.int .i64 x, .int .i64 y, .int .i64 1, .int .i64 1] 131)) from ((Below.refl _ _).alloc (Nat.le_refl _) _).alloc (by simp) _)
  clear hH
  go_enter Tryd.func139, Tryd.ntmps139
  go_wp2_with fail
  refine (implNext _ x y 1 1 x1 x2 y1 y2 rfl rfl).mono ?_
  rintro e w1 ⟨rfl, b1⟩
  obtain ⟨hc1, hf1⟩ := bcell b1
  have HL1 := Lib.hid (HL.out.trans (b1.mono (by first | (simp; done) | (simp; omega))))
  have hz : w.heap.size + 1 < w1.heap.size := by have := b1.size; simp at this; omega
  have hz0 : w.heap.size < w1.heap.size := by omega
  clear b1
  go_wp2
  go_ret
  exact ⟨ret_int (by omega), HL1.out.alloc HL1.out.size _⟩
theorem implSegPM (w : World) (W H : Int) (x y : Int) (hH : sideB H = true) (x1 : 0 ≤ x) (x2 : x ≤ 16) (y1 : 0 ≤ y) (y2 : y ≤ 16) (x3 : 0 ≤ x + 1) (y3 : 0 ≤ y + (-1)) :
    Calls Tryd.prog 139 #[.agg #[.int .i64 W, .int .i64 H], .agg #[.int .i64 x, .int .i64 y, .int .i64 1, .int .i64 (-1)]] w (Gives (.int .i64 (x * 2 * H + (y + -1))) w) := by
  obtain ⟨m0, m1⟩ := seg_mul (a := x) (by omega) (by omega) hH
  obtain ⟨c1, c2⟩ := side_mk hH
  have HL := Lib.hid (show Below w.heap.size w ((w.alloc (.cells #[.int .i64 W, .int .i64 H] 99)).alloc (.cells #[.int .i64 x, .int .i64 y, .int .i64 1, .int .i64 (-1)] 131)) from ((Below.refl _ _).alloc (Nat.le_refl _) _).alloc (by simp) _)
  clear hH
  go_enter Tryd.func139, Tryd.ntmps139
  go_wp2_with fail
  refine (implNext _ x y 1 (-1) x1 x2 y1 y2 rfl rfl).mono ?_
  rintro e w1 ⟨rfl, b1⟩
  obtain ⟨hc1, hf1⟩ := bcell b1
  have HL1 := Lib.hid (HL.out.trans (b1.mono (by first | (simp; done) | (simp; omega))))
  have hz : w.heap.size + 1 < w1.heap.size := by have := b1.size; simp at this; omega
  have hz0 : w.heap.size < w1.heap.size := by omega
  clear b1
  go_wp2
  go_ret
  exact ⟨ret_int (by omega), HL1.out.alloc HL1.out.size _⟩
theorem implSegMP (w : World) (W H : Int) (x y : Int) (hH : sideB H = true) (x1 : 0 ≤ x) (x2 : x ≤ 16) (y1 : 0 ≤ y) (y2 : y ≤ 16) (x3 : 0 ≤ x + (-1)) (y3 : 0 ≤ y + 1) :
    Calls Tryd.prog 139 #[.agg #[.int .i64 W, .int .i64 H], .agg #[.int .i64 x, .int .i64 y, .int .i64 (-1), .int .i64 1]] w (Gives (.int .i64 ((x + -1) * 2 * H + y)) w) := by
  obtain ⟨m0, m1⟩ := seg_mul (a := (x + -1)) (by omega) (by omega) hH
  obtain ⟨c1, c2⟩ := side_mk hH
  have HL := Lib.hid (show Below w.heap.size w ((w.alloc (.cells #[.int .i64 W, .int .i64 H] 99)).alloc (.cells #[.int .i64 x, .int .i64 y, .int .i64 (-1), .int .i64 1] 131)) from ((Below.refl _ _).alloc (Nat.le_refl _) _).alloc (by simp) _)
  clear hH
  go_enter Tryd.func139, Tryd.ntmps139
  go_wp2_with fail
  refine (implNext _ x y (-1) 1 x1 x2 y1 y2 rfl rfl).mono ?_
  rintro e w1 ⟨rfl, b1⟩
  obtain ⟨hc1, hf1⟩ := bcell b1
  have HL1 := Lib.hid (HL.out.trans (b1.mono (by first | (simp; done) | (simp; omega))))
  have hz : w.heap.size + 1 < w1.heap.size := by have := b1.size; simp at this; omega
  have hz0 : w.heap.size < w1.heap.size := by omega
  clear b1
  go_wp2
  go_ret
  exact ⟨ret_int (by omega), HL1.out.alloc HL1.out.size _⟩
theorem implSegMM (w : World) (W H : Int) (x y : Int) (hH : sideB H = true) (x1 : 0 ≤ x) (x2 : x ≤ 16) (y1 : 0 ≤ y) (y2 : y ≤ 16) (x3 : 0 ≤ x + (-1)) (y3 : 0 ≤ y + (-1)) :
    Calls Tryd.prog 139 #[.agg #[.int .i64 W, .int .i64 H], .agg #[.int .i64 x, .int .i64 y, .int .i64 (-1), .int .i64 (-1)]] w (Gives (.int .i64 ((x + -1) * 2 * H + (y + -1))) w) := by
  obtain ⟨m0, m1⟩ := seg_mul (a := (x + -1)) (by omega) (by omega) hH
  obtain ⟨c1, c2⟩ := side_mk hH
  have HL := Lib.hid (show Below w.heap.size w ((w.alloc (.cells #[.int .i64 W, .int .i64 H] 99)).alloc (.cells #[.int .i64 x, .int .i64 y, .int .i64 (-1), .int .i64 (-1)] 131)) from ((Below.refl _ _).alloc (Nat.le_refl _) _).alloc (by simp) _)
  clear hH
  go_enter Tryd.func139, Tryd.ntmps139
  go_wp2_with fail
  refine (implNext _ x y (-1) (-1) x1 x2 y1 y2 rfl rfl).mono ?_
  rintro e w1 ⟨rfl, b1⟩
  obtain ⟨hc1, hf1⟩ := bcell b1
  have HL1 := Lib.hid (HL.out.trans (b1.mono (by first | (simp; done) | (simp; omega))))
  have hz : w.heap.size + 1 < w1.heap.size := by have := b1.size; simp at this; omega
  have hz0 : w.heap.size < w1.heap.size := by omega
  clear b1
  go_wp2
  go_ret
  exact ⟨ret_int (by omega), HL1.out.alloc HL1.out.size _⟩
end Go.Proofs.YtbpdjmjkjiddjaaDoor.Base

namespace Go.Proofs.YtbpdjmjkjiddjaaDoor.Base
open Go.RowKit
set_option linter.unusedVariables false

theorem specSeg (w : World) (p : Nat) (W H : Int) (A : Option Addr) (n c : Nat) (x y dx dy : Int) (hb : Box w p W H A n c) (hH : sideB H = true) (x1 : 0 ≤ x) (x2 : x ≤ 16) (y1 : 0 ≤ y) (y2 : y ≤ 16) (x3 : 0 ≤ x + dx) (y3 : 0 ≤ y + dy) (hx : signB dx = true) (hy : signB dy = true) :
    Calls Tryd.prog 149 #[.pointer (some ⟨p, 0, none⟩), .agg #[.int .i64 x, .int .i64 y, .int .i64 dx, .int .i64 dy]] w (Gives (.int .i64 (segOf H x y dx dy)) w) := by
  rcases sign_yes hx with rfl | rfl <;> rcases sign_yes hy with rfl | rfl
  · exact specSegPP w p W H A n c x y hb hH x1 x2 y1 y2 x3 y3
  · exact specSegPM w p W H A n c x y hb hH x1 x2 y1 y2 x3 y3
  · exact specSegMP w p W H A n c x y hb hH x1 x2 y1 y2 x3 y3
  · exact specSegMM w p W H A n c x y hb hH x1 x2 y1 y2 x3 y3
theorem implSeg (w : World) (W H : Int) (x y dx dy : Int) (hH : sideB H = true) (x1 : 0 ≤ x) (x2 : x ≤ 16) (y1 : 0 ≤ y) (y2 : y ≤ 16) (x3 : 0 ≤ x + dx) (y3 : 0 ≤ y + dy) (hx : signB dx = true) (hy : signB dy = true) :
    Calls Tryd.prog 139 #[.agg #[.int .i64 W, .int .i64 H], .agg #[.int .i64 x, .int .i64 y, .int .i64 dx, .int .i64 dy]] w (Gives (.int .i64 (segOf H x y dx dy)) w) := by
  rcases sign_yes hx with rfl | rfl <;> rcases sign_yes hy with rfl | rfl
  · exact implSegPP w W H x y hH x1 x2 y1 y2 x3 y3
  · exact implSegPM w W H x y hH x1 x2 y1 y2 x3 y3
  · exact implSegMP w W H x y hH x1 x2 y1 y2 x3 y3
  · exact implSegMM w W H x y hH x1 x2 y1 y2 x3 y3
theorem goNext {W H x y dx dy : Int} {n : Nat} {f : Nat → Int} (h : wkB W H n f x y dx dy = true) : hasB W H (x + dx) (y + dy) = true ∧ 0 ≤ x + dx ∧ x + dx ≤ 16 ∧ 0 ≤ y + dy ∧ y + dy ≤ 16 := by
  obtain ⟨hv, hg⟩ := wk_valid h
  obtain ⟨hW, hH, -, -⟩ := validB_yes hv
  obtain ⟨g1, g2, g3, g4⟩ := go_yes hg
  obtain ⟨x1, x2, y1, y2⟩ := has_bd hW hH g4
  exact ⟨g4, x1, x2, y1, y2⟩

end Go.Proofs.YtbpdjmjkjiddjaaDoor.Base

namespace Go.Proofs.YtbpdjmjkjiddjaaDoor.Base
open Go.RowKit
set_option linter.unusedVariables false

def wtX (H s : Int) : Int := s / (2 * H)
def wtY (H s : Int) : Int := if (s / (2 * H) + s % (2 * H)) % 2 = 1 then s % (2 * H) else s % (2 * H) + 1
def wtD (H s : Int) : Int := if (s / (2 * H) + s % (2 * H)) % 2 = 1 then 1 else -1
theorem wt_bd {H s : Int} (hH : sideB H = true) (h0 : 0 ≤ s) (h1 : s ≤ 255) : 0 ≤ s / (2 * H) ∧ s / (2 * H) ≤ 255 ∧ 0 ≤ s % (2 * H) ∧ s % (2 * H) < 2 * H ∧ 1 ≤ H ∧ H ≤ 8 := by
  obtain ⟨b1, b2⟩ := side_mk hH
  exact ⟨Int.ediv_nonneg h0 (by omega), Int.le_trans (Int.ediv_le_self _ h0) h1, Int.emod_nonneg _ (by omega), Int.emod_lt_of_pos _ (by omega), b1, b2⟩

theorem specWalkerEE (w : World) (p : Nat) (W H : Int) (A : Option Addr) (n c : Nat) (s : Int) (hb : Box w p W H A n c) (hH : sideB H = true) (h0 : 0 ≤ s) (h1 : s ≤ 255) (hx : s / (2 * H) % 2 = 0) (hk : s % 2 = 0) :
    Calls Tryd.prog 131 #[.pointer (some ⟨p, 0, none⟩), .int .i64 s] w (Gives (.agg #[.int .i64 (wtX H s), .int .i64 (wtY H s), .int .i64 1, .int .i64 (wtD H s)]) w) := by
  obtain ⟨a1, a2, a3, a4, a5, a6⟩ := wt_bd hH h0 h1
  have em : s % (2 * H) % 2 = s % 2 := Int.emod_emod_of_dvd s (Int.dvd_mul_right 2 H)
  have eX : wtX H s = s / (2 * H) := rfl
  have eY : wtY H s = s % (2 * H) / 2 * 2 + 1 := by unfold wtY; split <;> omega
  have eD : wtD H s = 2 * (s % 2) - 1 := by unfold wtD; split <;> omega
  rw [eX, eY, eD]
  have gx : (s / (2 * H) % 2 == 0) = true := beq_iff_eq.2 hx
  obtain ⟨hp, k0, k1, k2⟩ := hb
  clear eX eY eD hH hx hk em
  go_enter Tryd.func131, Tryd.ntmps131
  go_wp2
  refine bodyPost_ret ?_ rfl ⟨rfl, ?_⟩
  · simp [results, Tryd.results131, go_sem]
  · go_grown

theorem specWalkerEO (w : World) (p : Nat) (W H : Int) (A : Option Addr) (n c : Nat) (s : Int) (hb : Box w p W H A n c) (hH : sideB H = true) (h0 : 0 ≤ s) (h1 : s ≤ 255) (hx : s / (2 * H) % 2 = 0) (hk : s % 2 = 1) :
    Calls Tryd.prog 131 #[.pointer (some ⟨p, 0, none⟩), .int .i64 s] w (Gives (.agg #[.int .i64 (wtX H s), .int .i64 (wtY H s), .int .i64 1, .int .i64 (wtD H s)]) w) := by
  obtain ⟨a1, a2, a3, a4, a5, a6⟩ := wt_bd hH h0 h1
  have em : s % (2 * H) % 2 = s % 2 := Int.emod_emod_of_dvd s (Int.dvd_mul_right 2 H)
  have eX : wtX H s = s / (2 * H) := rfl
  have eY : wtY H s = s % (2 * H) / 2 * 2 + 1 := by unfold wtY; split <;> omega
  have eD : wtD H s = 2 * (s % 2) - 1 := by unfold wtD; split <;> omega
  rw [eX, eY, eD]
  have gx : (s / (2 * H) % 2 == 0) = true := beq_iff_eq.2 hx
  obtain ⟨hp, k0, k1, k2⟩ := hb
  clear eX eY eD hH hx hk em
  go_enter Tryd.func131, Tryd.ntmps131
  go_wp2
  refine bodyPost_ret ?_ rfl ⟨rfl, ?_⟩
  · simp [results, Tryd.results131, go_sem]
  · go_grown

theorem specWalkerOE (w : World) (p : Nat) (W H : Int) (A : Option Addr) (n c : Nat) (s : Int) (hb : Box w p W H A n c) (hH : sideB H = true) (h0 : 0 ≤ s) (h1 : s ≤ 255) (hx : s / (2 * H) % 2 = 1) (hk : s % 2 = 0) :
    Calls Tryd.prog 131 #[.pointer (some ⟨p, 0, none⟩), .int .i64 s] w (Gives (.agg #[.int .i64 (wtX H s), .int .i64 (wtY H s), .int .i64 1, .int .i64 (wtD H s)]) w) := by
  obtain ⟨a1, a2, a3, a4, a5, a6⟩ := wt_bd hH h0 h1
  have em : s % (2 * H) % 2 = s % 2 := Int.emod_emod_of_dvd s (Int.dvd_mul_right 2 H)
  have eX : wtX H s = s / (2 * H) := rfl
  have eY : wtY H s = (s % (2 * H) + 1) / 2 * 2 := by unfold wtY; split <;> omega
  have eD : wtD H s = 1 := by unfold wtD; split <;> omega
  rw [eX, eY, eD]
  have gx : (s / (2 * H) % 2 == 0) = false := beq_eq_false_iff_ne.2 (by omega)
  have gk : (s % 2 == 1) = false := beq_eq_false_iff_ne.2 (by omega)
  obtain ⟨hp, k0, k1, k2⟩ := hb
  clear eX eY eD hH hx hk em
  go_enter Tryd.func131, Tryd.ntmps131
  go_wp2
  refine bodyPost_ret ?_ rfl ⟨rfl, ?_⟩
  · simp [results, Tryd.results131, go_sem]
  · go_grown

theorem specWalkerOO (w : World) (p : Nat) (W H : Int) (A : Option Addr) (n c : Nat) (s : Int) (hb : Box w p W H A n c) (hH : sideB H = true) (h0 : 0 ≤ s) (h1 : s ≤ 255) (hx : s / (2 * H) % 2 = 1) (hk : s % 2 = 1) :
    Calls Tryd.prog 131 #[.pointer (some ⟨p, 0, none⟩), .int .i64 s] w (Gives (.agg #[.int .i64 (wtX H s), .int .i64 (wtY H s), .int .i64 1, .int .i64 (wtD H s)]) w) := by
  obtain ⟨a1, a2, a3, a4, a5, a6⟩ := wt_bd hH h0 h1
  have em : s % (2 * H) % 2 = s % 2 := Int.emod_emod_of_dvd s (Int.dvd_mul_right 2 H)
  have eX : wtX H s = s / (2 * H) := rfl
  have eY : wtY H s = (s % (2 * H) + 1) / 2 * 2 := by unfold wtY; split <;> omega
  have eD : wtD H s = -1 := by unfold wtD; split <;> omega
  rw [eX, eY, eD]
  have gx : (s / (2 * H) % 2 == 0) = false := beq_eq_false_iff_ne.2 (by omega)
  have gk : (s % 2 == 1) = true := beq_iff_eq.2 hk
  obtain ⟨hp, k0, k1, k2⟩ := hb
  clear eX eY eD hH hx hk em
  go_enter Tryd.func131, Tryd.ntmps131
  go_wp2
  refine bodyPost_ret ?_ rfl ⟨rfl, ?_⟩
  · simp [results, Tryd.results131, go_sem]
  · go_grown

theorem implWalker1 (w : World) (W H : Int) (s : Int) (hH : sideB H = true) (h0 : 0 ≤ s) (h1 : s ≤ 255) (hx : (s / (2 * H) + s % (2 * H)) % 2 = 1) :
    Calls Tryd.prog 138 #[.agg #[.int .i64 W, .int .i64 H], .int .i64 s] w (Gives (.agg #[.int .i64 (wtX H s), .int .i64 (wtY H s), .int .i64 1, .int .i64 (wtD H s)]) w) := by
  obtain ⟨a1, a2, a3, a4, a5, a6⟩ := wt_bd hH h0 h1
  have eX : wtX H s = s / (2 * H) := rfl
  have eY : wtY H s = s % (2 * H) := by unfold wtY; split <;> omega
  have eD : wtD H s = 1 := by unfold wtD; split <;> omega
  rw [eX, eY, eD]
  have gx : ((s / (2 * H) + s % (2 * H)) % 2 == 1) = true := beq_iff_eq.2 hx
  clear eX eY eD hH hx
  go_enter Tryd.func138, Tryd.ntmps138
  go_wp2
  go_quiet (fail)
  go_wp2
  refine bodyPost_ret ?_ rfl ⟨rfl, ?_⟩
  · simp [results, Tryd.results138, go_sem]
  · exact ((((below_drewN (((Below.refl w.heap.size w).alloc (Nat.le_refl _) _).alloc (by simp) _) _).setCell (by first | (simp; done) | (simp; omega)) _).setCell (by first | (simp; done) | (simp; omega)) _).setCell (by first | (simp; done) | (simp; omega)) _).setCell (by first | (simp; done) | (simp; omega)) _

theorem implWalker0 (w : World) (W H : Int) (s : Int) (hH : sideB H = true) (h0 : 0 ≤ s) (h1 : s ≤ 255) (hx : (s / (2 * H) + s % (2 * H)) % 2 ≠ 1) :
    Calls Tryd.prog 138 #[.agg #[.int .i64 W, .int .i64 H], .int .i64 s] w (Gives (.agg #[.int .i64 (wtX H s), .int .i64 (wtY H s), .int .i64 1, .int .i64 (wtD H s)]) w) := by
  obtain ⟨a1, a2, a3, a4, a5, a6⟩ := wt_bd hH h0 h1
  have eX : wtX H s = s / (2 * H) := rfl
  have eY : wtY H s = s % (2 * H) + 1 := by unfold wtY; split <;> omega
  have eD : wtD H s = -1 := by unfold wtD; split <;> omega
  rw [eX, eY, eD]
  have gx : ((s / (2 * H) + s % (2 * H)) % 2 == 1) = false := beq_eq_false_iff_ne.2 hx
  clear eX eY eD hH hx
  go_enter Tryd.func138, Tryd.ntmps138
  go_wp2
  go_quiet (fail)
  go_wp2
  refine bodyPost_ret ?_ rfl ⟨rfl, ?_⟩
  · simp [results, Tryd.results138, go_sem]
  · exact ((((below_drewN (((Below.refl w.heap.size w).alloc (Nat.le_refl _) _).alloc (by simp) _) _).setCell (by first | (simp; done) | (simp; omega)) _).setCell (by first | (simp; done) | (simp; omega)) _).setCell (by first | (simp; done) | (simp; omega)) _).setCell (by first | (simp; done) | (simp; omega)) _

theorem specWalker (w : World) (p : Nat) (W H : Int) (A : Option Addr) (n c : Nat) (s : Int) (hb : Box w p W H A n c) (hH : sideB H = true) (h0 : 0 ≤ s) (h1 : s ≤ 255) :
    Calls Tryd.prog 131 #[.pointer (some ⟨p, 0, none⟩), .int .i64 s] w (Gives (.agg #[.int .i64 (wtX H s), .int .i64 (wtY H s), .int .i64 1, .int .i64 (wtD H s)]) w) := by
  by_cases hx : s / (2 * H) % 2 = 0 <;> by_cases hk : s % 2 = 0
  · exact specWalkerEE w p W H A n c s hb hH h0 h1 hx hk
  · exact specWalkerEO w p W H A n c s hb hH h0 h1 hx (by omega)
  · exact specWalkerOE w p W H A n c s hb hH h0 h1 (by omega) hk
  · exact specWalkerOO w p W H A n c s hb hH h0 h1 (by omega) (by omega)
theorem implWalker (w : World) (W H : Int) (s : Int) (hH : sideB H = true) (h0 : 0 ≤ s) (h1 : s ≤ 255) :
    Calls Tryd.prog 138 #[.agg #[.int .i64 W, .int .i64 H], .int .i64 s] w (Gives (.agg #[.int .i64 (wtX H s), .int .i64 (wtY H s), .int .i64 1, .int .i64 (wtD H s)]) w) := by
  by_cases hx : (s / (2 * H) + s % (2 * H)) % 2 = 1
  · exact implWalker1 w W H s hH h0 h1 hx
  · exact implWalker0 w W H s hH h0 h1 hx

def wtC (W H : Int) (n : Nat) (f : Nat → Int) (s : Int) : Int := if validB W H n f then (if inB s 0 (4 * W * H - 1) then 0 else 2) else 1
def wtV (W H : Int) (n : Nat) (f : Nat → Int) (s v : Int) : Int := if wtC W H n f s = 0 then v else 0
theorem wt_bad {W H : Int} {n : Nat} {f : Nat → Int} {s : Int} (h : validB W H n f = false) : wtC W H n f s = 1 ∧ ∀ v, wtV W H n f s v = 0 := by
  have e : wtC W H n f s = 1 := by simp [wtC, h]
  exact ⟨e, fun v => by unfold wtV; rw [e]; rfl⟩
theorem wt_out {W H : Int} {n : Nat} {f : Nat → Int} {s : Int} (h : validB W H n f = true) (h2 : inB s 0 (4 * W * H - 1) = false) : wtC W H n f s = 2 ∧ ∀ v, wtV W H n f s v = 0 := by
  have e : wtC W H n f s = 2 := by simp [wtC, h, h2]
  exact ⟨e, fun v => by unfold wtV; rw [e]; rfl⟩
theorem wt_in {W H : Int} {n : Nat} {f : Nat → Int} {s : Int} (h : validB W H n f = true) (h2 : inB s 0 (4 * W * H - 1) = true) : wtC W H n f s = 0 ∧ ∀ v, wtV W H n f s v = v := by
  have e : wtC W H n f s = 0 := by simp [wtC, h, h2]
  exact ⟨e, fun v => by unfold wtV; rw [e]; rfl⟩
end Go.Proofs.YtbpdjmjkjiddjaaDoor.Base

namespace Go.Proofs.YtbpdjmjkjiddjaaDoor.Base
open Go.RowKit
set_option linter.unusedVariables false

theorem panel2 (w : World) (t : TypeId) (W H : Int) (A : Option Addr) (n c : Nat) (o : Obj) : Box ((w.alloc (.cells #[.int .i64 W, .int .i64 H, .slice A n c] t)).alloc o) w.heap.size W H A n c :=
  (Box.new w t W H A n c).below ((Below.refl _ _).alloc (Nat.le_refl _) _) (by simp)

end Go.Proofs.YtbpdjmjkjiddjaaDoor.Base
