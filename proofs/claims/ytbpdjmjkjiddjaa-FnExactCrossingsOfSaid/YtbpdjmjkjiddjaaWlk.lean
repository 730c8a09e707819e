/-
  Walkers: signs, the next point, is there such a walker; spec's and the program's.
-/
import Derived.Test.YtbpdjmjkjiddjaaPan
import Derived.Test.YtbpdjmjkjiddjaaNum
import Derived.Test.YtbpdjmjkjiddjaaShape
import Derived.IntWalk
import Derived.RegionTactic
namespace Go.Proofs.Ytbpdjmjkjiddjaa.Base
open Go.RowKit
set_option linter.unusedVariables false

def signB (d : Int) : Bool := decide (d = 1 ∨ d = -1)
def goB (W H x y dx dy : Int) : Bool := signB dx && signB dy && hasB W H x y && hasB W H (x + dx) (y + dy)
def wkB (W H : Int) (n : Nat) (f : Nat → Int) (x y dx dy : Int) : Bool := validB W H n f && goB W H x y dx dy
def wkC (W H : Int) (n : Nat) (f : Nat → Int) (x y dx dy : Int) : Int := if wkB W H n f x y dx dy then 0 else 1
theorem sign_yes {d : Int} (h : signB d = true) : d = 1 ∨ d = -1 := of_decide_eq_true h
theorem sign_no {d : Int} (h : signB d = false) : d ≠ 1 ∧ d ≠ -1 := by have := of_decide_eq_false h; omega
theorem sign_bd {d : Int} (h : signB d = true) : -1 ≤ d ∧ d ≤ 1 := by have := sign_yes h; omega

theorem specSign (d : Int) (w : World) : Calls Try.prog 88 #[.int .i64 d] w fun e w' => e = .returned (.bool (signB d)) ∧ w = w' := by
  by_cases h1 : d = 1
  · subst h1
    go_enter Try.func88, Try.ntmps88
    go_wp2
    go_ret
    exact ⟨rfl, rfl⟩
  · have e1 : (d == 1) = false := beq_eq_false_iff_ne.2 h1
    by_cases h2 : d = -1
    · subst h2
      go_enter Try.func88, Try.ntmps88
      go_wp2
      go_ret
      exact ⟨rfl, rfl⟩
    · have e2 : (d == -1) = false := beq_eq_false_iff_ne.2 h2
      have e : signB d = false := by simp [signB, h1, h2]
      rw [e]
      clear e
      go_enter Try.func88, Try.ntmps88
      go_wp2
      go_ret
      exact ⟨rfl, rfl⟩
theorem implSign (d : Int) (w : World) : Calls Try.prog 89 #[.int .i64 d] w fun e w' => e = .returned (.bool (signB d)) ∧ w = w' := by
  by_cases h1 : d = 1
  · subst h1
    go_enter Try.func89, Try.ntmps89
    go_wp2
    go_ret
    exact ⟨rfl, rfl⟩
  · have e1 : (d == 1) = false := beq_eq_false_iff_ne.2 h1
    by_cases h2 : d = -1
    · subst h2
      go_enter Try.func89, Try.ntmps89
      go_wp2
      go_ret
      exact ⟨rfl, rfl⟩
    · have e2 : (d == -1) = false := beq_eq_false_iff_ne.2 h2
      have e : signB d = false := by simp [signB, h1, h2]
      rw [e]
      clear e
      go_enter Try.func89, Try.ntmps89
      go_wp2
      go_ret
      exact ⟨rfl, rfl⟩

theorem specNextG (w : World) (x y dx dy : Int) (x1 : 0 ≤ x) (x2 : x ≤ 2000000) (y1 : 0 ≤ y) (y2 : y ≤ 2000000) (hx : signB dx = true) (hy : signB dy = true) :
    Calls Try.prog 53 #[.agg #[.int .i64 x, .int .i64 y, .int .i64 dx, .int .i64 dy]] w (Gives (.agg #[.int .i64 (x + dx), .int .i64 (y + dy)]) w) := by
  obtain ⟨a1, a2⟩ := sign_bd hx
  obtain ⟨b1, b2⟩ := sign_bd hy
  clear hx hy
  go_enter Try.func53, Try.ntmps53
  go_wp2
  refine bodyPost_ret ?_ rfl ⟨rfl, ?_⟩
  · simp [results, Try.results53, go_sem]
  · go_grown
theorem specNext (w : World) (x y dx dy : Int) (x1 : 0 ≤ x) (x2 : x ≤ 16) (y1 : 0 ≤ y) (y2 : y ≤ 16) (hx : signB dx = true) (hy : signB dy = true) :
    Calls Try.prog 53 #[.agg #[.int .i64 x, .int .i64 y, .int .i64 dx, .int .i64 dy]] w (Gives (.agg #[.int .i64 (x + dx), .int .i64 (y + dy)]) w) := specNextG w x y dx dy x1 (by omega) y1 (by omega) hx hy

theorem implNextG (w : World) (x y dx dy : Int) (x1 : 0 ≤ x) (x2 : x ≤ 2000000) (y1 : 0 ≤ y) (y2 : y ≤ 2000000) (hx : signB dx = true) (hy : signB dy = true) :
    Calls Try.prog 81 #[.agg #[.int .i64 x, .int .i64 y, .int .i64 dx, .int .i64 dy]] w (Gives (.agg #[.int .i64 (x + dx), .int .i64 (y + dy)]) w) := by
  obtain ⟨a1, a2⟩ := sign_bd hx
  obtain ⟨b1, b2⟩ := sign_bd hy
  clear hx hy
  go_enter Try.func81, Try.ntmps81
  go_wp2
  refine bodyPost_ret ?_ rfl ⟨rfl, ?_⟩
  · simp [results, Try.results81, go_sem]
  · go_grown
theorem implNext (w : World) (x y dx dy : Int) (x1 : 0 ≤ x) (x2 : x ≤ 16) (y1 : 0 ≤ y) (y2 : y ≤ 16) (hx : signB dx = true) (hy : signB dy = true) :
    Calls Try.prog 81 #[.agg #[.int .i64 x, .int .i64 y, .int .i64 dx, .int .i64 dy]] w (Gives (.agg #[.int .i64 (x + dx), .int .i64 (y + dy)]) w) := implNextG w x y dx dy x1 (by omega) y1 (by omega) hx hy
end Go.Proofs.Ytbpdjmjkjiddjaa.Base

namespace Go.Proofs.Ytbpdjmjkjiddjaa.Base
open Go.RowKit
set_option linter.unusedVariables false

theorem go_no1 {W H x y dx dy : Int} (h : signB dx = false) : goB W H x y dx dy = false := by simp [goB, h]
theorem go_no2 {W H x y dx dy : Int} (h : signB dy = false) : goB W H x y dx dy = false := by simp [goB, h]
theorem go_no3 {W H x y dx dy : Int} (h : hasB W H x y = false) : goB W H x y dx dy = false := by simp [goB, h]
theorem go_is {W H x y dx dy : Int} (h1 : signB dx = true) (h2 : signB dy = true) (h3 : hasB W H x y = true) : goB W H x y dx dy = hasB W H (x + dx) (y + dy) := by simp [goB, h1, h2, h3]
theorem go_yes {W H x y dx dy : Int} (h : goB W H x y dx dy = true) : signB dx = true ∧ signB dy = true ∧ hasB W H x y = true ∧ hasB W H (x + dx) (y + dy) = true := by
  simp [goB] at h
  exact ⟨h.1.1.1, h.1.1.2, h.1.2, h.2⟩
theorem has_bd {W H x y : Int} (hW : sideB W = true) (hH : sideB H = true) (h : hasB W H x y = true) : 0 ≤ x ∧ x ≤ 16 ∧ 0 ≤ y ∧ y ≤ 16 := by
  obtain ⟨a1, a2⟩ := side_mk hW
  obtain ⟨b1, b2⟩ := side_mk hH
  obtain ⟨x1, x2, y1, y2, _⟩ := has_yes h
  omega

theorem has_bdG {W H x y : Int} (hW : bigB W = true) (hH : bigB H = true) (h : hasB W H x y = true) : 0 ≤ x ∧ x ≤ 2000000 ∧ 0 ≤ y ∧ y ≤ 2000000 := by
  obtain ⟨a1, a2⟩ := big_mk hW
  obtain ⟨b1, b2⟩ := big_mk hH
  obtain ⟨x1, x2, y1, y2, _⟩ := has_yes h
  omega

theorem specGoG (w : World) (p : Nat) (W H : Int) (A : Option Addr) (n c : Nat) (x y dx dy : Int) (hb : Box w p W H A n c) (hW : bigB W = true) (hH : bigB H = true) :
    Calls Try.prog 79 #[.pointer (some ⟨p, 0, none⟩), .agg #[.int .i64 x, .int .i64 y, .int .i64 dx, .int .i64 dy]] w (Gives (.bool (goB W H x y dx dy)) w) := by
  have hbel : Below w.heap.size w (w.alloc (.cells #[.int .i64 x, .int .i64 y, .int .i64 dx, .int .i64 dy] 48)) := (Below.refl _ _).alloc (Nat.le_refl _) _
  have HL := Lib.hid hbel
  have HB := Lib.hid (hb.below hbel hb.1)
  clear hb hbel
  cases h1 : signB dx
  · rw [go_no1 h1]
    go_enter Try.func79, Try.ntmps79
    go_wp2_with (go_at_call 88; refine (specSign _ _).mono ?_; rintro e w' ⟨rfl, rfl⟩)
    go_ret
    exact ⟨rfl, HL.out⟩
  · cases h2 : signB dy
    · rw [go_no2 h2]
      go_enter Try.func79, Try.ntmps79
      go_wp2_with (go_at_call 88; refine (specSign _ _).mono ?_; rintro e w' ⟨rfl, rfl⟩)
      go_ret
      exact ⟨rfl, HL.out⟩
    · cases h3 : hasB W H x y
      · rw [go_no3 h3]
        go_enter Try.func79, Try.ntmps79
        go_wp2_with (go_at_call 88; refine (specSign _ _).mono ?_; rintro e w' ⟨rfl, rfl⟩)
        refine (specHasG _ p W H A n c x y HB.out hW hH).mono ?_
        rintro e w1 ⟨rfl, b1⟩
        go_wp2
        go_ret
        exact ⟨rfl, HL.out.trans (b1.mono (by simp))⟩
      · obtain ⟨x1, x2, y1, y2⟩ := has_bdG hW hH h3
        rw [go_is h1 h2 h3]
        go_enter Try.func79, Try.ntmps79
        go_wp2_with (go_at_call 88; refine (specSign _ _).mono ?_; rintro e w' ⟨rfl, rfl⟩)
        refine (specHasG _ p W H A n c x y HB.out hW hH).mono ?_
        rintro e w1 ⟨rfl, b1⟩
        obtain ⟨hc1, hf1⟩ := bcell b1
        have HB1 := Lib.hid (HB.out.below b1 HB.out.1)
        have HL1 := Lib.hid (HL.out.trans (b1.mono (by simp)))
        clear b1
        go_wp2_with fail
        refine (specNextG _ x y dx dy x1 x2 y1 y2 h1 h2).mono ?_
        rintro e w2 ⟨rfl, b2⟩
        have HB2 := Lib.hid (HB1.out.below b2 HB1.out.1)
        have HL2 := Lib.hid (HL1.out.trans (b2.mono HL1.out.size))
        clear b2 hc1 hf1
        go_wp2_with fail
        refine (specHasG _ p W H A n c (x + dx) (y + dy) HB2.out hW hH).mono ?_
        rintro e w3 ⟨rfl, b3⟩
        go_wp2
        go_ret
        exact ⟨rfl, HL2.out.trans (b3.mono HL2.out.size)⟩
theorem specGo (w : World) (p : Nat) (W H : Int) (A : Option Addr) (n c : Nat) (x y dx dy : Int) (hb : Box w p W H A n c) (hW : sideB W = true) (hH : sideB H = true) :
    Calls Try.prog 79 #[.pointer (some ⟨p, 0, none⟩), .agg #[.int .i64 x, .int .i64 y, .int .i64 dx, .int .i64 dy]] w (Gives (.bool (goB W H x y dx dy)) w) := specGoG w p W H A n c x y dx dy hb (big_side hW) (big_side hH)

theorem wk_no {W H : Int} {n : Nat} {f : Nat → Int} {x y dx dy : Int} (h : validB W H n f = false) : wkB W H n f x y dx dy = false := by simp [wkB, h]
theorem wk_is {W H : Int} {n : Nat} {f : Nat → Int} {x y dx dy : Int} (h : validB W H n f = true) : wkB W H n f x y dx dy = goB W H x y dx dy := by simp [wkB, h]

/-- a panel's box and a walker's box, made one after the other -/
theorem panel_walker (w : World) (t u : TypeId) (W H : Int) (A : Option Addr) (n c : Nat) (x y dx dy : Int) :
    Box ((w.alloc (.cells #[.int .i64 W, .int .i64 H, .slice A n c] t)).alloc (.cells #[.int .i64 x, .int .i64 y, .int .i64 dx, .int .i64 dy] u)) w.heap.size W H A n c :=
  (Box.new w t W H A n c).below ((Below.refl _ _).alloc (Nat.le_refl _) _) (by simp)

theorem goB_is {W H x y : Int} {v : Bool} (h : hasB W H x y = v) (hW : sideB W = true) (hH : sideB H = true) (w : World) :
    Calls Try.prog 90 #[.agg #[.int .i64 W, .int .i64 H], .agg #[.int .i64 x, .int .i64 y]] w (Gives (.bool v) w) := hasPoint_is h hW hH

set_option maxHeartbeats 2000000 in
theorem hasWalker_any (w : World) (W H x y dx dy : Int) (hW : bigB W = true) (hH : bigB H = true) :
    Calls Try.prog 80 #[.agg #[.int .i64 W, .int .i64 H], .agg #[.int .i64 x, .int .i64 y, .int .i64 dx, .int .i64 dy]] w (Gives (.bool (goB W H x y dx dy)) w) := by
  have hbel : Below w.heap.size w ((w.alloc (.cells #[.int .i64 W, .int .i64 H] 74)).alloc (.cells #[.int .i64 x, .int .i64 y, .int .i64 dx, .int .i64 dy] 48)) := by go_grown
  have HL := Lib.hid hbel
  clear hbel
  cases h1 : signB dx
  · rw [go_no1 h1]
    go_enter Try.func80, Try.ntmps80
    go_wp2_with (go_at_call 89; refine (implSign _ _).mono ?_; rintro e w' ⟨rfl, rfl⟩)
    go_ret
    exact ⟨rfl, HL.out⟩
  · cases h2 : signB dy
    · rw [go_no2 h2]
      go_enter Try.func80, Try.ntmps80
      go_wp2_with (go_at_call 89; refine (implSign _ _).mono ?_; rintro e w' ⟨rfl, rfl⟩)
      go_ret
      exact ⟨rfl, HL.out⟩
    · cases h3 : hasB W H x y
      · rw [go_no3 h3]
        go_enter Try.func80, Try.ntmps80
        go_wp2_with (go_at_call 89; refine (implSign _ _).mono ?_; rintro e w' ⟨rfl, rfl⟩)
        first | (go_region_with (go_at_call 90; refine (hasPointG_is h3 hW hH).mono ?_; rintro e wb ⟨rfl, bb⟩)) | fail
        all_goals
          go_wp2
          go_ret
          exact ⟨rfl, HL.out.trans (((Below.refl _ _).drew.trans bb).mono (by simp; omega))⟩
      · obtain ⟨x1, x2, y1, y2⟩ := has_bdG hW hH h3
        rw [go_is h1 h2 h3]
        cases h4 : hasB W H (x + dx) (y + dy)
        all_goals
          go_enter Try.func80, Try.ntmps80
          go_wp2_with (go_at_call 89; refine (implSign _ _).mono ?_; rintro e w' ⟨rfl, rfl⟩)
          have OL := Lib.hid ((Old.mk_ (Below.refl _ ((w.alloc (.cells #[.int .i64 W, .int .i64 H] 74)).alloc (.cells #[.int .i64 x, .int .i64 y, .int .i64 dx, .int .i64 dy] 48))).drew))
          first | (go_region_held3 (fun w' => (∀ b o, b < ((w.alloc (.cells #[.int .i64 W, .int .i64 H] 74)).alloc (.cells #[.int .i64 x, .int .i64 y, .int .i64 dx, .int .i64 dy] 48)).heap.size → w'.cell? ⟨b, o, none⟩ = ((w.alloc (.cells #[.int .i64 W, .int .i64 H] 74)).alloc (.cells #[.int .i64 x, .int .i64 y, .int .i64 dx, .int .i64 dy] 48)).cell? ⟨b, o, none⟩) ∧ Below ((w.alloc (.cells #[.int .i64 W, .int .i64 H] 74)).alloc (.cells #[.int .i64 x, .int .i64 y, .int .i64 dx, .int .i64 dy] 48)).heap.size ((w.alloc (.cells #[.int .i64 W, .int .i64 H] 74)).alloc (.cells #[.int .i64 x, .int .i64 y, .int .i64 dx, .int .i64 dy] 48)) w')
            (first | assumption | exact OL.out | exact Old.trans (by assumption) (by assumption))
            (first | (go_at_call 90; (with_reducible refine (hasPointG_is h3 hW hH).mono ?_); rintro e wb ⟨rfl, bb⟩) | (go_at_call 81; refine (implNextG _ x y dx dy x1 x2 y1 y2 h1 h2).mono ?_; rintro e wa ⟨rfl, ba⟩) | (go_at_call 90; (with_reducible refine (hasPointG_is h4 hW hH).mono ?_); rintro e wb ⟨rfl, bb⟩))) | fail
          all_goals
            rename_i hS
            have hB := hS.2
            clear hS
            go_wp2
            go_ret
            exact ⟨rfl, HL.out.trans (hB.mono (by simp; omega))⟩
theorem hasWalker_is {w : World} {W H x y dx dy : Int} {v : Bool} (h : goB W H x y dx dy = v) (hW : bigB W = true) (hH : bigB H = true) :
    Calls Try.prog 80 #[.agg #[.int .i64 W, .int .i64 H], .agg #[.int .i64 x, .int .i64 y, .int .i64 dx, .int .i64 dy]] w (Gives (.bool v) w) := by rw [← h]; exact hasWalker_any w W H x y dx dy hW hH

set_option maxHeartbeats 2000000 in
theorem impl_validWalker (w : World) (W H : Int) (A : Option Addr) (n c : Nat) (f : Nat → Int) (x y dx dy : Int) (hr : Row .i64 w A n c f) :
    Calls Try.prog 55 #[.agg #[.int .i64 W, .int .i64 H, .slice A n c], .agg #[.int .i64 x, .int .i64 y, .int .i64 dx, .int .i64 dy]] w (Gives (.bool (wkB W H n f x y dx dy)) w) := by
  have HR := Lib.hid hr
  clear hr
  have hbel : Below w.heap.size w ((w.alloc (.cells #[.int .i64 W, .int .i64 H, .slice A n c] 29)).alloc (.cells #[.int .i64 x, .int .i64 y, .int .i64 dx, .int .i64 dy] 48)) := by go_grown
  have HL := Lib.hid hbel
  clear hbel
  cases hv : validB W H n f
  · rw [wk_no hv]
    have HV := Lib.hid hv
    clear hv
    go_enter Try.func55, Try.ntmps55
    go_wp2_with fail
    first | (go_region_with (go_at_call 43; refine (implOk_is HV.out (HR.out.below (HL.out.trans ((Below.refl _ _).drew)) (Nat.le_refl _))).mono ?_; rintro e w1 ⟨rfl, b1⟩)) | (refine (implOk_is HV.out (HR.out.below HL.out (Nat.le_refl _))).mono ?_; rintro e w1 ⟨rfl, b1⟩)
    all_goals
      go_wp2
      go_ret
      exact ⟨rfl, HL.out.trans (((Below.refl _ _).drew.trans b1).mono (by simp; omega))⟩
  · obtain ⟨hW, hH, -, -⟩ := validB_yes hv
    rw [wk_is hv]
    have HV := Lib.hid hv
    clear hv
    cases h1 : goB W H x y dx dy
    all_goals
      go_enter Try.func55, Try.ntmps55
      go_wp2_with fail
      have OL := Lib.hid ((Old.mk_ (Below.refl _ ((w.alloc (.cells #[.int .i64 W, .int .i64 H, .slice A n c] 29)).alloc (.cells #[.int .i64 x, .int .i64 y, .int .i64 dx, .int .i64 dy] 48))).drew))
      first | (go_region_held3 (fun w' => (∀ b o, b < ((w.alloc (.cells #[.int .i64 W, .int .i64 H, .slice A n c] 29)).alloc (.cells #[.int .i64 x, .int .i64 y, .int .i64 dx, .int .i64 dy] 48)).heap.size → w'.cell? ⟨b, o, none⟩ = ((w.alloc (.cells #[.int .i64 W, .int .i64 H, .slice A n c] 29)).alloc (.cells #[.int .i64 x, .int .i64 y, .int .i64 dx, .int .i64 dy] 48)).cell? ⟨b, o, none⟩) ∧ Below ((w.alloc (.cells #[.int .i64 W, .int .i64 H, .slice A n c] 29)).alloc (.cells #[.int .i64 x, .int .i64 y, .int .i64 dx, .int .i64 dy] 48)).heap.size ((w.alloc (.cells #[.int .i64 W, .int .i64 H, .slice A n c] 29)).alloc (.cells #[.int .i64 x, .int .i64 y, .int .i64 dx, .int .i64 dy] 48)) w')
        (first | assumption | exact OL.out | exact Old.trans (by assumption) (by assumption))
        (first | (go_at_call 43; (refine (implOk_is HV.out (Row.old (HR.out.below HL.out (Nat.le_refl _)) (by assumption))).mono ?_); rintro e wc ⟨rfl, bc⟩) | (go_at_call 45; refine (sizeOf_any _ W H A n c).mono ?_; rintro e wa ⟨rfl, ba⟩) | (go_at_call 80; (with_reducible refine (hasWalker_is h1 (big_side hW) (big_side hH)).mono ?_); rintro e wb ⟨rfl, bb⟩))) | fail
      all_goals
        rename_i hS
        have hB := hS.2
        clear hS
        go_wp2
        go_ret
        exact ⟨rfl, HL.out.trans (hB.mono (by simp; omega))⟩
end Go.Proofs.Ytbpdjmjkjiddjaa.Base

namespace Go.Proofs.Ytbpdjmjkjiddjaa.Base
open Go.RowKit
set_option linter.unusedVariables false

def segs (W H : Int) : Int := 4 * W * H
def segN (W H : Int) (n : Nat) (f : Nat → Int) : Int := if validB W H n f then segs W H else 0
def okC (W H : Int) (n : Nat) (f : Nat → Int) : Int := if validB W H n f then 0 else 1
theorem segs_bd {W H : Int} (hW : sideB W = true) (hH : sideB H = true) : 0 ≤ 4 * W * H ∧ 4 * W * H ≤ 256 := by
  obtain ⟨a1, a2⟩ := side_mk hW
  obtain ⟨b1, b2⟩ := side_mk hH
  exact ⟨Int.mul_nonneg (by omega) (by omega), Int.mul_le_mul (show 4 * W ≤ 32 by omega) b2 (by omega) (by omega)⟩
theorem segN_yes {W H : Int} {n : Nat} {f : Nat → Int} (h : validB W H n f = true) : segN W H n f = 4 * W * H ∧ okC W H n f = 0 := by simp [segN, okC, segs, h]
theorem segN_no {W H : Int} {n : Nat} {f : Nat → Int} (h : validB W H n f = false) : segN W H n f = 0 ∧ okC W H n f = 1 := by simp [segN, okC, h]

end Go.Proofs.Ytbpdjmjkjiddjaa.Base

namespace Go.Proofs.Ytbpdjmjkjiddjaa.Base
open Go.RowKit
set_option linter.unusedVariables false

set_option maxHeartbeats 1000000 in
theorem specBack (w : World) (x y dx dy : Int) (x1 : 0 ≤ x) (x2 : x ≤ 16) (y1 : 0 ≤ y) (y2 : y ≤ 16) (hx : signB dx = true) (hy : signB dy = true) :
    Calls Try.prog 65 #[.agg #[.int .i64 x, .int .i64 y, .int .i64 dx, .int .i64 dy]] w (Gives (.agg #[.int .i64 (x + dx), .int .i64 (y + dy), .int .i64 (-dx), .int .i64 (-dy)]) w) := by
  obtain ⟨a1, a2⟩ := sign_bd hx
  obtain ⟨b1, b2⟩ := sign_bd hy
  have n1 : IntKind.i64.wrap (-dx) = -dx := IntWalk.i64_in _ (by omega)
  have n2 : IntKind.i64.wrap (-dy) = -dy := IntWalk.i64_in _ (by omega)
  go_enter Try.func65, Try.ntmps65
  go_wp2
  have OL := Lib.hid (Old.mk_ (show Below (w.alloc (.cells #[.int .i64 x, .int .i64 y, .int .i64 dx, .int .i64 dy] 48)).heap.size (w.alloc (.cells #[.int .i64 x, .int .i64 y, .int .i64 dx, .int .i64 dy] 48)) ((w.alloc (.cells #[.int .i64 x, .int .i64 y, .int .i64 dx, .int .i64 dy] 48)).alloc (.cells #[.int .i64 0, .int .i64 0, .int .i64 0, .int .i64 0] 48)).drew from ((Below.refl _ _).alloc (Nat.le_refl _) _).drew))
  go_region_held3 (fun w' => (∀ b o, b < (w.alloc (.cells #[.int .i64 x, .int .i64 y, .int .i64 dx, .int .i64 dy] 48)).heap.size → w'.cell? ⟨b, o, none⟩ = (w.alloc (.cells #[.int .i64 x, .int .i64 y, .int .i64 dx, .int .i64 dy] 48)).cell? ⟨b, o, none⟩) ∧ Below (w.alloc (.cells #[.int .i64 x, .int .i64 y, .int .i64 dx, .int .i64 dy] 48)).heap.size (w.alloc (.cells #[.int .i64 x, .int .i64 y, .int .i64 dx, .int .i64 dy] 48)) w')
    (first | (with_reducible assumption) | exact OL.out | exact Old.trans (by assumption) (by assumption) | exact Old.set (Old.set (Old.set (Old.set (by assumption) (by simp)) (by simp)) (by simp)) (by simp))
    (first | (go_at_call 53; refine (specNext _ x y dx dy x1 x2 y1 y2 hx hy).mono ?_; rintro e wa ⟨rfl, ba⟩; obtain ⟨hca, hfa⟩ := bcell ba))
  all_goals
    have p0 : wa.cell? ⟨w.heap.size + 1, 0, none⟩ = some (.int .i64 0) := by rw [hca _ _ (by simp)]; simp [go_sem]
    have p1 : wa.cell? ⟨w.heap.size + 1, 1, none⟩ = some (.int .i64 0) := by rw [hca _ _ (by simp)]; simp [go_sem]
    have p2 : wa.cell? ⟨w.heap.size + 1, 2, none⟩ = some (.int .i64 0) := by rw [hca _ _ (by simp)]; simp [go_sem]
    have p3 : wa.cell? ⟨w.heap.size + 1, 3, none⟩ = some (.int .i64 0) := by rw [hca _ _ (by simp)]; simp [go_sem]
    rename_i hS
    have hB := hS.2
    clear hS hca hfa
    go_wp2
    refine bodyPost_ret ?_ rfl ⟨rfl, Below.trans ((Below.refl _ _).alloc (Nat.le_refl _) _) (hB.mono (by simp))⟩
    simp [results, Try.results65, go_sem, p0, p1, p2, p3]

theorem wkC_no {W H : Int} {n : Nat} {f : Nat → Int} {x y dx dy : Int} (h : wkB W H n f x y dx dy = false) : wkC W H n f x y dx dy = 1 := by simp [wkC, h]
theorem wkC_yes {W H : Int} {n : Nat} {f : Nat → Int} {x y dx dy : Int} (h : wkB W H n f x y dx dy = true) : wkC W H n f x y dx dy = 0 := by simp [wkC, h]
theorem wk_valid {W H : Int} {n : Nat} {f : Nat → Int} {x y dx dy : Int} (h : wkB W H n f x y dx dy = true) : validB W H n f = true ∧ goB W H x y dx dy = true := by simpa [wkB] using h

/-- the code of a panel and a walker -/
theorem spec_wcode (w : World) (p : Nat) (W H : Int) (A : Option Addr) (n c : Nat) (f : Nat → Int) (x y dx dy : Int) (hb : Box w p W H A n c) (hr : Row .i64 w A n c f) :
    Calls Try.prog 52 #[.pointer (some ⟨p, 0, none⟩), .agg #[.int .i64 x, .int .i64 y, .int .i64 dx, .int .i64 dy]] w (Gives (.int .i64 (wkC W H n f x y dx dy)) w) := by
  have HL := Lib.hid (show Below w.heap.size w (w.alloc (.cells #[.int .i64 x, .int .i64 y, .int .i64 dx, .int .i64 dy] 48)) from (Below.refl _ _).alloc (Nat.le_refl _) _)
  have HR := Lib.hid hr
  have HB := Lib.hid (hb.below HL.out hb.1)
  clear hr hb
  cases hv : validB W H n f
  · rw [wkC_no (wk_no hv)]
    have HV := Lib.hid hv
    clear hv
    go_enter Try.func52, Try.ntmps52
    go_wp2_with fail
    refine (specOk_is HV.out HB.out (HR.out.below HL.out (Nat.le_refl _))).mono ?_
    rintro e w1 ⟨m, rfl, rfl⟩
    go_wp2
    go_ret
    exact ⟨rfl, below_drewN HL.out m⟩
  · obtain ⟨hW, hH, -, -⟩ := validB_yes hv
    have HV := Lib.hid hv
    have he : wkB W H n f x y dx dy = goB W H x y dx dy := wk_is hv
    cases hg : goB W H x y dx dy
    · rw [wkC_no (he.trans hg)]
      clear hv he
      go_enter Try.func52, Try.ntmps52
      go_wp2_with fail
      refine (specOk_is HV.out HB.out (HR.out.below HL.out (Nat.le_refl _))).mono ?_
      rintro e w1 ⟨m, rfl, rfl⟩
      go_wp2_with fail
      refine (specGo _ p W H A n c x y dx dy (HB.out.below (below_of_drew rfl) HB.out.1) hW hH).mono ?_
      rintro e w2 ⟨rfl, b2⟩
      go_wp2
      go_ret
      exact ⟨rfl, Below.trans (below_drewN HL.out m) (b2.mono (by simp))⟩
    · rw [wkC_yes (he.trans hg)]
      clear hv he
      go_enter Try.func52, Try.ntmps52
      go_wp2_with fail
      refine (specOk_is HV.out HB.out (HR.out.below HL.out (Nat.le_refl _))).mono ?_
      rintro e w1 ⟨m, rfl, rfl⟩
      go_wp2_with fail
      refine (specGo _ p W H A n c x y dx dy (HB.out.below (below_of_drew rfl) HB.out.1) hW hH).mono ?_
      rintro e w2 ⟨rfl, b2⟩
      go_wp2
      go_ret
      exact ⟨rfl, Below.trans (below_drewN HL.out m) (b2.mono (by simp))⟩
end Go.Proofs.Ytbpdjmjkjiddjaa.Base

namespace Go.Proofs.Ytbpdjmjkjiddjaa.Base
open Go.RowKit
set_option linter.unusedVariables false

def bkV (W H : Int) (n : Nat) (f : Nat → Int) (x y dx dy v : Int) : Int := if wkB W H n f x y dx dy then v else 0
theorem bkV_no {W H : Int} {n : Nat} {f : Nat → Int} {x y dx dy v : Int} (h : wkB W H n f x y dx dy = false) : bkV W H n f x y dx dy v = 0 := by simp [bkV, h]
theorem bkV_yes {W H : Int} {n : Nat} {f : Nat → Int} {x y dx dy v : Int} (h : wkB W H n f x y dx dy = true) : bkV W H n f x y dx dy v = v := by simp [bkV, h]
/-- the box of the panel below the walker's and the result's -/
theorem panel3 (w : World) (t : TypeId) (W H : Int) (A : Option Addr) (n c : Nat) (o o' : Obj) :
    Box (((w.alloc (.cells #[.int .i64 W, .int .i64 H, .slice A n c] t)).alloc o).alloc o') w.heap.size W H A n c :=
  (Box.new w t W H A n c).below (((Below.refl _ _).alloc (Nat.le_refl _) _).alloc (by simp) _) (by simp)
theorem goW {W H x y dx dy : Int} {n : Nat} {f : Nat → Int} (h : wkB W H n f x y dx dy = true) : sideB W = true ∧ sideB H = true ∧ 0 ≤ x ∧ x ≤ 16 ∧ 0 ≤ y ∧ y ≤ 16 ∧ signB dx = true ∧ signB dy = true := by
  obtain ⟨hv, hg⟩ := wk_valid h
  obtain ⟨hW, hH, -, -⟩ := validB_yes hv
  obtain ⟨g1, g2, g3, g4⟩ := go_yes hg
  obtain ⟨x1, x2, y1, y2⟩ := has_bd hW hH g3
  exact ⟨hW, hH, x1, x2, y1, y2, g1, g2⟩
theorem implW_is {w : World} {W H : Int} {A : Option Addr} {n c : Nat} {f : Nat → Int} {x y dx dy : Int} {v : Bool} (h : wkB W H n f x y dx dy = v) (hr : Row .i64 w A n c f) :
    Calls Try.prog 55 #[.agg #[.int .i64 W, .int .i64 H, .slice A n c], .agg #[.int .i64 x, .int .i64 y, .int .i64 dx, .int .i64 dy]] w (Gives (.bool v) w) := by rw [← h]; exact impl_validWalker w W H A n c f x y dx dy hr
theorem specC_is {w : World} {p : Nat} {W H : Int} {A : Option Addr} {n c : Nat} {f : Nat → Int} {x y dx dy v : Int} (h : wkC W H n f x y dx dy = v) (hb : Box w p W H A n c) (hr : Row .i64 w A n c f) :
    Calls Try.prog 52 #[.pointer (some ⟨p, 0, none⟩), .agg #[.int .i64 x, .int .i64 y, .int .i64 dx, .int .i64 dy]] w (Gives (.int .i64 v) w) := by rw [← h]; exact spec_wcode w p W H A n c f x y dx dy hb hr

end Go.Proofs.Ytbpdjmjkjiddjaa.Base

namespace Go.Proofs.Ytbpdjmjkjiddjaa.Base
open Go.RowKit
set_option linter.unusedVariables false

def lowI (a d : Int) : Int := if d = 1 then a else a + d
def segOf (H x y dx dy : Int) : Int := lowI x dx * 2 * H + lowI y dy
def sgN (W H : Int) (n : Nat) (f : Nat → Int) (x y dx dy : Int) : Int := if wkB W H n f x y dx dy then segOf H x y dx dy else 0
theorem sgN_no {W H : Int} {n : Nat} {f : Nat → Int} {x y dx dy : Int} (h : wkB W H n f x y dx dy = false) : sgN W H n f x y dx dy = 0 := by simp [sgN, h]
theorem sgN_yes {W H : Int} {n : Nat} {f : Nat → Int} {x y dx dy : Int} (h : wkB W H n f x y dx dy = true) : sgN W H n f x y dx dy = segOf H x y dx dy := by simp [sgN, h]

theorem seg_mul {a H : Int} (h1 : 0 ≤ a) (h2 : a ≤ 16) (hH : sideB H = true) : 0 ≤ a * 2 * H ∧ a * 2 * H ≤ 256 := by
  obtain ⟨b1, b2⟩ := side_mk hH
  exact ⟨Int.mul_nonneg (by omega) (by omega), Int.mul_le_mul (show a * 2 ≤ 32 by omega) b2 (by omega) (by omega)⟩

end Go.Proofs.Ytbpdjmjkjiddjaa.Base

namespace Go.Proofs.Ytbpdjmjkjiddjaa.Base
open Go.RowKit
set_option linter.unusedVariables false

theorem goNext {W H x y dx dy : Int} {n : Nat} {f : Nat → Int} (h : wkB W H n f x y dx dy = true) : hasB W H (x + dx) (y + dy) = true ∧ 0 ≤ x + dx ∧ x + dx ≤ 16 ∧ 0 ≤ y + dy ∧ y + dy ≤ 16 := by
  obtain ⟨hv, hg⟩ := wk_valid h
  obtain ⟨hW, hH, -, -⟩ := validB_yes hv
  obtain ⟨g1, g2, g3, g4⟩ := go_yes hg
  obtain ⟨x1, x2, y1, y2⟩ := has_bd hW hH g4
  exact ⟨g4, x1, x2, y1, y2⟩

end Go.Proofs.Ytbpdjmjkjiddjaa.Base

namespace Go.Proofs.Ytbpdjmjkjiddjaa.Base
open Go.RowKit
set_option linter.unusedVariables false

def wtX (H s : Int) : Int := s / (2 * H)
def wtY (H s : Int) : Int := if (s / (2 * H) + s % (2 * H)) % 2 = 1 then s % (2 * H) else s % (2 * H) + 1
def wtD (H s : Int) : Int := if (s / (2 * H) + s % (2 * H)) % 2 = 1 then 1 else -1
theorem wt_bd {H s : Int} (hH : sideB H = true) (h0 : 0 ≤ s) (h1 : s ≤ 255) : 0 ≤ s / (2 * H) ∧ s / (2 * H) ≤ 255 ∧ 0 ≤ s % (2 * H) ∧ s % (2 * H) < 2 * H ∧ 1 ≤ H ∧ H ≤ 8 := by
  obtain ⟨b1, b2⟩ := side_mk hH
  exact ⟨Int.ediv_nonneg h0 (by omega), Int.le_trans (Int.ediv_le_self _ h0) h1, Int.emod_nonneg _ (by omega), Int.emod_lt_of_pos _ (by omega), b1, b2⟩

theorem specWalkerEE (w : World) (p : Nat) (W H : Int) (A : Option Addr) (n c : Nat) (s : Int) (hb : Box w p W H A n c) (hH : sideB H = true) (h0 : 0 ≤ s) (h1 : s ≤ 255) (hx : s / (2 * H) % 2 = 0) (hk : s % 2 = 0) :
    Calls Try.prog 62 #[.pointer (some ⟨p, 0, none⟩), .int .i64 s] w (Gives (.agg #[.int .i64 (wtX H s), .int .i64 (wtY H s), .int .i64 1, .int .i64 (wtD H s)]) w) := by
  obtain ⟨a1, a2, a3, a4, a5, a6⟩ := wt_bd hH h0 h1
  have em : s % (2 * H) % 2 = s % 2 := Int.emod_emod_of_dvd s (Int.dvd_mul_right 2 H)
  have eX : wtX H s = s / (2 * H) := rfl
  have eY : wtY H s = s % (2 * H) / 2 * 2 + 1 := by unfold wtY; split <;> omega
  have eD : wtD H s = 2 * (s % 2) - 1 := by unfold wtD; split <;> omega
  rw [eX, eY, eD]
  have gx : (s / (2 * H) % 2 == 0) = true := beq_iff_eq.2 hx
  obtain ⟨hp, k0, k1, k2⟩ := hb
  clear eX eY eD hH hx hk em
  go_enter Try.func62, Try.ntmps62
  go_wp2
  refine bodyPost_ret ?_ rfl ⟨rfl, ?_⟩
  · simp [results, Try.results62, go_sem]
  · go_grown

theorem specWalkerEO (w : World) (p : Nat) (W H : Int) (A : Option Addr) (n c : Nat) (s : Int) (hb : Box w p W H A n c) (hH : sideB H = true) (h0 : 0 ≤ s) (h1 : s ≤ 255) (hx : s / (2 * H) % 2 = 0) (hk : s % 2 = 1) :
    Calls Try.prog 62 #[.pointer (some ⟨p, 0, none⟩), .int .i64 s] w (Gives (.agg #[.int .i64 (wtX H s), .int .i64 (wtY H s), .int .i64 1, .int .i64 (wtD H s)]) w) := by
  obtain ⟨a1, a2, a3, a4, a5, a6⟩ := wt_bd hH h0 h1
  have em : s % (2 * H) % 2 = s % 2 := Int.emod_emod_of_dvd s (Int.dvd_mul_right 2 H)
  have eX : wtX H s = s / (2 * H) := rfl
  have eY : wtY H s = s % (2 * H) / 2 * 2 + 1 := by unfold wtY; split <;> omega
  have eD : wtD H s = 2 * (s % 2) - 1 := by unfold wtD; split <;> omega
  rw [eX, eY, eD]
  have gx : (s / (2 * H) % 2 == 0) = true := beq_iff_eq.2 hx
  obtain ⟨hp, k0, k1, k2⟩ := hb
  clear eX eY eD hH hx hk em
  go_enter Try.func62, Try.ntmps62
  go_wp2
  refine bodyPost_ret ?_ rfl ⟨rfl, ?_⟩
  · simp [results, Try.results62, go_sem]
  · go_grown

theorem specWalkerOE (w : World) (p : Nat) (W H : Int) (A : Option Addr) (n c : Nat) (s : Int) (hb : Box w p W H A n c) (hH : sideB H = true) (h0 : 0 ≤ s) (h1 : s ≤ 255) (hx : s / (2 * H) % 2 = 1) (hk : s % 2 = 0) :
    Calls Try.prog 62 #[.pointer (some ⟨p, 0, none⟩), .int .i64 s] w (Gives (.agg #[.int .i64 (wtX H s), .int .i64 (wtY H s), .int .i64 1, .int .i64 (wtD H s)]) w) := by
  obtain ⟨a1, a2, a3, a4, a5, a6⟩ := wt_bd hH h0 h1
  have em : s % (2 * H) % 2 = s % 2 := Int.emod_emod_of_dvd s (Int.dvd_mul_right 2 H)
  have eX : wtX H s = s / (2 * H) := rfl
  have eY : wtY H s = (s % (2 * H) + 1) / 2 * 2 := by unfold wtY; split <;> omega
  have eD : wtD H s = 1 := by unfold wtD; split <;> omega
  rw [eX, eY, eD]
  have gx : (s / (2 * H) % 2 == 0) = false := beq_eq_false_iff_ne.2 (by omega)
  have gk : (s % 2 == 1) = false := beq_eq_false_iff_ne.2 (by omega)
  obtain ⟨hp, k0, k1, k2⟩ := hb
  clear eX eY eD hH hx hk em
  go_enter Try.func62, Try.ntmps62
  go_wp2
  refine bodyPost_ret ?_ rfl ⟨rfl, ?_⟩
  · simp [results, Try.results62, go_sem]
  · go_grown

theorem specWalkerOO (w : World) (p : Nat) (W H : Int) (A : Option Addr) (n c : Nat) (s : Int) (hb : Box w p W H A n c) (hH : sideB H = true) (h0 : 0 ≤ s) (h1 : s ≤ 255) (hx : s / (2 * H) % 2 = 1) (hk : s % 2 = 1) :
    Calls Try.prog 62 #[.pointer (some ⟨p, 0, none⟩), .int .i64 s] w (Gives (.agg #[.int .i64 (wtX H s), .int .i64 (wtY H s), .int .i64 1, .int .i64 (wtD H s)]) w) := by
  obtain ⟨a1, a2, a3, a4, a5, a6⟩ := wt_bd hH h0 h1
  have em : s % (2 * H) % 2 = s % 2 := Int.emod_emod_of_dvd s (Int.dvd_mul_right 2 H)
  have eX : wtX H s = s / (2 * H) := rfl
  have eY : wtY H s = (s % (2 * H) + 1) / 2 * 2 := by unfold wtY; split <;> omega
  have eD : wtD H s = -1 := by unfold wtD; split <;> omega
  rw [eX, eY, eD]
  have gx : (s / (2 * H) % 2 == 0) = false := beq_eq_false_iff_ne.2 (by omega)
  have gk : (s % 2 == 1) = true := beq_iff_eq.2 hk
  obtain ⟨hp, k0, k1, k2⟩ := hb
  clear eX eY eD hH hx hk em
  go_enter Try.func62, Try.ntmps62
  go_wp2
  refine bodyPost_ret ?_ rfl ⟨rfl, ?_⟩
  · simp [results, Try.results62, go_sem]
  · go_grown

theorem specWalker (w : World) (p : Nat) (W H : Int) (A : Option Addr) (n c : Nat) (s : Int) (hb : Box w p W H A n c) (hH : sideB H = true) (h0 : 0 ≤ s) (h1 : s ≤ 255) :
    Calls Try.prog 62 #[.pointer (some ⟨p, 0, none⟩), .int .i64 s] w (Gives (.agg #[.int .i64 (wtX H s), .int .i64 (wtY H s), .int .i64 1, .int .i64 (wtD H s)]) w) := by
  by_cases hx : s / (2 * H) % 2 = 0 <;> by_cases hk : s % 2 = 0
  · exact specWalkerEE w p W H A n c s hb hH h0 h1 hx hk
  · exact specWalkerEO w p W H A n c s hb hH h0 h1 hx (by omega)
  · exact specWalkerOE w p W H A n c s hb hH h0 h1 (by omega) hk
  · exact specWalkerOO w p W H A n c s hb hH h0 h1 (by omega) (by omega)
def wtC (W H : Int) (n : Nat) (f : Nat → Int) (s : Int) : Int := if validB W H n f then (if inB s 0 (4 * W * H - 1) then 0 else 2) else 1
def wtV (W H : Int) (n : Nat) (f : Nat → Int) (s v : Int) : Int := if wtC W H n f s = 0 then v else 0
theorem wt_bad {W H : Int} {n : Nat} {f : Nat → Int} {s : Int} (h : validB W H n f = false) : wtC W H n f s = 1 ∧ ∀ v, wtV W H n f s v = 0 := by
  have e : wtC W H n f s = 1 := by simp [wtC, h]
  exact ⟨e, fun v => by unfold wtV; rw [e]; rfl⟩
theorem wt_out {W H : Int} {n : Nat} {f : Nat → Int} {s : Int} (h : validB W H n f = true) (h2 : inB s 0 (4 * W * H - 1) = false) : wtC W H n f s = 2 ∧ ∀ v, wtV W H n f s v = 0 := by
  have e : wtC W H n f s = 2 := by simp [wtC, h, h2]
  exact ⟨e, fun v => by unfold wtV; rw [e]; rfl⟩
theorem wt_in {W H : Int} {n : Nat} {f : Nat → Int} {s : Int} (h : validB W H n f = true) (h2 : inB s 0 (4 * W * H - 1) = true) : wtC W H n f s = 0 ∧ ∀ v, wtV W H n f s v = v := by
  have e : wtC W H n f s = 0 := by simp [wtC, h, h2]
  exact ⟨e, fun v => by unfold wtV; rw [e]; rfl⟩
end Go.Proofs.Ytbpdjmjkjiddjaa.Base

namespace Go.Proofs.Ytbpdjmjkjiddjaa.Base
open Go.RowKit
set_option linter.unusedVariables false

theorem panel2 (w : World) (t : TypeId) (W H : Int) (A : Option Addr) (n c : Nat) (o : Obj) : Box ((w.alloc (.cells #[.int .i64 W, .int .i64 H, .slice A n c] t)).alloc o) w.heap.size W H A n c :=
  (Box.new w t W H A n c).below ((Below.refl _ _).alloc (Nat.le_refl _) _) (by simp)

end Go.Proofs.Ytbpdjmjkjiddjaa.Base
