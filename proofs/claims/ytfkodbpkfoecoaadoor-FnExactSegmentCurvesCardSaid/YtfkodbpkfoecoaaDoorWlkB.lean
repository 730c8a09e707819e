/-
  ValidWalker, spec's and the program's.
-/
import Derived.Test.YtfkodbpkfoecoaaDoorWlk
import Derived.Test.YtfkodbpkfoecoaaDoorShape
namespace Go.Proofs.YtfkodbpkfoecoaaDoor.Base
open Go.RowKit
set_option linter.unusedVariables false

theorem go_no1 {W H x y dx dy : Int} (h : signB dx = false) : goB W H x y dx dy = false := by simp [goB, h]
theorem go_no2 {W H x y dx dy : Int} (h : signB dy = false) : goB W H x y dx dy = false := by simp [goB, h]
theorem go_no3 {W H x y dx dy : Int} (h : hasB W H x y = false) : goB W H x y dx dy = false := by simp [goB, h]
theorem go_is {W H x y dx dy : Int} (h1 : signB dx = true) (h2 : signB dy = true) (h3 : hasB W H x y = true) : goB W H x y dx dy = hasB W H (x + dx) (y + dy) := by simp [goB, h1, h2, h3]
theorem go_yes {W H x y dx dy : Int} (h : goB W H x y dx dy = true) : signB dx = true ∧ signB dy = true ∧ hasB W H x y = true ∧ hasB W H (x + dx) (y + dy) = true := by
  simp [goB] at h
  exact ⟨h.1.1.1, h.1.1.2, h.1.2, h.2⟩
theorem has_bd {W H x y : Int} (hW : sideB W = true) (hH : sideB H = true) (h : hasB W H x y = true) : 0 ≤ x ∧ x ≤ 16 ∧ 0 ≤ y ∧ y ≤ 16 := by
  obtain ⟨a1, a2⟩ := side_mk hW
  obtain ⟨b1, b2⟩ := side_mk hH
  obtain ⟨x1, x2, y1, y2, _⟩ := has_yes h
  omega

theorem specGo (w : World) (p : Nat) (W H : Int) (A : Option Addr) (n c : Nat) (x y dx dy : Int) (hb : Box w p W H A n c) (hW : sideB W = true) (hH : sideB H = true) :
    Calls Tryd.prog 72 #[.pointer (some ⟨p, 0, none⟩), .agg #[.int .i64 x, .int .i64 y, .int .i64 dx, .int .i64 dy]] w (Gives (.bool (goB W H x y dx dy)) w) := by
  have hbel : Below w.heap.size w (w.alloc (.cells #[.int .i64 x, .int .i64 y, .int .i64 dx, .int .i64 dy] 30)) := (Below.refl _ _).alloc (Nat.le_refl _) _
  have HL := Lib.hid hbel
  have HB := Lib.hid (hb.below hbel hb.1)
  clear hb hbel
  cases h1 : signB dx
  · rw [go_no1 h1]
    go_enter Tryd.func72, Tryd.ntmps72
    go_wp2_with (go_at_call 123; refine (specSign _ _).mono ?_; rintro e w' ⟨rfl, rfl⟩)
    go_ret
    exact ⟨rfl, HL.out⟩
  · cases h2 : signB dy
    · rw [go_no2 h2]
      go_enter Tryd.func72, Tryd.ntmps72
      go_wp2_with (go_at_call 123; refine (specSign _ _).mono ?_; rintro e w' ⟨rfl, rfl⟩)
      go_ret
      exact ⟨rfl, HL.out⟩
    · cases h3 : hasB W H x y
      · rw [go_no3 h3]
        go_enter Tryd.func72, Tryd.ntmps72
        go_wp2_with (go_at_call 123; refine (specSign _ _).mono ?_; rintro e w' ⟨rfl, rfl⟩)
        refine (specHas _ p W H A n c x y HB.out hW hH).mono ?_
        rintro e w1 ⟨rfl, b1⟩
        go_wp2
        go_ret
        exact ⟨rfl, HL.out.trans (b1.mono (by simp))⟩
      · obtain ⟨x1, x2, y1, y2⟩ := has_bd hW hH h3
        rw [go_is h1 h2 h3]
        go_enter Tryd.func72, Tryd.ntmps72
        go_wp2_with (go_at_call 123; refine (specSign _ _).mono ?_; rintro e w' ⟨rfl, rfl⟩)
        refine (specHas _ p W H A n c x y HB.out hW hH).mono ?_
        rintro e w1 ⟨rfl, b1⟩
        obtain ⟨hc1, hf1⟩ := bcell b1
        have HB1 := Lib.hid (HB.out.below b1 HB.out.1)
        have HL1 := Lib.hid (HL.out.trans (b1.mono (by simp)))
        clear b1
        go_wp2_with fail
        refine (specNext _ x y dx dy x1 x2 y1 y2 h1 h2).mono ?_
        rintro e w2 ⟨rfl, b2⟩
        have HB2 := Lib.hid (HB1.out.below b2 HB1.out.1)
        have HL2 := Lib.hid (HL1.out.trans (b2.mono HL1.out.size))
        clear b2 hc1 hf1
        go_wp2_with fail
        refine (specHas _ p W H A n c (x + dx) (y + dy) HB2.out hW hH).mono ?_
        rintro e w3 ⟨rfl, b3⟩
        go_wp2
        go_ret
        exact ⟨rfl, HL2.out.trans (b3.mono HL2.out.size)⟩

theorem wk_no {W H : Int} {n : Nat} {f : Nat → Int} {x y dx dy : Int} (h : validB W H n f = false) : wkB W H n f x y dx dy = false := by simp [wkB, h]
theorem wk_is {W H : Int} {n : Nat} {f : Nat → Int} {x y dx dy : Int} (h : validB W H n f = true) : wkB W H n f x y dx dy = goB W H x y dx dy := by simp [wkB, h]

/-- a panel's box and a walker's box, made one after the other -/
theorem panel_walker (w : World) (t u : TypeId) (W H : Int) (A : Option Addr) (n c : Nat) (x y dx dy : Int) :
    Box ((w.alloc (.cells #[.int .i64 W, .int .i64 H, .slice A n c] t)).alloc (.cells #[.int .i64 x, .int .i64 y, .int .i64 dx, .int .i64 dy] u)) w.heap.size W H A n c :=
  (Box.new w t W H A n c).below ((Below.refl _ _).alloc (Nat.le_refl _) _) (by simp)

theorem spec_validWalker (w : World) (W H : Int) (A : Option Addr) (n c : Nat) (f : Nat → Int) (x y dx dy : Int) (hr : Row .i64 w A n c f) :
    Calls Tryd.prog 19 #[.agg #[.int .i64 W, .int .i64 H, .slice A n c], .agg #[.int .i64 x, .int .i64 y, .int .i64 dx, .int .i64 dy]] w (Gives (.bool (wkB W H n f x y dx dy)) w) := by
  have HR := Lib.hid hr
  clear hr
  have hbel : Below w.heap.size w ((w.alloc (.cells #[.int .i64 W, .int .i64 H, .slice A n c] 26)).alloc (.cells #[.int .i64 x, .int .i64 y, .int .i64 dx, .int .i64 dy] 30)) := by go_grown
  have HL := Lib.hid hbel
  clear hbel
  cases hv : validB W H n f
  · rw [wk_no hv]
    have HV := Lib.hid hv
    clear hv
    go_enter Tryd.func19, Tryd.ntmps19
    go_wp2_with fail
    refine (specOk_is HV.out (panel_walker w _ _ W H A n c x y dx dy) (HR.out.below HL.out (Nat.le_refl _))).mono ?_
    rintro e w1 ⟨m, rfl, rfl⟩
    go_wp2
    go_ret
    exact ⟨rfl, below_drewN HL.out m⟩
  · obtain ⟨hW, hH, -, -⟩ := validB_yes hv
    rw [wk_is hv]
    have HV := Lib.hid hv
    clear hv
    go_enter Tryd.func19, Tryd.ntmps19
    go_wp2_with fail
    refine (specOk_is HV.out (panel_walker w _ _ W H A n c x y dx dy) (HR.out.below HL.out (Nat.le_refl _))).mono ?_
    rintro e w1 ⟨m, rfl, rfl⟩
    go_wp2_with fail
    refine (specGo _ _ W H A n c x y dx dy ((panel_walker w _ _ W H A n c x y dx dy).below (below_of_drew rfl) (by simp; omega)) hW hH).mono ?_
    rintro e w2 ⟨rfl, b2⟩
    go_wp2
    go_ret
    exact ⟨rfl, Below.trans (below_drewN HL.out m) (b2.mono (by simp; omega))⟩

theorem goB_is {W H x y : Int} {v : Bool} (h : hasB W H x y = v) (hW : sideB W = true) (hH : sideB H = true) (w : World) :
    Calls Tryd.prog 119 #[.agg #[.int .i64 W, .int .i64 H], .agg #[.int .i64 x, .int .i64 y]] w (Gives (.bool v) w) := hasPoint_is h hW hH

set_option maxHeartbeats 2000000 in
theorem impl_validWalker (w : World) (W H : Int) (A : Option Addr) (n c : Nat) (f : Nat → Int) (x y dx dy : Int) (hr : Row .i64 w A n c f) :
    Calls Tryd.prog 66 #[.agg #[.int .i64 W, .int .i64 H, .slice A n c], .agg #[.int .i64 x, .int .i64 y, .int .i64 dx, .int .i64 dy]] w (Gives (.bool (wkB W H n f x y dx dy)) w) := by
  have HR := Lib.hid hr
  clear hr
  have hbel : Below w.heap.size w ((w.alloc (.cells #[.int .i64 W, .int .i64 H, .slice A n c] 26)).alloc (.cells #[.int .i64 x, .int .i64 y, .int .i64 dx, .int .i64 dy] 30)) := by go_grown
  have HL := Lib.hid hbel
  clear hbel
  cases hv : validB W H n f
  · rw [wk_no hv]
    have HV := Lib.hid hv
    clear hv
    go_enter Tryd.func66, Tryd.ntmps66
    go_wp2_with fail
    refine (implOk_is HV.out (HR.out.below HL.out (Nat.le_refl _))).mono ?_
    rintro e w1 ⟨rfl, b1⟩
    go_wp2
    go_ret
    exact ⟨rfl, HL.out.trans (b1.mono (by simp; omega))⟩
  · obtain ⟨hW, hH, -, -⟩ := validB_yes hv
    rw [wk_is hv]
    have HV := Lib.hid hv
    clear hv
    cases h1 : signB dx
    · rw [go_no1 h1]
      go_enter Tryd.func66, Tryd.ntmps66
      go_wp2_with fail
      refine (implOk_is HV.out (HR.out.below HL.out (Nat.le_refl _))).mono ?_
      rintro e w1 ⟨rfl, b1⟩
      obtain ⟨hc1, hf1⟩ := bcell b1
      go_wp2_with (go_at_call 118; refine (implSign _ _).mono ?_; rintro e w' ⟨rfl, rfl⟩)
      go_ret
      exact ⟨rfl, HL.out.trans (b1.mono (by simp; omega))⟩
    · cases h2 : signB dy
      · rw [go_no2 h2]
        go_enter Tryd.func66, Tryd.ntmps66
        go_wp2_with fail
        refine (implOk_is HV.out (HR.out.below HL.out (Nat.le_refl _))).mono ?_
        rintro e w1 ⟨rfl, b1⟩
        obtain ⟨hc1, hf1⟩ := bcell b1
        go_wp2_with (go_at_call 118; refine (implSign _ _).mono ?_; rintro e w' ⟨rfl, rfl⟩)
        go_ret
        exact ⟨rfl, HL.out.trans (b1.mono (by simp; omega))⟩
      · cases h3 : hasB W H x y
        · rw [go_no3 h3]
          go_enter Tryd.func66, Tryd.ntmps66
          go_wp2_with fail
          refine (implOk_is HV.out (HR.out.below HL.out (Nat.le_refl _))).mono ?_
          rintro e w1 ⟨rfl, b1⟩
          obtain ⟨hc1, hf1⟩ := bcell b1
          go_wp2_with (go_at_call 118; refine (implSign _ _).mono ?_; rintro e w' ⟨rfl, rfl⟩)
          have hz1 : w.heap.size + 1 < w1.heap.size := by have := b1.size; simp at this; omega
          have hz0 : w.heap.size < w1.heap.size := by omega
          have HB1 := Lib.hid (HL.out.trans (b1.mono (by simp; omega)))
          have m0 : w1.cell? ⟨w.heap.size + 1, 0, none⟩ = some (.int .i64 x) := by rw [hc1 _ _ (by first | (simp; done) | (simp; omega))]; simp [go_sem]
          have m1 : w1.cell? ⟨w.heap.size + 1, 1, none⟩ = some (.int .i64 y) := by rw [hc1 _ _ (by first | (simp; done) | (simp; omega))]; simp [go_sem]
          have m2 : w1.cell? ⟨w.heap.size, 0, none⟩ = some (.int .i64 W) := by rw [hc1 _ _ (by first | (simp; done) | (simp; omega))]; simp [go_sem]
          have m3 : w1.cell? ⟨w.heap.size, 1, none⟩ = some (.int .i64 H) := by rw [hc1 _ _ (by first | (simp; done) | (simp; omega))]; simp [go_sem]
          have m4 : w1.cell? ⟨w.heap.size, 2, none⟩ = some (.slice A n c) := by rw [hc1 _ _ (by first | (simp; done) | (simp; omega))]; simp [go_sem]
          clear hf1 b1 hc1
          first | (go_region_with (first | (go_at_call 87; refine (sizeOf_any _ W H A n c).mono ?_; rintro e wa ⟨rfl, ba⟩; have m5 := (ba.cell (p := ⟨w.heap.size + 1, 0, none⟩) hz1).trans m0; have m6 := (ba.cell (p := ⟨w.heap.size + 1, 1, none⟩) hz1).trans m1; have HBA := Lib.hid ba; clear ba) | (go_at_call 119; refine (hasPoint_is h3 hW hH).mono ?_; rintro e wb ⟨rfl, bb⟩))) | fail
          all_goals
            go_wp2
            go_ret
            exact ⟨rfl, HB1.out.trans ((((Below.refl w1.heap.size w1).drew.trans HBA.out).trans (bb.mono HBA.out.size)).mono HB1.out.size)⟩
        · obtain ⟨x1, x2, y1, y2⟩ := has_bd hW hH h3
          rw [go_is h1 h2 h3]
          cases h4 : hasB W H (x + dx) (y + dy)
          all_goals
            go_enter Tryd.func66, Tryd.ntmps66
            go_wp2_with fail
            refine (implOk_is HV.out (HR.out.below HL.out (Nat.le_refl _))).mono ?_
            rintro e w1 ⟨rfl, b1⟩
            obtain ⟨hc1, hf1⟩ := bcell b1
            go_wp2_with (go_at_call 118; refine (implSign _ _).mono ?_; rintro e w' ⟨rfl, rfl⟩)
            have OL := Lib.hid ((Old.mk_ b1.drew))
            clear hc1 hf1 b1
            first | (go_region_held3 (fun w' => (∀ b o, b < ((w.alloc (.cells #[.int .i64 W, .int .i64 H, .slice A n c] 26)).alloc (.cells #[.int .i64 x, .int .i64 y, .int .i64 dx, .int .i64 dy] 30)).heap.size → w'.cell? ⟨b, o, none⟩ = ((w.alloc (.cells #[.int .i64 W, .int .i64 H, .slice A n c] 26)).alloc (.cells #[.int .i64 x, .int .i64 y, .int .i64 dx, .int .i64 dy] 30)).cell? ⟨b, o, none⟩) ∧ Below ((w.alloc (.cells #[.int .i64 W, .int .i64 H, .slice A n c] 26)).alloc (.cells #[.int .i64 x, .int .i64 y, .int .i64 dx, .int .i64 dy] 30)).heap.size ((w.alloc (.cells #[.int .i64 W, .int .i64 H, .slice A n c] 26)).alloc (.cells #[.int .i64 x, .int .i64 y, .int .i64 dx, .int .i64 dy] 30)) w')
              (first | assumption | exact OL.out | exact Old.trans (by assumption) (by assumption))
              (first | (go_at_call 87; refine (sizeOf_any _ W H A n c).mono ?_; rintro e wa ⟨rfl, ba⟩) | (go_at_call 119; (with_reducible refine (hasPoint_is h3 hW hH).mono ?_); rintro e wb ⟨rfl, bb⟩) | (go_at_call 70; refine (implNext _ x y dx dy x1 x2 y1 y2 h1 h2).mono ?_; rintro e wa ⟨rfl, ba⟩) | (go_at_call 119; (with_reducible refine (hasPoint_is h4 hW hH).mono ?_); rintro e wb ⟨rfl, bb⟩))) | fail
            all_goals
              rename_i hS
              have hB := hS.2
              clear hS
              go_wp2
              go_ret
              exact ⟨rfl, HL.out.trans (hB.mono (by simp; omega))⟩
end Go.Proofs.YtfkodbpkfoecoaaDoor.Base
