/-
  IsPoint and IsBorder, spec's and the program's.
-/
import Derived.Test.YtfkodbpkfoecoaaDoorPt
namespace Go.Proofs.YtfkodbpkfoecoaaDoor.Base
open Go.RowKit
set_option linter.unusedVariables false

def pointB (W H : Int) (n : Nat) (f : Nat → Int) (x y : Int) : Bool := validB W H n f && hasB W H x y
def borderB (W H : Int) (n : Nat) (f : Nat → Int) (x y : Int) : Bool := validB W H n f && hasB W H x y && edgeB W H x y

theorem specOk_is {w : World} {p : Nat} {W H : Int} {A : Option Addr} {n c : Nat} {f : Nat → Int} {v : Bool} (h : validB W H n f = v) (hb : Box w p W H A n c) (hr : Row .i64 w A n c f) :
    Calls Tryd.prog 71 #[.pointer (some ⟨p, 0, none⟩)] w (Drew (.bool v) w) := by rw [← h]; exact specOk w p W H A n c f hb hr
theorem specHas_is {w : World} {p : Nat} {W H : Int} {A : Option Addr} {n c : Nat} {x y : Int} {v : Bool} (h : hasB W H x y = v) (hb : Box w p W H A n c) (hW : sideB W = true) (hH : sideB H = true) :
    Calls Tryd.prog 83 #[.pointer (some ⟨p, 0, none⟩), .agg #[.int .i64 x, .int .i64 y]] w (Gives (.bool v) w) := by rw [← h]; exact specHas w p W H A n c x y hb hW hH
theorem specEdge_is {w : World} {p : Nat} {W H : Int} {A : Option Addr} {n c : Nat} {x y : Int} {v : Bool} (h : edgeB W H x y = v) (hb : Box w p W H A n c) (hW : sideB W = true) (hH : sideB H = true) :
    Calls Tryd.prog 84 #[.pointer (some ⟨p, 0, none⟩), .agg #[.int .i64 x, .int .i64 y]] w (Gives (.bool v) w) := by rw [← h]; exact specEdge w p W H A n c x y hb hW hH
theorem implOk_is {w : World} {W H : Int} {A : Option Addr} {n c : Nat} {f : Nat → Int} {v : Bool} (h : validB W H n f = v) (hr : Row .i64 w A n c f) :
    Calls Tryd.prog 117 #[.agg #[.int .i64 W, .int .i64 H, .slice A n c]] w (Gives (.bool v) w) := by rw [← h]; exact impl_validPanel w W H A n c f hr
theorem hasPoint_is {w : World} {W H x y : Int} {v : Bool} (h : hasB W H x y = v) (hW : sideB W = true) (hH : sideB H = true) :
    Calls Tryd.prog 119 #[.agg #[.int .i64 W, .int .i64 H], .agg #[.int .i64 x, .int .i64 y]] w (Gives (.bool v) w) := by rw [← h]; exact hasPoint_any w W H x y hW hH
theorem onBorder_is {w : World} {W H x y : Int} {v : Bool} (h : edgeB W H x y = v) (hW : sideB W = true) (hH : sideB H = true) :
    Calls Tryd.prog 88 #[.agg #[.int .i64 W, .int .i64 H], .agg #[.int .i64 x, .int .i64 y]] w (Gives (.bool v) w) := by rw [← h]; exact onBorder_any w W H x y hW hH

/-- a panel's box and a point's box, made one after the other -/
theorem two_boxes (w : World) (t u : TypeId) (W H : Int) (A : Option Addr) (n c : Nat) (x y : Int) :
    Box ((w.alloc (.cells #[.int .i64 W, .int .i64 H, .slice A n c] t)).alloc (.cells #[.int .i64 x, .int .i64 y] u)) w.heap.size W H A n c :=
  (Box.new w t W H A n c).below ((Below.refl _ _).alloc (Nat.le_refl _) _) (by simp)
/-- a point in its box -/
def Dot (w : World) (p : Nat) (x y : Int) : Prop := p < w.heap.size ∧ w.cell? ⟨p, 0, none⟩ = some (.int .i64 x) ∧ w.cell? ⟨p, 1, none⟩ = some (.int .i64 y)
theorem Dot.below {w w' : World} {p B : Nat} {x y : Int} (h : Dot w p x y) (hb : Below B w w') (hB : p < B) : Dot w' p x y :=
  ⟨Nat.lt_of_lt_of_le h.1 hb.size, (hb.cell (p := ⟨p, 0, none⟩) hB).trans h.2.1, (hb.cell (p := ⟨p, 1, none⟩) hB).trans h.2.2⟩
theorem Dot.new (w : World) (t : TypeId) (x y : Int) : Dot (w.alloc (.cells #[.int .i64 x, .int .i64 y] t)) w.heap.size x y := ⟨by simp, by simp [go_sem], by simp [go_sem]⟩
theorem below_of_drew {w w' : World} {m : Nat} (h : w' = w.drewN m) : Below w.heap.size w w' := by rw [h]; exact below_drewN (Below.refl _ _) m

theorem spec_isBorder (w : World) (W H : Int) (A : Option Addr) (n c : Nat) (f : Nat → Int) (x y : Int) (hr : Row .i64 w A n c f) :
    Calls Tryd.prog 30 #[.agg #[.int .i64 W, .int .i64 H, .slice A n c], .agg #[.int .i64 x, .int .i64 y]] w (Gives (.bool (borderB W H n f x y)) w) := by
  have HR := Lib.hid hr
  clear hr
  cases hv : validB W H n f
  · have e : borderB W H n f x y = false := by simp [borderB, hv]
    rw [e]
    have HV := Lib.hid hv
    clear e hv
    go_enter Tryd.func30, Tryd.ntmps30
    go_wp2_with fail
    refine (specOk_is HV.out (two_boxes w _ _ W H A n c x y) (HR.out.below (by go_grown) (Nat.le_refl _))).mono ?_
    rintro e w1 ⟨m, rfl, rfl⟩
    go_wp2
    go_ret
    exact ⟨rfl, below_drewN (by go_grown) m⟩
  · obtain ⟨hW, hH, -, -⟩ := validB_yes hv
    have HV := Lib.hid hv
    cases hh : hasB W H x y
    · have e : borderB W H n f x y = false := by simp [borderB, hh]
      rw [e]
      have HH := Lib.hid hh
      clear e hv hh
      go_enter Tryd.func30, Tryd.ntmps30
      go_wp2_with fail
      refine (specOk_is HV.out (two_boxes w _ _ W H A n c x y) (HR.out.below (by go_grown) (Nat.le_refl _))).mono ?_
      rintro e w1 ⟨m, rfl, rfl⟩
      go_wp2_with fail
      refine (specHas_is HH.out ((two_boxes w _ _ W H A n c x y).below (below_of_drew rfl) (by simp; omega)) hW hH).mono ?_
      rintro e w2 ⟨rfl, b2⟩
      go_wp2
      go_ret
      exact ⟨rfl, Below.trans (below_drewN (by go_grown) m) (b2.mono (by simp; omega))⟩
    · have e : borderB W H n f x y = edgeB W H x y := by simp [borderB, hv, hh]
      rw [e]
      have HH := Lib.hid hh
      clear e hv hh
      go_enter Tryd.func30, Tryd.ntmps30
      go_wp2_with fail
      refine (specOk_is HV.out (two_boxes w _ _ W H A n c x y) (HR.out.below (by go_grown) (Nat.le_refl _))).mono ?_
      rintro e w1 ⟨m, rfl, rfl⟩
      go_wp2_with fail
      have X1 := (two_boxes w 26 28 W H A n c x y).below (below_of_drew (m := m) rfl) (by simp; omega)
      have D1 := (Dot.new (w.alloc (.cells #[.int .i64 W, .int .i64 H, .slice A n c] 26)) 28 x y).below (below_of_drew (m := m) rfl) (by simp)
      have XX := Lib.hid X1
      have DD := Lib.hid D1
      clear X1 D1
      refine (specHas_is HH.out XX.out hW hH).mono ?_
      rintro e w2 ⟨rfl, b2⟩
      have X2 := XX.out.below b2 XX.out.1
      obtain ⟨-, d0, d1⟩ := DD.out.below b2 DD.out.1
      have XX2 := Lib.hid X2
      have BB := Lib.hid b2
      have hz : w.heap.size + 1 + 1 ≤ w2.heap.size := by have := b2.size; simp at this; omega
      clear X2 b2
      simp only [World.size_alloc] at d0 d1
      go_wp2_with fail
      refine (specEdge _ _ W H A n c x y XX2.out hW hH).mono ?_
      rintro e w3 ⟨rfl, b3⟩
      go_wp2
      go_ret
      exact ⟨rfl, Below.trans (below_drewN (by go_grown) m) ((BB.out.mono (by simp; omega)).trans (b3.mono (by omega)))⟩

theorem keep5 {w w1 w2 : World} {p q r p' q' : Addr} {u v x u' v' : Value} (h : w1.cell? p = some u ∧ w1.cell? q = some v ∧ w1.cell? r = some x ∧ w1.cell? p' = some u' ∧ w1.cell? q' = some v' ∧ Below w.heap.size w w1)
    (b : Below w1.heap.size w1 w2) : w2.cell? p = some u ∧ w2.cell? q = some v ∧ w2.cell? r = some x ∧ w2.cell? p' = some u' ∧ w2.cell? q' = some v' ∧ Below w.heap.size w w2 :=
  ⟨(b.cell (World.block_lt_of_cell? _ _ h.1)).trans h.1, (b.cell (World.block_lt_of_cell? _ _ h.2.1)).trans h.2.1, (b.cell (World.block_lt_of_cell? _ _ h.2.2.1)).trans h.2.2.1, (b.cell (World.block_lt_of_cell? _ _ h.2.2.2.1)).trans h.2.2.2.1, (b.cell (World.block_lt_of_cell? _ _ h.2.2.2.2.1)).trans h.2.2.2.2.1, h.2.2.2.2.2.trans (b.mono h.2.2.2.2.2.size)⟩
theorem row_keep5 {k : IntKind} {A : Option Addr} {n c : Nat} {f : Nat → Int} {w w1 : World} {p q r p' q' : Addr} {u v x u' v' : Value} (h : w1.cell? p = some u ∧ w1.cell? q = some v ∧ w1.cell? r = some x ∧ w1.cell? p' = some u' ∧ w1.cell? q' = some v' ∧ Below w.heap.size w w1)
    (R : Row k w A n c f) : Row k w1 A n c f := R.below h.2.2.2.2.2 (Nat.le_refl _)
theorem keep5d {w w1 : World} {p q : Nat} {W H x y : Int} {A : Option Addr} {n c : Nat} (h : Box w1 p W H A n c) (h' : Dot w1 q x y) (b : Below w.heap.size w w1) :
    w1.drew.cell? ⟨p, 0, none⟩ = some (.int .i64 W) ∧ w1.drew.cell? ⟨p, 1, none⟩ = some (.int .i64 H) ∧ w1.drew.cell? ⟨p, 2, none⟩ = some (.slice A n c) ∧
    w1.drew.cell? ⟨q, 0, none⟩ = some (.int .i64 x) ∧ w1.drew.cell? ⟨q, 1, none⟩ = some (.int .i64 y) ∧ Below w.heap.size w w1.drew :=
  ⟨h.2.1, h.2.2.1, h.2.2.2, h'.2.1, h'.2.2, b.drew⟩

theorem toPoint_any (w : World) (x y : Int) :
    Calls Tryd.prog 108 #[.agg #[.int .i64 x, .int .i64 y]] w (Gives (.agg #[.int .i64 x, .int .i64 y]) w) := by
  go_enter Tryd.func108, Tryd.ntmps108
  go_wp2
  go_returns
  exact ⟨rfl, by go_grown⟩
end Go.Proofs.YtfkodbpkfoecoaaDoor.Base
