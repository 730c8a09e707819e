/-
  Panels: spec's and the program's test whether a panel is valid; copies; equality.
-/
import Derived.Test.YtpkajonnopmciaaDoorBase
import Derived.Deep.RegionHeld3
namespace Go.Proofs.YtpkajonnopmciaaDoor.Base
open Go.RowKit
set_option linter.unusedVariables false

def kindsB (n : Nat) (f : Nat → Int) : Bool := (List.range n).all fun j => decide (0 ≤ f j ∧ f j ≤ 2)
theorem kinds_iff {n : Nat} {f : Nat → Int} : kindsB n f = true ↔ ∀ j, j < n → 0 ≤ f j ∧ f j ≤ 2 := by simp [kindsB]
theorem kinds_no {n : Nat} {f : Nat → Int} {k : Nat} (hk : k < n) (h : ¬ (0 ≤ f k ∧ f k ≤ 2)) : kindsB n f = false := by
  cases e : kindsB n f
  · rfl
  · exact absurd (kinds_iff.1 e k hk) h
def validB (W H : Int) (n : Nat) (f : Nat → Int) : Bool := sideB W && sideB H && decide ((n : Int) = inner W H) && kindsB n f

theorem quiet_left {P : Program} {f : FuncId} {args : Array Value} {w : World} {n : Nat} {v : Value}
    (h : Calls P f args (w.drewN n) fun e w' => e = .returned v ∧ w.drewN n = w') : Calls P f args (w.drewN n) fun e w' => e = .returned v ∧ ∃ m, w' = w.drewN m :=
  h.mono fun _ _ ⟨he, hm⟩ => ⟨he, n, hm.symm⟩

/-- the three cells of a panel behind a pointer -/
def Box (w : World) (p : Nat) (W H : Int) (A : Option Addr) (n c : Nat) : Prop :=
  p < w.heap.size ∧ w.cell? ⟨p, 0, none⟩ = some (.int .i64 W) ∧ w.cell? ⟨p, 1, none⟩ = some (.int .i64 H) ∧ w.cell? ⟨p, 2, none⟩ = some (.slice A n c)

/-- the post of a function that only reads -/
def Drew (v : Value) (w : World) (e : Ending) (w' : World) : Prop := ∃ m, e = .returned v ∧ w' = w.drewN m

theorem validB_yes {W H : Int} {n : Nat} {f : Nat → Int} (h : validB W H n f = true) : sideB W = true ∧ sideB H = true ∧ (n : Int) = inner W H ∧ kindsB n f = true := by
  simp [validB] at h
  exact ⟨h.1.1.1, h.1.1.2, h.1.2, h.2⟩
theorem validB_cases (W H : Int) (n : Nat) (f : Nat → Int) :
    ((sideB W = false ∨ sideB H = false ∨ (sideB W = true ∧ sideB H = true ∧ (n : Int) ≠ inner W H)) ∧ validB W H n f = false) ∨
    (sideB W = true ∧ sideB H = true ∧ (n : Int) = inner W H ∧ validB W H n f = kindsB n f) := by
  cases h1 : sideB W
  · exact .inl ⟨.inl rfl, by simp [validB, h1]⟩
  · cases h2 : sideB H
    · exact .inl ⟨.inr (.inl rfl), by simp [validB, h2]⟩
    · by_cases h3 : (n : Int) = inner W H
      · exact .inr ⟨rfl, rfl, h3, by simp [validB, h1, h2, h3]⟩
      · exact .inl ⟨.inr (.inr ⟨rfl, rfl, h3⟩), by simp [validB, h3]⟩
/-- what a function returns, and no old memory has changed -/
def Gives (v : Value) (w : World) (e : Ending) (w' : World) : Prop := e = .returned v ∧ Below w.heap.size w w'

theorem below_drewN {B : Nat} {a w : World} (h : Below B a w) (n : Nat) : Below B a (w.drewN n) := ⟨h.os, h.tape, h.output, h.size, h.block⟩

end Go.Proofs.YtpkajonnopmciaaDoor.Base

namespace Go.Proofs.YtpkajonnopmciaaDoor.Base
open Go.RowKit
set_option linter.unusedVariables false

def kindB (z : Int) : Bool := inB z 0 2
/-- what go_region_held3 keeps: three cells, and that nothing older has changed -/
theorem keep3 {w w1 w2 : World} {p q r : Addr} {u v x : Value} (h : w1.cell? p = some u ∧ w1.cell? q = some v ∧ w1.cell? r = some x ∧ Below w.heap.size w w1) (b : Below w1.heap.size w1 w2) :
    w2.cell? p = some u ∧ w2.cell? q = some v ∧ w2.cell? r = some x ∧ Below w.heap.size w w2 :=
  ⟨(b.cell (World.block_lt_of_cell? _ _ h.1)).trans h.1, (b.cell (World.block_lt_of_cell? _ _ h.2.1)).trans h.2.1, (b.cell (World.block_lt_of_cell? _ _ h.2.2.1)).trans h.2.2.1, h.2.2.2.trans (b.mono h.2.2.2.size)⟩
theorem keep3d {w w1 : World} {p q r : Addr} {u v x : Value} (h : w1.cell? p = some u ∧ w1.cell? q = some v ∧ w1.cell? r = some x ∧ Below w.heap.size w w1) :
    w1.drew.cell? p = some u ∧ w1.drew.cell? q = some v ∧ w1.drew.cell? r = some x ∧ Below w.heap.size w w1.drew := ⟨h.1, h.2.1, h.2.2.1, h.2.2.2.drew⟩

end Go.Proofs.YtpkajonnopmciaaDoor.Base

namespace Go.Proofs.YtpkajonnopmciaaDoor.Base
open Go.RowKit
set_option linter.unusedVariables false

/-- two slices that hold the same -/
theorem eqInts_same (w : World) (A A' : Option Addr) (n c c' : Nat) (f : Nat → Int) (hr : Row .i64 w A n c f) (hr' : Row .i64 w A' n c' f) :
    Calls Tryd.prog 8 #[.slice A n c, .slice A' n c'] w (Drew (.bool true) w) := by
  obtain ⟨hnc, hcm, _, hcell⟩ := hr
  obtain ⟨hnc', hcm', _, hcell'⟩ := hr'
  unfold maxLen at hcm hcm'
  have hn : ((n : Int) == (n : Int)) = true := beq_self_eq_true _
  go_enter Tryd.func8, Tryd.ntmps8
  go_wp2
  go_loopw [5] (fun i wr => ∃ k m : Nat, k ≤ n ∧ i = .int .i64 k ∧ wr = w.drewN m) (fun i _ => n - (intOf i).toNat)
  case atStart => exact ⟨0, 0, Nat.zero_le _, rfl, rfl⟩
  case round =>
    obtain ⟨k, m, hk, rfl, rfl⟩ := hrel
    by_cases hlt : k < n
    · obtain ⟨b, o, rfl, hbl, hc⟩ := hcell (by omega)
      obtain ⟨b', o', rfl, hbl', hc'⟩ := hcell' (by omega)
      have hck := hc k hlt
      have hck' := hc' k hlt
      have heq : (f k == f k) = true := beq_self_eq_true _
      clear hc hc' hcell hcell'
      go_wp2
      go_quiet (fail)
      go_wp2
      go_roundw
      case rel => exact ⟨k + 1, _, by omega, by go_num, rfl⟩
      case measure => simp [intOf]; omega
    · go_wp2
      go_ret
      exact ⟨m, rfl, rfl⟩

theorem Box.below {w w' : World} {p B : Nat} {W H : Int} {A : Option Addr} {n c : Nat} (h : Box w p W H A n c) (hb : Below B w w') (hB : p < B) : Box w' p W H A n c :=
  ⟨Nat.lt_of_lt_of_le h.1 hb.size, (hb.cell (p := ⟨p, 0, none⟩) hB).trans h.2.1, (hb.cell (p := ⟨p, 1, none⟩) hB).trans h.2.2.1, (hb.cell (p := ⟨p, 2, none⟩) hB).trans h.2.2.2⟩
theorem Box.new (w : World) (t : TypeId) (W H : Int) (A : Option Addr) (n c : Nat) : Box (w.alloc (.cells #[.int .i64 W, .int .i64 H, .slice A n c] t)) w.heap.size W H A n c :=
  ⟨by simp, by simp [go_sem], by simp [go_sem], by simp [go_sem]⟩
/-- two boxes and what lies below: what go_region_held3 keeps -/
theorem keep6 {w w1 w2 : World} {p q r p' q' r' : Addr} {u v x u' v' x' : Value} (h : w1.cell? p = some u ∧ w1.cell? q = some v ∧ w1.cell? r = some x ∧ w1.cell? p' = some u' ∧ w1.cell? q' = some v' ∧ w1.cell? r' = some x' ∧ Below w.heap.size w w1)
    (b : Below w1.heap.size w1 w2) :
    w2.cell? p = some u ∧ w2.cell? q = some v ∧ w2.cell? r = some x ∧ w2.cell? p' = some u' ∧ w2.cell? q' = some v' ∧ w2.cell? r' = some x' ∧ Below w.heap.size w w2 :=
  ⟨(b.cell (World.block_lt_of_cell? _ _ h.1)).trans h.1, (b.cell (World.block_lt_of_cell? _ _ h.2.1)).trans h.2.1, (b.cell (World.block_lt_of_cell? _ _ h.2.2.1)).trans h.2.2.1,
    (b.cell (World.block_lt_of_cell? _ _ h.2.2.2.1)).trans h.2.2.2.1, (b.cell (World.block_lt_of_cell? _ _ h.2.2.2.2.1)).trans h.2.2.2.2.1, (b.cell (World.block_lt_of_cell? _ _ h.2.2.2.2.2.1)).trans h.2.2.2.2.2.1,
    h.2.2.2.2.2.2.trans (b.mono h.2.2.2.2.2.2.size)⟩
theorem row_keep6 {k : IntKind} {A : Option Addr} {n c : Nat} {f : Nat → Int} {w w1 : World} {p q r p' q' r' : Addr} {u v x u' v' x' : Value} (h : w1.cell? p = some u ∧ w1.cell? q = some v ∧ w1.cell? r = some x ∧ w1.cell? p' = some u' ∧ w1.cell? q' = some v' ∧ w1.cell? r' = some x' ∧ Below w.heap.size w w1)
    (R : Row k w A n c f) : Row k w1 A n c f := R.below h.2.2.2.2.2.2 (Nat.le_refl _)
theorem keep6d {w w1 : World} {p q : Nat} {W H W' H' : Int} {A A' : Option Addr} {n c n' c' : Nat} (h : Box w1 p W H A n c) (h' : Box w1 q W' H' A' n' c') (b : Below w.heap.size w w1) :
    w1.drew.cell? ⟨p, 0, none⟩ = some (.int .i64 W) ∧ w1.drew.cell? ⟨p, 1, none⟩ = some (.int .i64 H) ∧ w1.drew.cell? ⟨p, 2, none⟩ = some (.slice A n c) ∧
    w1.drew.cell? ⟨q, 0, none⟩ = some (.int .i64 W') ∧ w1.drew.cell? ⟨q, 1, none⟩ = some (.int .i64 H') ∧ w1.drew.cell? ⟨q, 2, none⟩ = some (.slice A' n' c') ∧ Below w.heap.size w w1.drew :=
  ⟨h.2.1, h.2.2.1, h.2.2.2, h'.2.1, h'.2.2.1, h'.2.2.2, b.drew⟩
end Go.Proofs.YtpkajonnopmciaaDoor.Base

namespace Go.Proofs.YtpkajonnopmciaaDoor.Base
open Go.RowKit
set_option linter.unusedVariables false

def hasB (W H x y : Int) : Bool := inB x 0 (2 * W) && inB y 0 (2 * H) && decide ((x + y) % 2 = 1)
def edgeB (W H x y : Int) : Bool := decide (x = 0 ∨ y = 0 ∨ x = 2 * W ∨ y = 2 * H)
theorem in_yes {n a b : Int} (h : inB n a b = true) : a ≤ n ∧ n ≤ b := of_decide_eq_true h
theorem in_no {n a b : Int} (h : inB n a b = false) : ¬ (a ≤ n ∧ n ≤ b) := of_decide_eq_false h
theorem has_yes {W H x y : Int} (h : hasB W H x y = true) : 0 ≤ x ∧ x ≤ 2 * W ∧ 0 ≤ y ∧ y ≤ 2 * H ∧ (x + y) % 2 = 1 := by
  simp [hasB] at h
  obtain ⟨⟨h1, h2⟩, h3⟩ := h
  exact ⟨(in_yes h1).1, (in_yes h1).2, (in_yes h2).1, (in_yes h2).2, h3⟩

theorem in_is {n a b : Int} {v : Bool} (h : inB n a b = v) (w : World) : Calls Tryd.prog 22 #[.int .i64 n, .int .i64 a, .int .i64 b] w fun e w' => e = .returned (.bool v) ∧ w = w' := by
  rw [← h]; exact in_any n a b w

end Go.Proofs.YtpkajonnopmciaaDoor.Base

namespace Go.Proofs.YtpkajonnopmciaaDoor.Base
open Go.RowKit
set_option linter.unusedVariables false

def pointB (W H : Int) (n : Nat) (f : Nat → Int) (x y : Int) : Bool := validB W H n f && hasB W H x y
def borderB (W H : Int) (n : Nat) (f : Nat → Int) (x y : Int) : Bool := validB W H n f && hasB W H x y && edgeB W H x y

/-- a panel's box and a point's box, made one after the other -/
theorem two_boxes (w : World) (t u : TypeId) (W H : Int) (A : Option Addr) (n c : Nat) (x y : Int) :
    Box ((w.alloc (.cells #[.int .i64 W, .int .i64 H, .slice A n c] t)).alloc (.cells #[.int .i64 x, .int .i64 y] u)) w.heap.size W H A n c :=
  (Box.new w t W H A n c).below ((Below.refl _ _).alloc (Nat.le_refl _) _) (by simp)
/-- a point in its box -/
def Dot (w : World) (p : Nat) (x y : Int) : Prop := p < w.heap.size ∧ w.cell? ⟨p, 0, none⟩ = some (.int .i64 x) ∧ w.cell? ⟨p, 1, none⟩ = some (.int .i64 y)
theorem Dot.below {w w' : World} {p B : Nat} {x y : Int} (h : Dot w p x y) (hb : Below B w w') (hB : p < B) : Dot w' p x y :=
  ⟨Nat.lt_of_lt_of_le h.1 hb.size, (hb.cell (p := ⟨p, 0, none⟩) hB).trans h.2.1, (hb.cell (p := ⟨p, 1, none⟩) hB).trans h.2.2⟩
theorem Dot.new (w : World) (t : TypeId) (x y : Int) : Dot (w.alloc (.cells #[.int .i64 x, .int .i64 y] t)) w.heap.size x y := ⟨by simp, by simp [go_sem], by simp [go_sem]⟩
theorem below_of_drew {w w' : World} {m : Nat} (h : w' = w.drewN m) : Below w.heap.size w w' := by rw [h]; exact below_drewN (Below.refl _ _) m

theorem keep5 {w w1 w2 : World} {p q r p' q' : Addr} {u v x u' v' : Value} (h : w1.cell? p = some u ∧ w1.cell? q = some v ∧ w1.cell? r = some x ∧ w1.cell? p' = some u' ∧ w1.cell? q' = some v' ∧ Below w.heap.size w w1)
    (b : Below w1.heap.size w1 w2) : w2.cell? p = some u ∧ w2.cell? q = some v ∧ w2.cell? r = some x ∧ w2.cell? p' = some u' ∧ w2.cell? q' = some v' ∧ Below w.heap.size w w2 :=
  ⟨(b.cell (World.block_lt_of_cell? _ _ h.1)).trans h.1, (b.cell (World.block_lt_of_cell? _ _ h.2.1)).trans h.2.1, (b.cell (World.block_lt_of_cell? _ _ h.2.2.1)).trans h.2.2.1, (b.cell (World.block_lt_of_cell? _ _ h.2.2.2.1)).trans h.2.2.2.1, (b.cell (World.block_lt_of_cell? _ _ h.2.2.2.2.1)).trans h.2.2.2.2.1, h.2.2.2.2.2.trans (b.mono h.2.2.2.2.2.size)⟩
theorem row_keep5 {k : IntKind} {A : Option Addr} {n c : Nat} {f : Nat → Int} {w w1 : World} {p q r p' q' : Addr} {u v x u' v' : Value} (h : w1.cell? p = some u ∧ w1.cell? q = some v ∧ w1.cell? r = some x ∧ w1.cell? p' = some u' ∧ w1.cell? q' = some v' ∧ Below w.heap.size w w1)
    (R : Row k w A n c f) : Row k w1 A n c f := R.below h.2.2.2.2.2 (Nat.le_refl _)
theorem keep5d {w w1 : World} {p q : Nat} {W H x y : Int} {A : Option Addr} {n c : Nat} (h : Box w1 p W H A n c) (h' : Dot w1 q x y) (b : Below w.heap.size w w1) :
    w1.drew.cell? ⟨p, 0, none⟩ = some (.int .i64 W) ∧ w1.drew.cell? ⟨p, 1, none⟩ = some (.int .i64 H) ∧ w1.drew.cell? ⟨p, 2, none⟩ = some (.slice A n c) ∧
    w1.drew.cell? ⟨q, 0, none⟩ = some (.int .i64 x) ∧ w1.drew.cell? ⟨q, 1, none⟩ = some (.int .i64 y) ∧ Below w.heap.size w w1.drew :=
  ⟨h.2.1, h.2.2.1, h.2.2.2, h'.2.1, h'.2.2, b.drew⟩

end Go.Proofs.YtpkajonnopmciaaDoor.Base
