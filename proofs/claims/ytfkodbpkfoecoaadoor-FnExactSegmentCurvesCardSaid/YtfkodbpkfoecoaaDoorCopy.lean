/-
  The laws' own helpers: copies of panels, how large they are, equality.
-/
import Derived.Test.YtfkodbpkfoecoaaDoorPan
namespace Go.Proofs.YtfkodbpkfoecoaaDoor.Base
open Go.RowKit
set_option linter.unusedVariables false

theorem toPanel_any (w : World) (W H : Int) (A : Option Addr) (n c : Nat) (f : Nat → Int) (hr : Row .i64 w A n c f) (hn : n ≤ 1048576) :
    Calls Tryd.prog 45 #[.agg #[.int .i64 W, .int .i64 H, .slice A n c]] w (MadePanel 2 W H n f w) := by
  have HR := Lib.hid hr
  clear hr
  go_enter Tryd.func45, Tryd.ntmps45
  go_wp2_with fail
  refine (toInts_any _ A n c f (HR.out.below (by go_grown) (Nat.le_refl _)) hn).mono ?_
  rintro e w1 ⟨b, rfl, hb, hrow, b1⟩
  obtain ⟨hc1, hf1⟩ := bcell b1
  have hz1 := b1.size
  simp at hz1 hb
  have p0 : w1.cell? ⟨w.heap.size + 1, 0, none⟩ = some (.int .i64 0) := by rw [hc1 _ _ (by simp)]; simp [go_sem]
  have p1 : w1.cell? ⟨w.heap.size + 1, 1, none⟩ = some (.int .i64 0) := by rw [hc1 _ _ (by simp)]; simp [go_sem]
  have p2 : w1.cell? ⟨w.heap.size + 1, 2, none⟩ = some (.slice none 0 0) := by rw [hc1 _ _ (by simp)]; simp [go_sem]
  have q0 : w1.cell? ⟨w.heap.size + 1 + 1, 0, none⟩ = some (.int .i64 W) := by rw [hc1 _ _ (by simp)]; simp [go_sem]
  have q1 : w1.cell? ⟨w.heap.size + 1 + 1, 1, none⟩ = some (.int .i64 H) := by rw [hc1 _ _ (by simp)]; simp [go_sem]
  have q2 : w1.cell? ⟨w.heap.size + 1 + 1, 2, none⟩ = some (.slice none 0 0) := by rw [hc1 _ _ (by simp)]; simp [go_sem]
  have HROW := Lib.hid hrow
  have HB := Lib.hid b1
  clear hrow b1
  go_wp2
  refine bodyPost_ret (v := .agg #[.int .i64 W, .int .i64 H, .slice (some ⟨b, 0, none⟩) n n]) (by simp [results, Tryd.results45, go_sem, p0, p1, p2]) rfl ⟨b, rfl, by omega, ?_, ?_⟩
  · exact (((HROW.out.setOther (by simp; omega) _).setOther (by simp; omega) _).setOther (by simp; omega) _).setOther (by simp; omega) _
  · exact (((((((Below.refl _ _).alloc (Nat.le_refl _) _).alloc (by simp) _).alloc (by simp; omega) _).trans (HB.out.mono (by simp; omega))).setCell (by simp; omega) _).setCell (by simp) _).setCell (by simp) _ |>.setCell (by simp) _

/-- what is left of 'left' behind a panel of n breaks -/
theorem szPanel_any (w : World) (W H : Int) (A : Option Addr) (n c : Nat) (l : Int) (hl : 0 ≤ l) (hl' : l ≤ 1048576) (hn : n ≤ 9223372036854775807) :
    Calls Tryd.prog 43 #[.agg #[.int .i64 W, .int .i64 H, .slice A n c], .int .i64 l] w (Gives (.int .i64 (if (n : Int) ≤ l then l - n else -1)) w) := by
  by_cases h : (n : Int) ≤ l
  · rw [if_pos h]
    go_enter Tryd.func43, Tryd.ntmps43
    go_wp2
    go_ret
    exact ⟨rfl, by go_grown⟩
  · rw [if_neg h]
    go_enter Tryd.func43, Tryd.ntmps43
    go_wp2
    go_ret
    exact ⟨rfl, by go_grown⟩

/-- two slices that hold the same -/
theorem eqInts_same (w : World) (A A' : Option Addr) (n c c' : Nat) (f : Nat → Int) (hr : Row .i64 w A n c f) (hr' : Row .i64 w A' n c' f) :
    Calls Tryd.prog 56 #[.slice A n c, .slice A' n c'] w (Drew (.bool true) w) := by
  obtain ⟨hnc, hcm, _, hcell⟩ := hr
  obtain ⟨hnc', hcm', _, hcell'⟩ := hr'
  unfold maxLen at hcm hcm'
  have hn : ((n : Int) == (n : Int)) = true := beq_self_eq_true _
  go_enter Tryd.func56, Tryd.ntmps56
  go_wp2
  go_loopw [5] (fun i wr => ∃ k m : Nat, k ≤ n ∧ i = .int .i64 k ∧ wr = w.drewN m) (fun i _ => n - (intOf i).toNat)
  case atStart => exact ⟨0, 0, Nat.zero_le _, rfl, rfl⟩
  case round =>
    obtain ⟨k, m, hk, rfl, rfl⟩ := hrel
    by_cases hlt : k < n
    · obtain ⟨b, o, rfl, hbl, hc⟩ := hcell (by omega)
      obtain ⟨b', o', rfl, hbl', hc'⟩ := hcell' (by omega)
      have hck := hc k hlt
      have hck' := hc' k hlt
      have heq : (f k == f k) = true := beq_self_eq_true _
      clear hc hc' hcell hcell'
      go_wp2
      go_quiet (fail)
      go_wp2
      go_roundw
      case rel => exact ⟨k + 1, _, by omega, by go_num, rfl⟩
      case measure => simp [intOf]; omega
    · go_wp2
      go_ret
      exact ⟨m, rfl, rfl⟩

theorem eqPanel_same (w : World) (W H : Int) (A A' : Option Addr) (n c c' : Nat) (f : Nat → Int) (hr : Row .i64 w A n c f) (hr' : Row .i64 w A' n c' f) :
    Calls Tryd.prog 48 #[.agg #[.int .i64 W, .int .i64 H, .slice A n c], .agg #[.int .i64 W, .int .i64 H, .slice A' n c']] w (Gives (.bool true) w) := by
  have HR := Lib.hid hr
  have HR' := Lib.hid hr'
  clear hr hr'
  have e1 : (W == W) = true := beq_self_eq_true _
  have e2 : (H == H) = true := beq_self_eq_true _
  go_enter Tryd.func48, Tryd.ntmps48
  go_wp2_with fail
  refine (eqInts_same _ A A' n c c' f (HR.out.below (by go_grown) (Nat.le_refl _)) (HR'.out.below (by go_grown) (Nat.le_refl _))).mono ?_
  rintro e w1 ⟨m, rfl, rfl⟩
  go_wp2
  go_ret
  exact ⟨rfl, below_drewN (by go_grown) m⟩
theorem sz_yes (w : World) (W H : Int) (A : Option Addr) (n c : Nat) (l : Int) (hl : 0 ≤ l) (hl' : l ≤ 1048576) (hn : (n : Int) ≤ l) :
    Calls Tryd.prog 43 #[.agg #[.int .i64 W, .int .i64 H, .slice A n c], .int .i64 l] w (Gives (.int .i64 (l - n)) w) := by
  have h := szPanel_any w W H A n c l hl hl' (by omega)
  rwa [if_pos hn] at h
theorem sz_no (w : World) (W H : Int) (A : Option Addr) (n c : Nat) (l : Int) (hl : 0 ≤ l) (hl' : l ≤ 1048576) (hn : n ≤ 9223372036854775807) (h' : l < (n : Int)) :
    Calls Tryd.prog 43 #[.agg #[.int .i64 W, .int .i64 H, .slice A n c], .int .i64 l] w (Gives (.int .i64 (-1)) w) := by
  have h := szPanel_any w W H A n c l hl hl' hn
  rwa [if_neg (by omega)] at h

theorem Box.below {w w' : World} {p B : Nat} {W H : Int} {A : Option Addr} {n c : Nat} (h : Box w p W H A n c) (hb : Below B w w') (hB : p < B) : Box w' p W H A n c :=
  ⟨Nat.lt_of_lt_of_le h.1 hb.size, (hb.cell (p := ⟨p, 0, none⟩) hB).trans h.2.1, (hb.cell (p := ⟨p, 1, none⟩) hB).trans h.2.2.1, (hb.cell (p := ⟨p, 2, none⟩) hB).trans h.2.2.2⟩
theorem Box.new (w : World) (t : TypeId) (W H : Int) (A : Option Addr) (n c : Nat) : Box (w.alloc (.cells #[.int .i64 W, .int .i64 H, .slice A n c] t)) w.heap.size W H A n c :=
  ⟨by simp, by simp [go_sem], by simp [go_sem], by simp [go_sem]⟩
/-- two boxes and what lies below: what go_region_held3 keeps -/
theorem keep6 {w w1 w2 : World} {p q r p' q' r' : Addr} {u v x u' v' x' : Value} (h : w1.cell? p = some u ∧ w1.cell? q = some v ∧ w1.cell? r = some x ∧ w1.cell? p' = some u' ∧ w1.cell? q' = some v' ∧ w1.cell? r' = some x' ∧ Below w.heap.size w w1)
    (b : Below w1.heap.size w1 w2) :
    w2.cell? p = some u ∧ w2.cell? q = some v ∧ w2.cell? r = some x ∧ w2.cell? p' = some u' ∧ w2.cell? q' = some v' ∧ w2.cell? r' = some x' ∧ Below w.heap.size w w2 :=
  ⟨(b.cell (World.block_lt_of_cell? _ _ h.1)).trans h.1, (b.cell (World.block_lt_of_cell? _ _ h.2.1)).trans h.2.1, (b.cell (World.block_lt_of_cell? _ _ h.2.2.1)).trans h.2.2.1,
    (b.cell (World.block_lt_of_cell? _ _ h.2.2.2.1)).trans h.2.2.2.1, (b.cell (World.block_lt_of_cell? _ _ h.2.2.2.2.1)).trans h.2.2.2.2.1, (b.cell (World.block_lt_of_cell? _ _ h.2.2.2.2.2.1)).trans h.2.2.2.2.2.1,
    h.2.2.2.2.2.2.trans (b.mono h.2.2.2.2.2.2.size)⟩
theorem row_keep6 {k : IntKind} {A : Option Addr} {n c : Nat} {f : Nat → Int} {w w1 : World} {p q r p' q' r' : Addr} {u v x u' v' x' : Value} (h : w1.cell? p = some u ∧ w1.cell? q = some v ∧ w1.cell? r = some x ∧ w1.cell? p' = some u' ∧ w1.cell? q' = some v' ∧ w1.cell? r' = some x' ∧ Below w.heap.size w w1)
    (R : Row k w A n c f) : Row k w1 A n c f := R.below h.2.2.2.2.2.2 (Nat.le_refl _)
theorem keep6d {w w1 : World} {p q : Nat} {W H W' H' : Int} {A A' : Option Addr} {n c n' c' : Nat} (h : Box w1 p W H A n c) (h' : Box w1 q W' H' A' n' c') (b : Below w.heap.size w w1) :
    w1.drew.cell? ⟨p, 0, none⟩ = some (.int .i64 W) ∧ w1.drew.cell? ⟨p, 1, none⟩ = some (.int .i64 H) ∧ w1.drew.cell? ⟨p, 2, none⟩ = some (.slice A n c) ∧
    w1.drew.cell? ⟨q, 0, none⟩ = some (.int .i64 W') ∧ w1.drew.cell? ⟨q, 1, none⟩ = some (.int .i64 H') ∧ w1.drew.cell? ⟨q, 2, none⟩ = some (.slice A' n' c') ∧ Below w.heap.size w w1.drew :=
  ⟨h.2.1, h.2.2.1, h.2.2.2, h'.2.1, h'.2.2.1, h'.2.2.2, b.drew⟩
end Go.Proofs.YtfkodbpkfoecoaaDoor.Base
