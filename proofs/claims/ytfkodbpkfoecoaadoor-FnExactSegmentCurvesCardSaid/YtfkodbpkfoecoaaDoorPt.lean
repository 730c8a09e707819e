/-
  Points of panels: is there such a point, does it lie on the border.
-/
import Derived.Test.YtfkodbpkfoecoaaDoorPanB
import Derived.Test.YtfkodbpkfoecoaaDoorCopy
namespace Go.Proofs.YtfkodbpkfoecoaaDoor.Base
open Go.RowKit
set_option linter.unusedVariables false

def hasB (W H x y : Int) : Bool := inB x 0 (2 * W) && inB y 0 (2 * H) && decide ((x + y) % 2 = 1)
def edgeB (W H x y : Int) : Bool := decide (x = 0 ∨ y = 0 ∨ x = 2 * W ∨ y = 2 * H)
theorem in_yes {n a b : Int} (h : inB n a b = true) : a ≤ n ∧ n ≤ b := of_decide_eq_true h
theorem in_no {n a b : Int} (h : inB n a b = false) : ¬ (a ≤ n ∧ n ≤ b) := of_decide_eq_false h
theorem has_yes {W H x y : Int} (h : hasB W H x y = true) : 0 ≤ x ∧ x ≤ 2 * W ∧ 0 ≤ y ∧ y ≤ 2 * H ∧ (x + y) % 2 = 1 := by
  simp [hasB] at h
  obtain ⟨⟨h1, h2⟩, h3⟩ := h
  exact ⟨(in_yes h1).1, (in_yes h1).2, (in_yes h2).1, (in_yes h2).2, h3⟩

theorem in_is {n a b : Int} {v : Bool} (h : inB n a b = v) (w : World) : Calls Tryd.prog 96 #[.int .i64 n, .int .i64 a, .int .i64 b] w fun e w' => e = .returned (.bool v) ∧ w = w' := by
  rw [← h]; exact in_any n a b w

theorem specHas (w : World) (p : Nat) (W H : Int) (A : Option Addr) (n c : Nat) (x y : Int) (hb : Box w p W H A n c) (hW : sideB W = true) (hH : sideB H = true) :
    Calls Tryd.prog 83 #[.pointer (some ⟨p, 0, none⟩), .agg #[.int .i64 x, .int .i64 y]] w (Gives (.bool (hasB W H x y)) w) := by
  obtain ⟨hp, k0, k1, k2⟩ := hb
  obtain ⟨a1, a2⟩ := side_mk hW
  obtain ⟨b1, b2⟩ := side_mk hH
  clear hW hH
  cases hx : inB x 0 (2 * W)
  · have e : hasB W H x y = false := by simp [hasB, hx]
    rw [e]
    clear e
    go_enter Tryd.func83, Tryd.ntmps83
    go_wp2
    go_quiet ((go_at_call 96; with_reducible exact quiet_left (in_is hx _)))
    go_wp2
    go_ret
    exact ⟨rfl, below_drewN (by go_grown) _⟩
  · cases hy : inB y 0 (2 * H)
    · have e : hasB W H x y = false := by simp [hasB, hy]
      rw [e]
      clear e
      go_enter Tryd.func83, Tryd.ntmps83
      go_wp2
      go_quiet (first | (go_at_call 96; with_reducible exact quiet_left (in_is hx _)) | (go_at_call 96; with_reducible exact quiet_left (in_is hy _)))
      go_wp2
      go_ret
      exact ⟨rfl, below_drewN (by go_grown) _⟩
    · obtain ⟨x1, x2⟩ := in_yes hx
      obtain ⟨y1, y2⟩ := in_yes hy
      have hs : 0 ≤ x + y := by omega
      by_cases hm : (x + y) % 2 = 1
      · have e : hasB W H x y = true := by simp [hasB, hx, hy, hm]
        rw [e]
        have hm' : ((x + y) % 2 == 1) = true := beq_iff_eq.2 hm
        clear e hm
        go_enter Tryd.func83, Tryd.ntmps83
        go_wp2
        go_quiet (first | (go_at_call 96; with_reducible exact quiet_left (in_is hx _)) | (go_at_call 96; with_reducible exact quiet_left (in_is hy _)))
        go_wp2
        go_ret
        exact ⟨rfl, below_drewN (by go_grown) _⟩
      · have e : hasB W H x y = false := by simp [hasB, hm]
        rw [e]
        have hm' : ((x + y) % 2 == 1) = false := beq_eq_false_iff_ne.2 hm
        clear e hm
        go_enter Tryd.func83, Tryd.ntmps83
        go_wp2
        go_quiet (first | (go_at_call 96; with_reducible exact quiet_left (in_is hx _)) | (go_at_call 96; with_reducible exact quiet_left (in_is hy _)))
        go_wp2
        go_ret
        exact ⟨rfl, below_drewN (by go_grown) _⟩

theorem specEdge (w : World) (p : Nat) (W H : Int) (A : Option Addr) (n c : Nat) (x y : Int) (hb : Box w p W H A n c) (hW : sideB W = true) (hH : sideB H = true) :
    Calls Tryd.prog 84 #[.pointer (some ⟨p, 0, none⟩), .agg #[.int .i64 x, .int .i64 y]] w (Gives (.bool (edgeB W H x y)) w) := by
  obtain ⟨hp, k0, k1, k2⟩ := hb
  obtain ⟨a1, a2⟩ := side_mk hW
  obtain ⟨b1, b2⟩ := side_mk hH
  clear hW hH
  by_cases hx0 : x = 0
  · have hx0b : (x == 0) = true := beq_iff_eq.2 hx0
    have e : edgeB W H x y = true := by simp [edgeB, hx0]
    rw [e]
    clear e hx0
    go_enter Tryd.func84, Tryd.ntmps84
    go_wp2
    go_quiet (fail)
    go_wp2
    go_ret
    exact ⟨rfl, below_drewN (by go_grown) _⟩
  · have hx0b : (x == 0) = false := beq_eq_false_iff_ne.2 hx0
    by_cases hy0 : y = 0
    · have hy0b : (y == 0) = true := beq_iff_eq.2 hy0
      have e : edgeB W H x y = true := by simp [edgeB, hy0]
      rw [e]
      clear e hy0
      go_enter Tryd.func84, Tryd.ntmps84
      go_wp2
      go_quiet (fail)
      go_wp2
      go_ret
      exact ⟨rfl, below_drewN (by go_grown) _⟩
    · have hy0b : (y == 0) = false := beq_eq_false_iff_ne.2 hy0
      by_cases hxw : x = 2 * W
      · have hxwb : (x == 2 * W) = true := beq_iff_eq.2 hxw
        have e : edgeB W H x y = true := by simp [edgeB, hxw]
        rw [e]
        clear e hxw
        go_enter Tryd.func84, Tryd.ntmps84
        go_wp2
        go_quiet (fail)
        go_wp2
        go_ret
        exact ⟨rfl, below_drewN (by go_grown) _⟩
      · have hxwb : (x == 2 * W) = false := beq_eq_false_iff_ne.2 hxw
        by_cases hyh : y = 2 * H
        · have hyhb : (y == 2 * H) = true := beq_iff_eq.2 hyh
          have e : edgeB W H x y = true := by simp [edgeB, hyh]
          rw [e]
          clear e hyh
          go_enter Tryd.func84, Tryd.ntmps84
          go_wp2
          go_quiet (fail)
          go_wp2
          go_ret
          exact ⟨rfl, below_drewN (by go_grown) _⟩
        · have hyhb : (y == 2 * H) = false := beq_eq_false_iff_ne.2 hyh
          have e : edgeB W H x y = false := by simp [edgeB, hx0, hy0, hxw, hyh]
          rw [e]
          clear e hx0 hy0 hxw hyh
          go_enter Tryd.func84, Tryd.ntmps84
          go_wp2
          go_quiet (fail)
          go_wp2
          go_ret
          exact ⟨rfl, below_drewN (by go_grown) _⟩

theorem onBorder_any (w : World) (W H x y : Int) (hW : sideB W = true) (hH : sideB H = true) :
    Calls Tryd.prog 88 #[.agg #[.int .i64 W, .int .i64 H], .agg #[.int .i64 x, .int .i64 y]] w (Gives (.bool (edgeB W H x y)) w) := by
  obtain ⟨a1, a2⟩ := side_mk hW
  obtain ⟨b1, b2⟩ := side_mk hH
  clear hW hH
  by_cases hx0 : x = 0
  · have hx0b : (x == 0) = true := beq_iff_eq.2 hx0
    have e : edgeB W H x y = true := by simp [edgeB, hx0]
    rw [e]
    clear e hx0
    go_enter Tryd.func88, Tryd.ntmps88
    go_wp2
    go_ret
    exact ⟨rfl, by go_grown⟩
  · have hx0b : (x == 0) = false := beq_eq_false_iff_ne.2 hx0
    by_cases hxw : x = 2 * W
    · have hxwb : (x == 2 * W) = true := beq_iff_eq.2 hxw
      have e : edgeB W H x y = true := by simp [edgeB, hxw]
      rw [e]
      clear e hxw
      go_enter Tryd.func88, Tryd.ntmps88
      go_wp2
      go_ret
      exact ⟨rfl, by go_grown⟩
    · have hxwb : (x == 2 * W) = false := beq_eq_false_iff_ne.2 hxw
      by_cases hy0 : y = 0
      · have hy0b : (y == 0) = true := beq_iff_eq.2 hy0
        have e : edgeB W H x y = true := by simp [edgeB, hy0]
        rw [e]
        clear e hy0
        go_enter Tryd.func88, Tryd.ntmps88
        go_wp2
        go_ret
        exact ⟨rfl, by go_grown⟩
      · have hy0b : (y == 0) = false := beq_eq_false_iff_ne.2 hy0
        by_cases hyh : y = 2 * H
        · have hyhb : (y == 2 * H) = true := beq_iff_eq.2 hyh
          have e : edgeB W H x y = true := by simp [edgeB, hyh]
          rw [e]
          clear e hyh
          go_enter Tryd.func88, Tryd.ntmps88
          go_wp2
          go_ret
          exact ⟨rfl, by go_grown⟩
        · have hyhb : (y == 2 * H) = false := beq_eq_false_iff_ne.2 hyh
          have e : edgeB W H x y = false := by simp [edgeB, hx0, hy0, hxw, hyh]
          rw [e]
          clear e hx0 hy0 hxw hyh
          go_enter Tryd.func88, Tryd.ntmps88
          go_wp2
          go_ret
          exact ⟨rfl, by go_grown⟩

theorem hasPoint_any (w : World) (W H x y : Int) (hW : sideB W = true) (hH : sideB H = true) :
    Calls Tryd.prog 119 #[.agg #[.int .i64 W, .int .i64 H], .agg #[.int .i64 x, .int .i64 y]] w (Gives (.bool (hasB W H x y)) w) := by
  obtain ⟨a1, a2⟩ := side_mk hW
  obtain ⟨b1, b2⟩ := side_mk hH
  clear hW hH
  by_cases x1 : 0 ≤ x
  · by_cases x2 : x ≤ 2 * W
    · by_cases y1 : 0 ≤ y
      · by_cases y2 : y ≤ 2 * H
        · by_cases hm : (x + y) % 2 = 1
          · have e : hasB W H x y = true := by simp [hasB, inB, x1, x2, y1, y2, hm]
            rw [e]
            have hmb : ((x + y) % 2 == 1) = true := beq_iff_eq.2 hm
            clear e hm
            go_enter Tryd.func119, Tryd.ntmps119
            go_wp2
            go_ret
            exact ⟨rfl, by go_grown⟩
          · have e : hasB W H x y = false := by simp [hasB, hm]
            rw [e]
            have hmb : ((x + y) % 2 == 1) = false := beq_eq_false_iff_ne.2 hm
            clear e hm
            go_enter Tryd.func119, Tryd.ntmps119
            go_wp2
            go_ret
            exact ⟨rfl, by go_grown⟩
        · have e : hasB W H x y = false := by simp [hasB, inB, y2]
          rw [e]
          clear e
          go_enter Tryd.func119, Tryd.ntmps119
          go_wp2
          go_ret
          exact ⟨rfl, by go_grown⟩
      · have e : hasB W H x y = false := by simp [hasB, inB, y1]
        rw [e]
        clear e
        go_enter Tryd.func119, Tryd.ntmps119
        go_wp2
        go_ret
        exact ⟨rfl, by go_grown⟩
    · have e : hasB W H x y = false := by simp [hasB, inB, x2]
      rw [e]
      clear e
      go_enter Tryd.func119, Tryd.ntmps119
      go_wp2
      go_ret
      exact ⟨rfl, by go_grown⟩
  · have e : hasB W H x y = false := by simp [hasB, inB, x1]
    rw [e]
    clear e
    go_enter Tryd.func119, Tryd.ntmps119
    go_wp2
    go_ret
    exact ⟨rfl, by go_grown⟩
end Go.Proofs.YtfkodbpkfoecoaaDoor.Base
