/-
  Symmetries as numbers: composed, inverted.
-/
import Derived.Test.YtdofeonkgaceeaaDoorPan
namespace Go.Proofs.YtdofeonkgaceeaaDoor.Base
open Go.RowKit
set_option linter.unusedVariables false
set_option linter.unusedSimpArgs false

def exN (a : Nat) : Nat := 4 * (a / 4) + 2 * (a % 2) + a / 2 % 2
def cmN (a b : Nat) : Nat := if 4 ≤ b then exN a ^^^ b else a ^^^ b
def ivN (a : Nat) : Nat := if 4 ≤ a then exN a else a
def cmV (a b : Int) : Int := if inB a 0 7 && inB b 0 7 then ((cmN a.toNat b.toNat : Nat) : Int) else 0
def cmC (a b : Int) : Int := if inB a 0 7 && inB b 0 7 then 0 else 2
def ivV (s : Int) : Int := if inB s 0 7 then ((ivN s.toNat : Nat) : Int) else 0
def ivC (s : Int) : Int := if inB s 0 7 then 0 else 2
theorem eight {s : Int} (h : inB s 0 7 = true) : s = 0 ∨ s = 1 ∨ s = 2 ∨ s = 3 ∨ s = 4 ∨ s = 5 ∨ s = 6 ∨ s = 7 := by
  have := in_yes h
  omega
theorem spec_sym {s : Int} {v : Bool} (h : inB s 0 7 = v) (w : World) : Calls Tryd.prog 90 #[.int .i64 s] w fun e w' => e = .returned (.bool v) ∧ w = w' := by
  go_enter Tryd.func90, Tryd.ntmps90
  go_wp2_with (go_at_call 98; refine (in_is h _).mono ?_; rintro e w' ⟨rfl, rfl⟩)
  go_ret
  exact ⟨rfl, rfl⟩
theorem impl_sym {s : Int} {v : Bool} (h : inB s 0 7 = v) (w : World) : Calls Tryd.prog 87 #[.int .i64 s] w fun e w' => e = .returned (.bool v) ∧ w = w' := by
  cases v
  · have h' := in_no h
    by_cases h0 : 0 ≤ s
    · have h7 : ¬ s < 8 := by omega
      clear h h'
      go_enter Tryd.func87, Tryd.ntmps87
      go_wp2
      go_ret
      exact ⟨rfl, rfl⟩
    · clear h h'
      go_enter Tryd.func87, Tryd.ntmps87
      go_wp2
      go_ret
      exact ⟨rfl, rfl⟩
  · obtain ⟨h0, h7⟩ := in_yes h
    have hd : decide (s < 8) = true := decide_eq_true (by omega)
    clear h
    go_enter Tryd.func87, Tryd.ntmps87
    go_wp2
    go_ret
    exact ⟨rfl, rfl⟩
theorem impl_exch {s : Int} (h : inB s 0 7 = true) (w : World) : Calls Tryd.prog 88 #[.int .i64 s] w fun e w' => e = .returned (.bool (decide (4 ≤ s))) ∧ w = w' := by
  rcases eight h with rfl | rfl | rfl | rfl | rfl | rfl | rfl | rfl
  all_goals
    clear h
    go_enter Tryd.func88, Tryd.ntmps88
    go_wp2
    go_ret
    exact ⟨by kernel_rfl, rfl⟩
theorem impl_exSym {a : Int} (h : inB a 0 7 = true) (w : World) : Calls Tryd.prog 89 #[.int .i64 a] w fun e w' => e = .returned (.int .i64 ((exN a.toNat : Nat) : Int)) ∧ w = w' := by
  rcases eight h with rfl | rfl | rfl | rfl | rfl | rfl | rfl | rfl
  all_goals
    clear h
    go_enter Tryd.func89, Tryd.ntmps89
    go_wp2
    go_ret
    exact ⟨by kernel_rfl, rfl⟩
set_option maxHeartbeats 8000000 in
theorem impl_ComposeSyms_ok {a b : Int} (ha : inB a 0 7 = true) (hb : inB b 0 7 = true) (w : World) : Calls Tryd.prog 47 #[.int .i64 a, .int .i64 b] w fun e w' => e = .returned (.tuple #[.int .i64 (cmV a b), .int .i64 0]) ∧ w = w' := by
  rcases eight ha with rfl | rfl | rfl | rfl | rfl | rfl | rfl | rfl <;> rcases eight hb with rfl | rfl | rfl | rfl | rfl | rfl | rfl | rfl
  all_goals
    go_enter Tryd.func47, Tryd.ntmps47
    go_wp2_with fail
    refine (impl_sym ha _).mono ?_
    rintro e w' ⟨rfl, rfl⟩
    go_wp2_with fail
    refine (impl_sym hb _).mono ?_
    rintro e w' ⟨rfl, rfl⟩
    go_wp2_with fail
    refine (impl_exch hb _).mono ?_
    rintro e w' ⟨rfl, rfl⟩
    go_wp2_with (go_at_call 89; refine (impl_exSym ha _).mono ?_; rintro e w' ⟨rfl, rfl⟩)
    go_ret2
    exact ⟨by kernel_rfl, rfl⟩
theorem impl_ComposeSyms (a b : Int) (w : World) : Calls Tryd.prog 47 #[.int .i64 a, .int .i64 b] w fun e w' => e = .returned (.tuple #[.int .i64 (cmV a b), .int .i64 (cmC a b)]) ∧ w = w' := by
  cases ha : inB a 0 7
  · have e1 : cmV a b = 0 := by simp [cmV, ha]
    have e2 : cmC a b = 2 := by simp [cmC, ha]
    rw [e1, e2]
    go_enter Tryd.func47, Tryd.ntmps47
    go_wp2_with (first | (go_at_call 87; refine (impl_sym ha _).mono ?_; rintro e w' ⟨rfl, rfl⟩))
    go_ret2
    exact ⟨rfl, rfl⟩
  · cases hb : inB b 0 7
    · have e1 : cmV a b = 0 := by simp [cmV, hb]
      have e2 : cmC a b = 2 := by simp [cmC, hb]
      rw [e1, e2]
      go_enter Tryd.func47, Tryd.ntmps47
      go_wp2_with fail
      refine (impl_sym ha _).mono ?_
      rintro e w' ⟨rfl, rfl⟩
      go_wp2_with fail
      refine (impl_sym hb _).mono ?_
      rintro e w' ⟨rfl, rfl⟩
      go_wp2_with fail
      go_ret2
      exact ⟨rfl, rfl⟩
    · have e2 : cmC a b = 0 := by simp [cmC, ha, hb]
      rw [e2]
      exact impl_ComposeSyms_ok ha hb w
end Go.Proofs.YtdofeonkgaceeaaDoor.Base
