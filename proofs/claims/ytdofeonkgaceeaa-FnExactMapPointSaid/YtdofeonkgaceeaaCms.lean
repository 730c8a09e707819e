/-
  Symmetries as numbers: composed, inverted.
-/
import Derived.Test.YtdofeonkgaceeaaPan
namespace Go.Proofs.Ytdofeonkgaceeaa.Base
open Go.RowKit
set_option linter.unusedVariables false
set_option linter.unusedSimpArgs false

def exN (a : Nat) : Nat := 4 * (a / 4) + 2 * (a % 2) + a / 2 % 2
def cmN (a b : Nat) : Nat := if 4 ≤ b then exN a ^^^ b else a ^^^ b
def ivN (a : Nat) : Nat := if 4 ≤ a then exN a else a
def cmV (a b : Int) : Int := if inB a 0 7 && inB b 0 7 then ((cmN a.toNat b.toNat : Nat) : Int) else 0
def cmC (a b : Int) : Int := if inB a 0 7 && inB b 0 7 then 0 else 2
def ivV (s : Int) : Int := if inB s 0 7 then ((ivN s.toNat : Nat) : Int) else 0
def ivC (s : Int) : Int := if inB s 0 7 then 0 else 2
theorem eight {s : Int} (h : inB s 0 7 = true) : s = 0 ∨ s = 1 ∨ s = 2 ∨ s = 3 ∨ s = 4 ∨ s = 5 ∨ s = 6 ∨ s = 7 := by
  have := in_yes h
  omega
theorem spec_sym {s : Int} {v : Bool} (h : inB s 0 7 = v) (w : World) : Calls Try.prog 20 #[.int .i64 s] w fun e w' => e = .returned (.bool v) ∧ w = w' := by
  go_enter Try.func20, Try.ntmps20
  go_wp2_with (go_at_call 38; refine (in_is h _).mono ?_; rintro e w' ⟨rfl, rfl⟩)
  go_ret
  exact ⟨rfl, rfl⟩
theorem impl_sym {s : Int} {v : Bool} (h : inB s 0 7 = v) (w : World) : Calls Try.prog 22 #[.int .i64 s] w fun e w' => e = .returned (.bool v) ∧ w = w' := by
  cases v
  · have h' := in_no h
    by_cases h0 : 0 ≤ s
    · have h7 : ¬ s < 8 := by omega
      clear h h'
      go_enter Try.func22, Try.ntmps22
      go_wp2
      go_ret
      exact ⟨rfl, rfl⟩
    · clear h h'
      go_enter Try.func22, Try.ntmps22
      go_wp2
      go_ret
      exact ⟨rfl, rfl⟩
  · obtain ⟨h0, h7⟩ := in_yes h
    have hd : decide (s < 8) = true := decide_eq_true (by omega)
    clear h
    go_enter Try.func22, Try.ntmps22
    go_wp2
    go_ret
    exact ⟨rfl, rfl⟩
theorem impl_exch {s : Int} (h : inB s 0 7 = true) (w : World) : Calls Try.prog 23 #[.int .i64 s] w fun e w' => e = .returned (.bool (decide (4 ≤ s))) ∧ w = w' := by
  rcases eight h with rfl | rfl | rfl | rfl | rfl | rfl | rfl | rfl
  all_goals
    clear h
    go_enter Try.func23, Try.ntmps23
    go_wp2
    go_ret
    exact ⟨by kernel_rfl, rfl⟩
set_option maxHeartbeats 8000000 in
theorem spec_compose {a b : Int} (ha : inB a 0 7 = true) (hb : inB b 0 7 = true) (w : World) : Calls Try.prog 21 #[.int .i64 a, .int .i64 b] w fun e w' => e = .returned (.int .i64 (cmV a b)) ∧ w = w' := by
  rcases eight ha with rfl | rfl | rfl | rfl | rfl | rfl | rfl | rfl <;> rcases eight hb with rfl | rfl | rfl | rfl | rfl | rfl | rfl | rfl
  all_goals
    clear ha hb
    go_enter Try.func21, Try.ntmps21
    go_wp2
    go_ret
    exact ⟨by kernel_rfl, rfl⟩
theorem spec_ComposeSyms (a b : Int) (w : World) : Calls Try.prog 7 #[.int .i64 a, .int .i64 b] w fun e w' => e = .returned (.tuple #[.int .i64 (cmV a b), .int .i64 (cmC a b)]) ∧ w = w' := by
  cases ha : inB a 0 7
  · have e1 : cmV a b = 0 := by simp [cmV, ha]
    have e2 : cmC a b = 2 := by simp [cmC, ha]
    rw [e1, e2]
    go_enter Try.func7, Try.ntmps7
    go_wp2_with (first | (go_at_call 20; refine (spec_sym ha _).mono ?_; rintro e w' ⟨rfl, rfl⟩))
    go_ret2
    exact ⟨rfl, rfl⟩
  · cases hb : inB b 0 7
    · have e1 : cmV a b = 0 := by simp [cmV, hb]
      have e2 : cmC a b = 2 := by simp [cmC, hb]
      rw [e1, e2]
      go_enter Try.func7, Try.ntmps7
      go_wp2_with fail
      refine (spec_sym ha _).mono ?_
      rintro e w' ⟨rfl, rfl⟩
      go_wp2_with fail
      refine (spec_sym hb _).mono ?_
      rintro e w' ⟨rfl, rfl⟩
      go_wp2_with fail
      go_ret2
      exact ⟨rfl, rfl⟩
    · have e2 : cmC a b = 0 := by simp [cmC, ha, hb]
      rw [e2]
      go_enter Try.func7, Try.ntmps7
      go_wp2_with fail
      refine (spec_sym ha _).mono ?_
      rintro e w' ⟨rfl, rfl⟩
      go_wp2_with fail
      refine (spec_sym hb _).mono ?_
      rintro e w' ⟨rfl, rfl⟩
      go_wp2_with fail
      refine (spec_compose ha hb _).mono ?_
      rintro e w' ⟨rfl, rfl⟩
      go_wp2_with fail
      go_ret2
      exact ⟨rfl, rfl⟩
theorem impl_exSym {a : Int} (h : inB a 0 7 = true) (w : World) : Calls Try.prog 24 #[.int .i64 a] w fun e w' => e = .returned (.int .i64 ((exN a.toNat : Nat) : Int)) ∧ w = w' := by
  rcases eight h with rfl | rfl | rfl | rfl | rfl | rfl | rfl | rfl
  all_goals
    clear h
    go_enter Try.func24, Try.ntmps24
    go_wp2
    go_ret
    exact ⟨by kernel_rfl, rfl⟩
set_option maxHeartbeats 8000000 in
theorem impl_ComposeSyms_ok {a b : Int} (ha : inB a 0 7 = true) (hb : inB b 0 7 = true) (w : World) : Calls Try.prog 8 #[.int .i64 a, .int .i64 b] w fun e w' => e = .returned (.tuple #[.int .i64 (cmV a b), .int .i64 0]) ∧ w = w' := by
  rcases eight ha with rfl | rfl | rfl | rfl | rfl | rfl | rfl | rfl <;> rcases eight hb with rfl | rfl | rfl | rfl | rfl | rfl | rfl | rfl
  all_goals
    go_enter Try.func8, Try.ntmps8
    go_wp2_with fail
    refine (impl_sym ha _).mono ?_
    rintro e w' ⟨rfl, rfl⟩
    go_wp2_with fail
    refine (impl_sym hb _).mono ?_
    rintro e w' ⟨rfl, rfl⟩
    go_wp2_with fail
    refine (impl_exch hb _).mono ?_
    rintro e w' ⟨rfl, rfl⟩
    go_wp2_with (go_at_call 24; refine (impl_exSym ha _).mono ?_; rintro e w' ⟨rfl, rfl⟩)
    go_ret2
    exact ⟨by kernel_rfl, rfl⟩
theorem impl_ComposeSyms (a b : Int) (w : World) : Calls Try.prog 8 #[.int .i64 a, .int .i64 b] w fun e w' => e = .returned (.tuple #[.int .i64 (cmV a b), .int .i64 (cmC a b)]) ∧ w = w' := by
  cases ha : inB a 0 7
  · have e1 : cmV a b = 0 := by simp [cmV, ha]
    have e2 : cmC a b = 2 := by simp [cmC, ha]
    rw [e1, e2]
    go_enter Try.func8, Try.ntmps8
    go_wp2_with (first | (go_at_call 22; refine (impl_sym ha _).mono ?_; rintro e w' ⟨rfl, rfl⟩))
    go_ret2
    exact ⟨rfl, rfl⟩
  · cases hb : inB b 0 7
    · have e1 : cmV a b = 0 := by simp [cmV, hb]
      have e2 : cmC a b = 2 := by simp [cmC, hb]
      rw [e1, e2]
      go_enter Try.func8, Try.ntmps8
      go_wp2_with fail
      refine (impl_sym ha _).mono ?_
      rintro e w' ⟨rfl, rfl⟩
      go_wp2_with fail
      refine (impl_sym hb _).mono ?_
      rintro e w' ⟨rfl, rfl⟩
      go_wp2_with fail
      go_ret2
      exact ⟨rfl, rfl⟩
    · have e2 : cmC a b = 0 := by simp [cmC, ha, hb]
      rw [e2]
      exact impl_ComposeSyms_ok ha hb w
theorem spec_inv {a : Int} (h : inB a 0 7 = true) (w : World) : Calls Try.prog 25 #[.int .i64 a] w fun e w' => e = .returned (.int .i64 (ivV a)) ∧ w = w' := by
  rcases eight h with rfl | rfl | rfl | rfl | rfl | rfl | rfl | rfl
  all_goals
    clear h
    go_enter Try.func25, Try.ntmps25
    go_wp2
    go_ret
    exact ⟨by kernel_rfl, rfl⟩
theorem spec_InverseSym (a : Int) (w : World) : Calls Try.prog 9 #[.int .i64 a] w fun e w' => e = .returned (.tuple #[.int .i64 (ivV a), .int .i64 (ivC a)]) ∧ w = w' := by
  cases ha : inB a 0 7
  · have e1 : ivV a = 0 := by simp [ivV, ha]
    have e2 : ivC a = 2 := by simp [ivC, ha]
    rw [e1, e2]
    go_enter Try.func9, Try.ntmps9
    go_wp2_with fail
    refine (spec_sym ha _).mono ?_
    rintro e w' ⟨rfl, rfl⟩
    go_wp2_with fail
    go_ret2
    exact ⟨rfl, rfl⟩
  · have e2 : ivC a = 0 := by simp [ivC, ha]
    rw [e2]
    go_enter Try.func9, Try.ntmps9
    go_wp2_with fail
    refine (spec_sym ha _).mono ?_
    rintro e w' ⟨rfl, rfl⟩
    go_wp2_with fail
    refine (spec_inv ha _).mono ?_
    rintro e w' ⟨rfl, rfl⟩
    go_wp2_with fail
    go_ret2
    exact ⟨rfl, rfl⟩
theorem impl_InverseSym (a : Int) (w : World) : Calls Try.prog 10 #[.int .i64 a] w fun e w' => e = .returned (.tuple #[.int .i64 (ivV a), .int .i64 (ivC a)]) ∧ w = w' := by
  cases ha : inB a 0 7
  · have e1 : ivV a = 0 := by simp [ivV, ha]
    have e2 : ivC a = 2 := by simp [ivC, ha]
    rw [e1, e2]
    go_enter Try.func10, Try.ntmps10
    go_wp2_with fail
    refine (impl_sym ha _).mono ?_
    rintro e w' ⟨rfl, rfl⟩
    go_wp2_with fail
    go_ret2
    exact ⟨rfl, rfl⟩
  · have e2 : ivC a = 0 := by simp [ivC, ha]
    rw [e2]
    rcases eight ha with rfl | rfl | rfl | rfl | rfl | rfl | rfl | rfl
    all_goals
      go_enter Try.func10, Try.ntmps10
      go_wp2_with fail
      refine (impl_sym ha _).mono ?_
      rintro e w' ⟨rfl, rfl⟩
      go_wp2_with fail
      refine (impl_exch ha _).mono ?_
      rintro e w' ⟨rfl, rfl⟩
      go_wp2_with (go_at_call 24; refine (impl_exSym ha _).mono ?_; rintro e w' ⟨rfl, rfl⟩)
      go_ret2
      exact ⟨by kernel_rfl, rfl⟩
end Go.Proofs.Ytdofeonkgaceeaa.Base
