/-
  The laws' own helpers for columns: equality, marks, copies.
-/
import Derived.Test.YtpkajonnopmciaaCol
namespace Go.Proofs.Ytpkajonnopmciaa.Base
open Go Go.RowKit
set_option linter.unusedVariables false
set_option linter.unusedSimpArgs false
theorem eqC_same (w : World) (z : Int) (A A' : Option Addr) (n c c' : Nat) (f : Nat → Int) (hr : Row .i64 w A n c f) (hr' : Row .i64 w A' n c' f) :
    Calls Try.prog 21 #[.agg #[.slice A n c, .int .i64 z], .agg #[.slice A' n c', .int .i64 z]] w (Gives (.bool true) w) := by
  have HR := Lib.hid hr
  have HR' := Lib.hid hr'
  clear hr hr'
  have e1 : (z == z) = true := beq_self_eq_true _
  have A1 := (Below.refl w.heap.size w).alloc (Nat.le_refl _) (.cells #[.slice A n c, .int .i64 z] 30)
  have HL := Lib.hid (A1.alloc A1.size (.cells #[.slice A' n c', .int .i64 z] 30))
  have hx := (Cel.new w [.slice A n c, .int .i64 z] 30).below ((Below.refl _ _).alloc (Nat.le_refl _) (.cells #[.slice A' n c', .int .i64 z] 30)) (by simp)
  have hy := Cel.new (w.alloc (.cells #[.slice A n c, .int .i64 z] 30)) [.slice A' n c', .int .i64 z] 30
  rw [World.size_alloc] at hy
  have HX := Lib.hid hx
  have HY := Lib.hid hy
  clear A1 hx hy
  go_enter Try.func21, Try.ntmps21
  go_wp2_with fail
  refine (eqInts_same _ A A' n c c' f (HR.out.below HL.out (Nat.le_refl _)) (HR'.out.below HL.out (Nat.le_refl _))).mono ?_
  rintro e w1 ⟨m, rfl, rfl⟩
  have HB := Lib.hid (below_drewN HL.out m)
  have HX1 := Lib.hid (HX.out.below (below_drewN (Below.refl ((w.alloc (.cells #[.slice A n c, .int .i64 z] 30)).alloc (.cells #[.slice A' n c', .int .i64 z] 30)).heap.size _) m) HX.out.1)
  have HY1 := Lib.hid (HY.out.below (below_drewN (Below.refl ((w.alloc (.cells #[.slice A n c, .int .i64 z] 30)).alloc (.cells #[.slice A' n c', .int .i64 z] 30)).heap.size _) m) HY.out.1)
  have xz := HX1.out.1
  have yz := HY1.out.1
  have x1 := HX1.out.2 1 _ rfl
  have y1 := HY1.out.2 1 _ rfl
  generalize ((w.alloc (.cells #[.slice A n c, .int .i64 z] 30)).alloc (.cells #[.slice A' n c', .int .i64 z] 30)).drewN m = w2 at *
  go_wp2
  go_ret
  exact ⟨rfl, HB.out⟩
theorem markC_any (w : World) (base : Nat) (z : Int) (A : Option Addr) (n c : Nat) (f : Nat → Int) (k : Int) (hr : OwnRow w base A n c f) (k0 : 0 ≤ k) (k1 : k + n ≤ 9223372036854775807) :
    Calls Try.prog 24 #[.agg #[.slice A n c, .int .i64 z], .int .i64 k] w (Marked base A n c k w) := by
  have HR := Lib.hid hr
  clear hr
  go_enter Try.func24, Try.ntmps24
  go_wp2_with fail
  refine (mark_any _ base A n c f k (HR.out.below ((Below.refl _ _).alloc (Nat.le_refl _) _) (Nat.le_refl _)) k0 k1).mono ?_
  rintro e w1 ⟨rfl, hr1, r, hg1, hrr⟩
  go_wp2
  go_ret
  exact ⟨rfl, hr1, r, grown_trans (World.grownBy_alloc w _ _) hg1, hrr⟩
theorem heldC_any (w : World) (z : Int) (A : Option Addr) (n c : Nat) (k : Int) (hr : Row .i64 w A n c (fun i => k + i)) (k0 : 0 ≤ k) (k1 : k + n ≤ 9223372036854775807) :
    Calls Try.prog 25 #[.agg #[.slice A n c, .int .i64 z], .int .i64 k] w (Gives (.int .i64 (k + n)) w) := by
  have HR := Lib.hid hr
  clear hr
  go_enter Try.func25, Try.ntmps25
  go_wp2_with fail
  refine (held_any _ A n c k (HR.out.below ((Below.refl _ _).alloc (Nat.le_refl _) _) (Nat.le_refl _)) k0 k1).mono ?_
  rintro e w1 ⟨rfl, rfl⟩
  go_wp2
  go_ret
  exact ⟨rfl, by go_grown⟩
end Go.Proofs.Ytpkajonnopmciaa.Base
