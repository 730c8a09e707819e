/-
  SameJoined, the model's and the program's.
-/
import Derived.Test.YtneknajeecgnoaaSame
import Derived.Test.YtneknajeecgnoaaShape
namespace Go.Proofs.Ytneknajeecgnoaa.Base
open Go Go.RowKit
set_option linter.unusedVariables false
set_option linter.unusedSimpArgs false
def sjB (n : Nat) (f : Nat → Int) (m : Nat) (g : Nat → Int) (n' : Nat) (f' : Nat → Int) (m' : Nat) (g' : Nat → Int) : Bool := eqRows n f n' f' && eqRows m g m' g'
theorem srows_is {w : World} {A A' : Option Addr} {n n' c c' : Nat} {f f' : Nat → Int} {v : Bool} (h : eqRows n f n' f' = v) (hr : Row .i64 w A n c f) (hr' : Row .i64 w A' n' c' f') :
    Calls Try.prog 64 #[.slice A n c, .slice A' n' c'] w (Drew (.bool v) w) := by rw [← h]; exact specSameRows w A A' n n' c c' f f' hr hr'
theorem spec_sameJoined (w : World) (A : Option Addr) (n c : Nat) (f : Nat → Int) (B : Option Addr) (m d : Nat) (g : Nat → Int) (A' : Option Addr) (n' c' : Nat) (f' : Nat → Int) (B' : Option Addr) (m' d' : Nat) (g' : Nat → Int)
    (hr : Row .i64 w A n c f) (hs : Row .i64 w B m d g) (hr' : Row .i64 w A' n' c' f') (hs' : Row .i64 w B' m' d' g') :
    Calls Try.prog 20 #[.agg #[.slice A n c, .slice B m d], .agg #[.slice A' n' c', .slice B' m' d']] w (Gives (.bool (sjB n f m g n' f' m' g')) w) := by
  have HR := Lib.hid hr
  have HR' := Lib.hid hr'
  have HS := Lib.hid hs
  have HS' := Lib.hid hs'
  have HL := Lib.hid (((Below.refl w.heap.size w).alloc (Nat.le_refl _) (.cells #[.slice A n c, .slice B m d] 26)).alloc (by simp) (.cells #[.slice A' n' c', .slice B' m' d'] 26))
  clear hr hr' hs hs'
  cases h1 : eqRows n f n' f'
  · rw [show sjB n f m g n' f' m' g' = false by simp [sjB, h1]]
    have H1 := Lib.hid h1
    clear h1
    go_enter Try.func20, Try.ntmps20
    go_wp2_with fail
    refine (srows_is H1.out (HR.out.below HL.out (Nat.le_refl _)) (HR'.out.below HL.out (Nat.le_refl _))).mono ?_
    rintro e w1 ⟨k, rfl, rfl⟩
    go_wp2
    go_ret
    exact ⟨rfl, below_drewN HL.out k⟩
  · rw [show sjB n f m g n' f' m' g' = eqRows m g m' g' by simp [sjB, h1]]
    obtain ⟨v, hv⟩ : ∃ v, eqRows m g m' g' = v := ⟨_, rfl⟩
    rw [hv]
    have H1 := Lib.hid h1
    have H2 := Lib.hid hv
    clear h1 hv
    go_enter Try.func20, Try.ntmps20
    go_wp2_with fail
    refine (srows_is H1.out (HR.out.below HL.out (Nat.le_refl _)) (HR'.out.below HL.out (Nat.le_refl _))).mono ?_
    rintro e w1 ⟨k, rfl, rfl⟩
    go_wp2_with fail
    refine (srows_is H2.out (HS.out.below (below_drewN HL.out k) (Nat.le_refl _)) (HS'.out.below (below_drewN HL.out k) (Nat.le_refl _))).mono ?_
    rintro e w1 ⟨k', rfl, rfl⟩
    go_wp2
    go_ret
    exact ⟨rfl, by first | exact below_drewN HL.out (k + k') | exact below_drewN (below_drewN HL.out k) k'⟩
end Go.Proofs.Ytneknajeecgnoaa.Base
