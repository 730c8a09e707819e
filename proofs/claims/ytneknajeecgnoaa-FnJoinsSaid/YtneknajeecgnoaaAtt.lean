/-
  A number that a law draws at a place of its bytes.
-/
import Derived.Test.YtneknajeecgnoaaPnt
import Derived.IntWalk
namespace Go.Proofs.Ytneknajeecgnoaa.Base
open Go Go.RowKit
set_option linter.unusedVariables false
/-- the number that the laws draw -/
def atV (n : Nat) (f : Nat → Int) (a m : Int) : Int := if a < n then f a.toNat % m else 0
theorem atV_bd {n : Nat} {f : Nat → Int} {a m : Int} (hm : 1 ≤ m) : 0 ≤ atV n f a m ∧ atV n f a m < m := by
  unfold atV
  split
  · exact ⟨Int.emod_nonneg _ (by omega), Int.emod_lt_of_pos _ (by omega)⟩
  · omega
theorem a2At_is (w : World) (A : Option Addr) (n c : Nat) (f : Nat → Int) (at' m : Int) (hr : Row .u8 w A n c f) (h0 : 0 ≤ at') (h1 : 1 ≤ m) (h2 : m ≤ 1000) (hn : n ≤ 3000) :
    Calls Try.prog 14 #[.slice A n c, .int .i64 at', .int .i64 m] w fun e w' => e = .returned (.int .i64 (atV n f at' m)) ∧ w = w' := by
  have hnc := hr.1
  have hcm := hr.2.1
  unfold maxLen at hcm
  by_cases hl : at' < n
  · obtain ⟨b, o, rfl, hb, hc⟩ := hr.2.2.2 (by omega)
    have ck := hc at'.toNat (by omega)
    obtain ⟨q1, q2⟩ := u8_bd (hr.2.2.1 at'.toNat (by omega))
    have HE := Lib.hid (show atV n f at' m = f at'.toNat % m by unfold atV; rw [if_pos hl])
    clear hc hr
    go_enter Try.func14, Try.ntmps14
    go_wp2
    go_ret
    exact ⟨ret_int HE.out.symm, rfl⟩
  · have HE := Lib.hid (show atV n f at' m = 0 by unfold atV; rw [if_neg hl])
    clear hr
    have hl' : (n : Int) ≤ at' := by omega
    go_enter Try.func14, Try.ntmps14
    go_wp2
    go_ret
    exact ⟨ret_int HE.out.symm, rfl⟩
end Go.Proofs.Ytneknajeecgnoaa.Base
