/-
  CountGroups, the model's and the program's.
-/
import Derived.Test.YtpkajonnopmciaaVj
namespace Go.Proofs.Ytpkajonnopmciaa.Base
open Go Go.RowKit
set_option linter.unusedVariables false
set_option linter.unusedSimpArgs false
noncomputable def cgN (n : Nat) (f : Nat → Int) (m : Nat) (g : Nat → Int) : Int := if vjB n f m g then (n : Int) - m else 0
noncomputable def cgC (n : Nat) (f : Nat → Int) (m : Nat) (g : Nat → Int) : Int := if vjB n f m g then 0 else 1
theorem cg_no {n : Nat} {f : Nat → Int} {m : Nat} {g : Nat → Int} (h : vjB n f m g = false) : cgN n f m g = 0 ∧ cgC n f m g = 1 := by simp [cgN, cgC, h]
theorem cg_yes {n : Nat} {f : Nat → Int} {m : Nat} {g : Nat → Int} (h : vjB n f m g = true) : cgN n f m g = n - m ∧ cgC n f m g = 0 := by simp [cgN, cgC, h]
theorem okJ_is {w : World} {p : Nat} {A : Option Addr} {n c : Nat} {f : Nat → Int} {B : Option Addr} {m d : Nat} {g : Nat → Int} {v : Bool} (h : vjB n f m g = v) (hb : Cel w p [.slice A n c, .slice B m d]) (hr : Row .i64 w A n c f) (hr' : Row .i64 w B m d g) :
    Calls Try.prog 93 #[.pointer (some ⟨p, 0, none⟩)] w (Gives (.bool v) w) := by rw [← h]; exact spec_okJ w p A n c f B m d g hb hr hr'
theorem vldJ_is {w : World} {A : Option Addr} {n c : Nat} {f : Nat → Int} {B : Option Addr} {m d : Nat} {g : Nat → Int} {v : Bool} (h : vjB n f m g = v) (hr : Row .i64 w A n c f) (hr' : Row .i64 w B m d g) :
    Calls Try.prog 94 #[.agg #[.slice A n c, .slice B m d]] w (Gives (.bool v) w) := by rw [← h]; exact impl_validJoined w A n c f B m d g hr hr'
end Go.Proofs.Ytpkajonnopmciaa.Base
