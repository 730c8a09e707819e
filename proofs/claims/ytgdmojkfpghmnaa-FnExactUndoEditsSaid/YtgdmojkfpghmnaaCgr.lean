/-
  CountGroups, the model's and the program's.
-/
import Derived.Test.YtgdmojkfpghmnaaVj
namespace Go.Proofs.Ytgdmojkfpghmnaa.Base
open Go Go.RowKit
set_option linter.unusedVariables false
set_option linter.unusedSimpArgs false
noncomputable def cgN (n : Nat) (f : Nat → Int) (m : Nat) (g : Nat → Int) : Int := if vjB n f m g then (n : Int) - m else 0
noncomputable def cgC (n : Nat) (f : Nat → Int) (m : Nat) (g : Nat → Int) : Int := if vjB n f m g then 0 else 1
theorem cg_no {n : Nat} {f : Nat → Int} {m : Nat} {g : Nat → Int} (h : vjB n f m g = false) : cgN n f m g = 0 ∧ cgC n f m g = 1 := by simp [cgN, cgC, h]
theorem cg_yes {n : Nat} {f : Nat → Int} {m : Nat} {g : Nat → Int} (h : vjB n f m g = true) : cgN n f m g = n - m ∧ cgC n f m g = 0 := by simp [cgN, cgC, h]
end Go.Proofs.Ytgdmojkfpghmnaa.Base
