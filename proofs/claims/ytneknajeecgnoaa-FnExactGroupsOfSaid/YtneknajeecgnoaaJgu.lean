/-
  JoinGroups of the model, whole.
-/
import Derived.Test.YtneknajeecgnoaaJgt
import Derived.Test.YtneknajeecgnoaaUdk
namespace Go.Proofs.Ytneknajeecgnoaa.Base
open Go Go.RowKit
set_option linter.unusedVariables false
set_option linter.unusedSimpArgs false

/-- the code of JoinGroups -/
noncomputable def jgC (n : Nat) (f : Nat → Int) (m : Nat) (g : Nat → Int) (a b : Int) : Int := if goC n f m g (inB a 0 ((n : Int) - 1)) = 0 then goC n f m g (inB b 0 ((n : Int) - 1)) else goC n f m g (inB a 0 ((n : Int) - 1))
theorem ownRow_any {w : World} {base n c : Nat} {f : Nat → Int} {A : Option Addr} {e : TypeId} (h : w.ownsRow base e 1 (.slice A n c) n (cellsOfF n f)) (hw : ∀ i, i < n → (Lit.int .i64 (f i)).wf = true) : OwnRow w base A n c f := by
  by_cases hn : 0 < n
  · obtain ⟨A', c', e1, h1⟩ := ownRow_of_owns h hn hw
    injection e1 with e1 e2 e3
    subst e1 e3
    exact h1
  · obtain rfl : n = 0 := by omega
    refine ownRow_zero ?_
    rcases h.2 with ⟨e1, -⟩ | ⟨g, cap, cur, e1, -, -, -, hm, -⟩
    · injection e1 with _ _ e3
      rw [e3]
      exact Nat.zero_le _
    · injection e1 with _ _ e3
      rw [e3]
      exact hm
theorem jcase_wf {n m m0 x y : Nat} {f g f0 g0 : Nat → Int} (hc : JCase f m g x y f0 m0 g0) (hx : x < 1000000) (hy : y < 1000000) (hf : ∀ i, i < n → (Lit.int .i64 (f i)).wf = true) (hg : ∀ i, i < m → (Lit.int .i64 (g i)).wf = true) :
    (∀ i, i < n → (Lit.int .i64 (f0 i)).wf = true) ∧ (∀ i, i < m0 → (Lit.int .i64 (g0 i)).wf = true) := by
  rcases hc with ⟨-, rfl, rfl, rfl⟩ | ⟨-, rfl, rfl, rfl⟩
  · exact ⟨hf, hg⟩
  · refine ⟨fun i hi => ?_, fun i hi => ?_⟩
    · unfold putF
      split
      · exact WalkArith.wf_i64 (by omega)
      · exact hf i hi
    · unfold putF
      split
      · exact WalkArith.wf_i64 (by omega)
      · exact hg i (by omega)
theorem jgC_ok {n m : Nat} {f g : Nat → Int} {a b : Int} (h : jgC n f m g a b = 0) : vjB n f m g = true ∧ inB a 0 ((n : Int) - 1) = true ∧ inB b 0 ((n : Int) - 1) = true := by
  unfold jgC goC at h
  cases hv : vjB n f m g <;> cases ha : inB a 0 ((n : Int) - 1) <;> cases hb : inB b 0 ((n : Int) - 1) <;> simp [hv, ha, hb] at h ⊢
end Go.Proofs.Ytneknajeecgnoaa.Base
