/-
  Joined elements: whether they are valid, the model's test and the program's.
-/
import Derived.Test.YtgdmojkfpghmnaaShape
import Derived.Test.YtgdmojkfpghmnaaNew
import Derived.Test.YtgdmojkfpghmnaaPan
import Derived.Test.YtgdmojkfpghmnaaMpz
import Derived.IntWalk
namespace Go.Proofs.Ytgdmojkfpghmnaa.Base
open Go Go.RowKit
set_option linter.unusedVariables false
set_option linter.unusedSimpArgs false

/-- x is one of the first k of the log -/
def lgB (g : Nat → Int) (k : Nat) (x : Int) : Bool := (List.range k).any fun i => g i == x
theorem lg_zero (g : Nat → Int) (x : Int) : lgB g 0 x = false := rfl
theorem lg_succ (g : Nat → Int) (k : Nat) (x : Int) : lgB g (k + 1) x = (lgB g k x || g k == x) := by simp [lgB, List.range_succ, List.any_append]
theorem lg_iff {g : Nat → Int} {k : Nat} {x : Int} : lgB g k x = true ↔ ∃ i, i < k ∧ g i = x := by simp [lgB]
theorem lg_mono {g : Nat → Int} {k k' : Nat} {x : Int} (h : lgB g k x = true) (hk : k ≤ k') : lgB g k' x = true := by
  obtain ⟨i, h1, h2⟩ := lg_iff.1 h
  exact lg_iff.2 ⟨i, by omega, h2⟩
structure VJ (n : Nat) (f : Nat → Int) (m : Nat) (g : Nat → Int) : Prop where
  n1 : 1 ≤ n
  n2 : n ≤ 256
  logs : ∀ i, i < m → 0 ≤ g i ∧ g i < n ∧ lgB g i (g i) = false
  pars : ∀ k, k < n → 0 ≤ f k ∧ f k < n ∧ (f k == (k : Int)) ≠ lgB g m k
  ords : ∀ i, i < m → lgB g i (f (g i).toNat) = false
noncomputable def vjB (n : Nat) (f : Nat → Int) (m : Nat) (g : Nat → Int) : Bool := open Classical in decide (VJ n f m g)
theorem vj_yes {n : Nat} {f : Nat → Int} {m : Nat} {g : Nat → Int} (h : vjB n f m g = true) : VJ n f m g := by classical exact of_decide_eq_true h
theorem vj_mk {n : Nat} {f : Nat → Int} {m : Nat} {g : Nat → Int} (h : VJ n f m g) : vjB n f m g = true := by classical exact decide_eq_true h
theorem vj_no {n : Nat} {f : Nat → Int} {m : Nat} {g : Nat → Int} (h : ¬ VJ n f m g) : vjB n f m g = false := by classical exact decide_eq_false h
/-- in valid joined elements there are no more logged ones than elements -/
theorem VJ.le {n : Nat} {f : Nat → Int} {m : Nat} {g : Nat → Int} (h : VJ n f m g) : m ≤ n := by
  refine Classical.byContradiction fun hc => ?_
  have hnd : ((List.range m).map fun i => (g i).toNat).Nodup := by
    rw [List.nodup_iff_pairwise_ne, List.pairwise_map]
    refine (List.pairwise_lt_range (n := m)).imp_of_mem ?_
    intro a b ha hb hab e
    have hb' := List.mem_range.1 hb
    obtain ⟨h1, h2, h3⟩ := h.logs b hb'
    obtain ⟨h4, h5, h6⟩ := h.logs a (by omega)
    have : lgB g b (g b) = true := lg_iff.2 ⟨a, hab, by omega⟩
    rw [h3] at this
    cases this
  have : ∀ (M : Nat) (l : List Nat), l.Nodup → (∀ x ∈ l, x < M) → l.length ≤ M := by
    intro M
    induction M with
    | zero => intro l _ h; cases l with
      | nil => exact Nat.le_refl _
      | cons a r => exact absurd (h a (List.mem_cons_self ..)) (by omega)
    | succ M ih =>
      intro l hn h
      have h1 := ih (l.erase M) (hn.erase _) (fun x hx => by
        have hm := (hn.mem_erase_iff.1 hx)
        have := h x hm.2
        omega)
      have h2 := List.length_erase (a := M) (l := l)
      split at h2 <;> omega
  have := this n _ hnd (fun x hx => by
    obtain ⟨i, hi, rfl⟩ := List.mem_map.1 hx
    obtain ⟨h1, h2, -⟩ := h.logs i (List.mem_range.1 hi)
    omega)
  simp at this
  omega

theorem infoBool : (Try.prog.info? 4).map (fun i => (i.zero, i.size, i.bytes)) = some (some (.bool false), 1, 1) := by kernel_rfl
end Go.Proofs.Ytgdmojkfpghmnaa.Base
