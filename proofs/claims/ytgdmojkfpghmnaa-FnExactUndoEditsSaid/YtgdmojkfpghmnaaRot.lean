/-
  GroupOf: the element that stands for a group, the model's.
-/
import Derived.Test.YtgdmojkfpghmnaaCgr
namespace Go.Proofs.Ytgdmojkfpghmnaa.Base
open Go Go.RowKit
set_option linter.unusedVariables false
set_option linter.unusedSimpArgs false

/-- j parents up from k -/
def upN (f : Nat → Int) : Nat → Nat → Nat
  | 0, k => k
  | j + 1, k => (f (upN f j k)).toNat
section
variable {n m : Nat} {f g : Nat → Int}
theorem up_add (k : Nat) : ∀ i j, upN f (i + j) k = upN f j (upN f i k)
  | i, 0 => rfl
  | i, j + 1 => by
    show (f (upN f (i + j) k)).toNat = (f (upN f j (upN f i k))).toNat
    rw [up_add k i j]
theorem up_lt (h : VJ n f m g) {k : Nat} (hk : k < n) : ∀ j, upN f j k < n
  | 0 => hk
  | j + 1 => by
    have := h.pars _ (up_lt h hk j)
    show (f (upN f j k)).toNat < n
    omega
theorem up_root {k : Nat} (h : f k = k) : ∀ j, upN f j k = k
  | 0 => rfl
  | j + 1 => by show (f (upN f j k)).toNat = k; rw [up_root h j, h]; simp
/-- from each element one comes to one that stands for a group -/
theorem up_ends (h : VJ n f m g) : ∀ (d k : Nat), k < n → (∀ i, i < m → g i = k → m - i ≤ d) → ∃ j, j ≤ d ∧ f (upN f j k) = (upN f j k : Nat)
  | 0, k, hk, hd => by
    refine ⟨0, Nat.le_refl _, ?_⟩
    show f k = k
    refine Classical.byContradiction fun hne => ?_
    have h1 := (h.pars k hk).2.2
    have h2 : (f k == (k : Int)) = false := beq_eq_false_iff_ne.2 hne
    rw [h2] at h1
    have h3 : lgB g m k = true := by cases e : lgB g m k <;> simp_all
    obtain ⟨i, hi, e⟩ := lg_iff.1 h3
    have := hd i hi e
    omega
  | d + 1, k, hk, hd => by
    by_cases hr : f k = k
    · exact ⟨0, Nat.zero_le _, hr⟩
    · have h1 := (h.pars k hk).2.2
      have h2 : (f k == (k : Int)) = false := beq_eq_false_iff_ne.2 hr
      rw [h2] at h1
      have h3 : lgB g m k = true := by cases e : lgB g m k <;> simp_all
      obtain ⟨i, hi, e⟩ := lg_iff.1 h3
      have hdi := hd i hi e
      have ho := h.ords i hi
      obtain ⟨p1, p2, -⟩ := h.pars k hk
      rw [e, Int.toNat_natCast] at ho
      obtain ⟨j, hj, hrj⟩ := up_ends h d (f k).toNat (by omega) (fun i' hi' e' => by
        have e2 : g i' = f k := by omega
        by_cases hlt : i' < i
        · have : lgB g i (f k) = true := lg_iff.2 ⟨i', hlt, e2⟩
          rw [ho] at this
          cases this
        · by_cases heq : i' = i
          · subst heq; omega
          · omega)
      refine ⟨j + 1, by omega, ?_⟩
      have hs : upN f (j + 1) k = upN f j (f k).toNat := by rw [Nat.add_comm j 1, up_add]; rfl
      rw [hs]
      exact hrj
theorem up_stays (h : VJ n f m g) {k : Nat} (hk : k < n) : f (upN f m k) = (upN f m k : Nat) := by
  obtain ⟨j, hj, hr⟩ := up_ends h m k hk (fun i hi _ => by omega)
  have e : upN f m k = upN f j k := by
    rw [show m = j + (m - j) by omega, up_add, up_root hr]
  rw [e]
  exact hr
theorem up_same {k j : Nat} (hr : f (upN f j k) = (upN f j k : Nat)) (hj : j ≤ m) : upN f m k = upN f j k := by
  rw [show m = j + (m - j) by omega, up_add, up_root hr]
/-- how many of the first j on the way up do not stand for a group -/
def nrN (f : Nat → Int) (x : Nat) : Nat → Nat
  | 0 => 0
  | j + 1 => nrN f x j + (if f (upN f j x) = (upN f j x : Nat) then 0 else 1)
theorem nr_shift {f : Nat → Int} (x : Nat) : ∀ j, nrN f (f x).toNat j + (if f x = (x : Int) then 0 else 1) = nrN f x (j + 1)
  | 0 => by show 0 + _ = 0 + _; rfl
  | j + 1 => by
    have ih := nr_shift (f := f) x j
    have e : upN f j (f x).toNat = upN f (j + 1) x := by rw [Nat.add_comm j 1, up_add]; rfl
    show nrN f (f x).toNat j + (if f (upN f j (f x).toNat) = (upN f j (f x).toNat : Nat) then 0 else 1) + _ = nrN f x (j + 1) + (if f (upN f (j + 1) x) = (upN f (j + 1) x : Nat) then 0 else 1)
    rw [← ih, e]
    omega
theorem nr_less (h : VJ n f m g) {x : Nat} (hx : x < n) (hr : f x ≠ x) : nrN f (f x).toNat m < nrN f x m := by
  have h1 := nr_shift (f := f) x m
  have h2 : nrN f x (m + 1) = nrN f x m := by
    show nrN f x m + _ = _
    rw [if_pos (up_stays h hx)]
    omega
  rw [if_neg hr] at h1
  omega
end
end Go.Proofs.Ytgdmojkfpghmnaa.Base
