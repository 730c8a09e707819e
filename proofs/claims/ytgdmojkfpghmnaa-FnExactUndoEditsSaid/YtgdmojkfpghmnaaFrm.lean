/-
  Elements linked to parents: who stands for a group, and shortened paths.
-/
import Derived.Test.YtgdmojkfpghmnaaRot
namespace Go.Proofs.Ytgdmojkfpghmnaa.Base
set_option linter.unusedVariables false
set_option linter.unusedSimpArgs false

/-- parents within n, along which a rank falls -/
structure FR (n : Nat) (p rk : Nat → Nat) : Prop where
  lt : ∀ x, x < n → p x < n
  dn : ∀ x, x < n → p x = x ∨ rk (p x) < rk x
/-- r stands for x -/
inductive Rt (p : Nat → Nat) : Nat → Nat → Prop
  | top {x : Nat} : p x = x → Rt p x x
  | up {x r : Nat} : p x ≠ x → Rt p (p x) r → Rt p x r
/-- x with another parent -/
def hvP (p : Nat → Nat) (e q : Nat) (x : Nat) : Nat := if x = e then q else p x
section
variable {n : Nat} {p q rk : Nat → Nat}
theorem Rt.uniq {x r r' : Nat} (h : Rt p x r) : Rt p x r' → r = r' := by
  induction h with
  | top e => intro h'
             cases h' with
             | top _ => rfl
             | up hne _ => exact absurd e hne
  | up hne _ ih => intro h'
                   cases h' with
                   | top e => exact absurd e hne
                   | up _ h2 => exact ih h2
theorem Rt.root {x r : Nat} (h : Rt p x r) : p r = r := by
  induction h with
  | top e => exact e
  | up _ _ ih => exact ih
theorem Rt.lt (hf : FR n p rk) {x r : Nat} (h : Rt p x r) (hx : x < n) : r < n := by
  induction h with
  | top _ => exact hx
  | up _ _ ih => exact ih (hf.lt _ hx)
theorem Rt.step {x r : Nat} (h : Rt p x r) : Rt p (p x) r := by
  cases h with
  | top e => rw [e]; exact .top e
  | up _ h2 => exact h2
theorem FR.ex (hf : FR n p rk) : ∀ (d x : Nat), x < n → rk x ≤ d → ∃ r, Rt p x r
  | d, x, hx, hd => by
    by_cases e : p x = x
    · exact ⟨x, .top e⟩
    · have h1 := (hf.dn x hx).resolve_left e
      match d, hd with
      | 0, hd => omega
      | d + 1, hd =>
        obtain ⟨r, hr⟩ := hf.ex d (p x) (hf.lt x hx) (by omega)
        exact ⟨r, .up e hr⟩
theorem FR.has (hf : FR n p rk) {x : Nat} (hx : x < n) : ∃ r, Rt p x r := hf.ex (rk x) x hx (Nat.le_refl _)
theorem FR.halve (hf : FR n p rk) {e : Nat} (he : e < n) : FR n (hvP p e (p (p e))) rk := by
  refine ⟨fun x hx => ?_, fun x hx => ?_⟩
  · unfold hvP
    split
    · exact hf.lt _ (hf.lt _ he)
    · exact hf.lt _ hx
  · unfold hvP
    split
    · next e1 =>
      subst e1
      rcases hf.dn x hx with h1 | h1
      · exact .inl (by rw [h1, h1])
      · rcases hf.dn (p x) (hf.lt x hx) with h2 | h2
        · rw [h2]; exact .inr h1
        · exact .inr (by omega)
    · exact hf.dn x hx
theorem rt_halve (hf : FR n p rk) {e : Nat} (he : e < n) : ∀ (d x r : Nat), x < n → rk x ≤ d → Rt p x r → Rt (hvP p e (p (p e))) x r
  | d, x, r, hx, hd, h => by
    by_cases e1 : p x = x
    · obtain rfl : x = r := (Rt.top e1).uniq h
      refine .top ?_
      unfold hvP
      split
      · next e2 => subst e2; rw [e1, e1]
      · exact e1
    · have h1 := (hf.dn x hx).resolve_left e1
      match d, hd with
      | 0, hd => omega
      | d + 1, hd =>
        by_cases e2 : x = e
        · subst e2
          have e3 : hvP p x (p (p x)) x = p (p x) := if_pos rfl
          have hlt : rk (p (p x)) < rk x := by
            rcases hf.dn (p x) (hf.lt x hx) with h2 | h2
            · rw [h2]; exact h1
            · omega
          have ih := rt_halve hf he d (p (p x)) r (hf.lt _ (hf.lt _ hx)) (by omega) h.step.step
          refine .up ?_ ?_
          · rw [e3]
            intro e4
            rw [e4] at hlt
            omega
          · rw [e3]; exact ih
        · have e3 : hvP p e (p (p e)) x = p x := if_neg e2
          refine .up (by rw [e3]; exact e1) ?_
          rw [e3]
          exact rt_halve hf he d (p x) r (hf.lt _ hx) (by omega) h.step
theorem FR.same (hf : FR n p rk) {e : Nat} (he : e < n) {x r : Nat} (hx : x < n) : Rt (hvP p e (p (p e))) x r ↔ Rt p x r := by
  constructor
  · intro h
    obtain ⟨r', h'⟩ := hf.has hx
    obtain rfl := h.uniq (rt_halve hf he (rk x) x r' hx (Nat.le_refl _) h')
    exact h'
  · exact rt_halve hf he (rk x) x r hx (Nat.le_refl _)
/-- the parents behind taking the changes back, the last one first -/
def undo : List (Nat × Nat) → (Nat → Nat) → Nat → Nat
  | [], p => p
  | (e, b) :: l, p => hvP (undo l p) e b
theorem undo_snoc (e b : Nat) : ∀ (l : List (Nat × Nat)) (p : Nat → Nat) (x : Nat), undo (l ++ [(e, b)]) p x = undo l (hvP p e b) x
  | [], p, x => rfl
  | (e', b') :: l, p, x => by
    show hvP (undo (l ++ [(e, b)]) p) e' b' x = hvP (undo l (hvP p e b)) e' b' x
    unfold hvP
    split
    · rfl
    · exact undo_snoc e b l p x
theorem undo_congr {p p' : Nat → Nat} (h : ∀ x, p x = p' x) : ∀ (l : List (Nat × Nat)) (x : Nat), undo l p x = undo l p' x
  | [], x => h x
  | (e', b') :: l, x => by
    show hvP (undo l p) e' b' x = hvP (undo l p') e' b' x
    unfold hvP
    split
    · rfl
    · exact undo_congr h l x
theorem undo_other {z v : Nat} : ∀ (l : List (Nat × Nat)) (p : Nat → Nat) (x : Nat), (∀ c ∈ l, c.1 ≠ z) → undo l (hvP p z v) x = hvP (undo l p) z v x
  | [], p, x, _ => rfl
  | (e', b') :: l, p, x, h => by
    show hvP (undo l (hvP p z v)) e' b' x = hvP (hvP (undo l p) e' b') z v x
    have h1 := h (e', b') (List.mem_cons_self ..)
    have ih := undo_other (z := z) (v := v) l p x (fun c hc => h c (List.mem_cons_of_mem _ hc))
    by_cases e1 : x = e'
    · subst e1
      have : ¬ x = z := h1
      simp [hvP, this]
    · have e2 : hvP (undo l (hvP p z v)) e' b' x = undo l (hvP p z v) x := if_neg e1
      rw [e2, ih]
      simp [hvP, e1]
end
end Go.Proofs.Ytgdmojkfpghmnaa.Base
