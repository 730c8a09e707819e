/-
  Tracing by computation: a tracer that the kernel runs, and that it finds what the model's tracer finds.
-/
import Derived.Test.YtajikegfladelaaTch
import Derived.Test.YtajikegfladelaaGcd
namespace Go.Proofs.Ytajikegfladelaa.Base
open Go Go.RowKit
set_option linter.unusedVariables false
set_option linter.unusedSimpArgs false

/-- goes on from v until v0 is met again: the segments passed (as bits), how many steps, how many border points -/
def runC (W H : Int) (f : Nat → Int) (v0 : W4) : Nat → W4 → Nat → Nat → Nat → Option (Nat × Nat × Nat)
  | 0, _, _, _, _ => none
  | k + 1, v, m, l, t =>
    if stp W H f v = v0 then some (m ||| 1 <<< (sg H v).toNat, l + 1, t + (if edgeB W H v.1 v.2.1 then 1 else 0))
    else runC W H f v0 k (stp W H f v) (m ||| 1 <<< (sg H v).toNat) (l + 1) (t + (if edgeB W H v.1 v.2.1 then 1 else 0))
theorem bit_or (m s i : Nat) : (m ||| 1 <<< s).testBit i = (m.testBit i || decide (s = i)) := by
  rw [Nat.testBit_or, Nat.one_shiftLeft, Nat.testBit_two_pow]
theorem runC_is {W H : Int} {f : Nat → Int} {v0 : W4} : ∀ (k : Nat) (v : W4) (m l t m' l' t' : Nat), runC W H f v0 k v m l t = some (m', l', t') → v = stps W H f l v0 → (∀ j, 1 ≤ j → j ≤ l → stps W H f j v0 ≠ v0) →
    l < l' ∧ l' ≤ l + k ∧ stps W H f l' v0 = v0 ∧ (∀ j, 1 ≤ j → j < l' → stps W H f j v0 ≠ v0) ∧ t' + tchN W H f v0 l = t + tchN W H f v0 l' ∧
    ∀ s, m'.testBit s = true ↔ m.testBit s = true ∨ ∃ j, l ≤ j ∧ j < l' ∧ (sg H (stps W H f j v0)).toNat = s
  | 0, v, m, l, t, m', l', t', h, hv, hj => by cases h
  | k + 1, v, m, l, t, m', l', t', h, hv, hj => by
    unfold runC at h
    have hs : stp W H f v = stps W H f (l + 1) v0 := by rw [hv]; rfl
    have ht : tchN W H f v0 (l + 1) = tchN W H f v0 l + (if edgeB W H v.1 v.2.1 then 1 else 0) := by rw [tchN_succ, ← hv]
    by_cases e : stp W H f v = v0
    · rw [if_pos e] at h
      injection h with h
      simp only [Prod.mk.injEq] at h
      obtain ⟨rfl, rfl, rfl⟩ := h
      refine ⟨by omega, by omega, by rw [← hs]; exact e, fun j h1 h2 => hj j h1 (by omega), by omega, fun s => ?_⟩
      rw [bit_or]
      simp only [Bool.or_eq_true, decide_eq_true_eq]
      refine or_congr Iff.rfl ⟨fun h => ⟨l, Nat.le_refl _, by omega, by rw [← hv]; exact h⟩, fun ⟨j, h1, h2, h3⟩ => ?_⟩
      obtain rfl : j = l := by omega
      rw [hv]; exact h3
    · rw [if_neg e] at h
      have hj' : ∀ j, 1 ≤ j → j ≤ l + 1 → stps W H f j v0 ≠ v0 := fun j h1 h2 => by
        by_cases ej : j = l + 1
        · subst ej; rw [← hs]; exact e
        · exact hj j h1 (by omega)
      obtain ⟨a1, a2, a3, a4, a5, a6⟩ := runC_is k (stp W H f v) _ _ _ _ _ _ h hs hj'
      refine ⟨by omega, by omega, a3, a4, by omega, fun s => ?_⟩
      rw [a6 s, bit_or]
      simp only [Bool.or_eq_true, decide_eq_true_eq, or_assoc]
      refine or_congr Iff.rfl ⟨?_, ?_⟩
      · rintro (h | ⟨j, h1, h2, h3⟩)
        · exact ⟨l, Nat.le_refl _, by omega, by rw [← hv]; exact h⟩
        · exact ⟨j, by omega, h2, h3⟩
      · rintro ⟨j, h1, h2, h3⟩
        by_cases ej : j = l
        · subst ej; exact .inl (by rw [hv]; exact h3)
        · exact .inr ⟨j, by omega, h2, h3⟩
theorem per_of {W H : Int} {f : Nat → Int} {v : W4} {N : Nat} (h : IsPer W H f v N) : per W H f v = N := by
  have h' : ∃ N, IsPer W H f v N := ⟨N, h⟩
  unfold per
  rw [dif_pos h']
  obtain ⟨a1, a2, a3, a4⟩ := Classical.choose_spec h'
  rcases Nat.lt_trichotomy (Classical.choose h') N with e | e | e
  · exact absurd a3 (h.2.2.2 _ a1 e)
  · exact e
  · exact absurd h.2.2.1 (a4 _ h.1 e)
theorem mkd_ge {W H : Int} {f : Nat → Int} {v : W4} {i : Int} {of : Nat → Int} (hi : 0 ≤ i) : ∀ (j s : Nat), 0 ≤ mkd W H f v i of j s ↔ 0 ≤ of s ∨ ∃ j', j' < j ∧ (sg H (stps W H f j' v)).toNat = s
  | 0, s => ⟨fun h => .inl h, fun h => by rcases h with h | ⟨j', h, _⟩; exact h; omega⟩
  | j + 1, s => by
    rw [mkd_succ]
    split
    · next e => exact ⟨fun _ => .inr ⟨j, by omega, e.symm⟩, fun _ => hi⟩
    · next e =>
      rw [mkd_ge hi j s]
      refine or_congr Iff.rfl ⟨fun ⟨j', h1, h2⟩ => ⟨j', by omega, h2⟩, fun ⟨j', h1, h2⟩ => ⟨j', ?_, h2⟩⟩
      by_cases ej : j' = j
      · subst ej; exact absurd h2.symm e
      · omega

/-- all curves of the first k segments: the segments passed, and each curve's least segment, length, border points -/
def trC (W H : Int) (f : Nat → Int) : Nat → Option (Nat × List (Nat × Nat × Nat))
  | 0 => some (0, [])
  | k + 1 => match trC W H f k with
    | none => none
    | some (m, L) => if m.testBit k then some (m, L) else match runC W H f (wkr H k) 1156 (wkr H k) m 0 0 with
      | none => none
      | some (m', l, t) => some (m', L ++ [(k, l, t)])
theorem trC_is {W H : Int} {f : Nat → Int} : ∀ (k : Nat) (m : Nat) (L : List (Nat × Nat × Nat)), trC W H f k = some (m, L) →
    (trs W H f k).cnt = L.length ∧ (∀ s, m.testBit s = true ↔ 0 ≤ (trs W H f k).of s) ∧
    ∀ i, i < L.length → ∃ l t, L[i]? = some ((trs W H f k).st i, l, t) ∧ per W H f (wkr H ((trs W H f k).st i)) = l ∧ tchN W H f (wkr H ((trs W H f k).st i)) l = t
  | 0, m, L, h => by
    unfold trC at h
    injection h with h
    simp only [Prod.mk.injEq] at h
    obtain ⟨rfl, rfl⟩ := h
    refine ⟨rfl, fun s => ?_, fun i hi => by simp at hi⟩
    show _ ↔ (0 : Int) ≤ -1
    simp
  | k + 1, m, L, h => by
    unfold trC at h
    cases e : trC W H f k with
    | none => rw [e] at h; cases h
    | some p =>
      obtain ⟨m0, L0⟩ := p
      rw [e] at h
      obtain ⟨a1, a2, a3⟩ := trC_is k m0 L0 e
      simp only at h
      by_cases hb : m0.testBit k = true
      · rw [if_pos hb] at h
        injection h with h
        simp only [Prod.mk.injEq] at h
        obtain ⟨rfl, rfl⟩ := h
        rw [trs_yes ((a2 k).1 hb)]
        exact ⟨a1, a2, a3⟩
      · rw [if_neg hb] at h
        have hn : (trs W H f k).of k < 0 := by
          rcases Int.lt_or_le ((trs W H f k).of k) 0 with h' | h'
          · exact h'
          · exact absurd ((a2 k).2 h') hb
        cases er : runC W H f (wkr H k) 1156 (wkr H k) m0 0 0 with
        | none => rw [er] at h; cases h
        | some q =>
          obtain ⟨m1, l, t⟩ := q
          rw [er] at h
          injection h with h
          simp only [Prod.mk.injEq] at h
          obtain ⟨rfl, rfl⟩ := h
          obtain ⟨b1, b2, b3, b4, b5, b6⟩ := runC_is 1156 _ _ _ _ _ _ _ er rfl (fun j h1 h2 => by omega)
          have hp := per_of (W := W) (H := H) (f := f) (v := wkr H k) (N := l) ⟨by omega, by omega, b3, b4⟩
          rw [trs_no hn]
          simp only
          refine ⟨by rw [a1]; simp, fun s => ?_, fun i hi => ?_⟩
          · rw [b6 s, mkd_ge (by omega), a2 s, hp]
            exact or_congr Iff.rfl ⟨fun ⟨j, h1, h2, h3⟩ => ⟨j, h2, h3⟩, fun ⟨j, h2, h3⟩ => ⟨j, by omega, h2, h3⟩⟩
          · simp only [List.length_append, List.length_singleton] at hi
            by_cases ei : i < L0.length
            · rw [if_neg (by omega), List.getElem?_append_left ei]
              exact a3 i ei
            · obtain rfl : i = L0.length := by omega
              rw [if_pos a1.symm, List.getElem?_append_right (Nat.le_refl _)]
              refine ⟨l, t, by simp, hp, ?_⟩
              have : tchN W H f (wkr H k) 0 = 0 := rfl
              omega

/-! panels without breaks -/
/-- the curves of a panel without breaks are as many, as long, and as often at the border as the formulas say -/
def plainOk (W H : Int) : Bool := match trC W H (fun _ => 0) (4 * W * H).toNat with
  | none => false
  | some (_, L) => decide ((L.length : Int) = gcI W H) && L.all fun x => decide ((x.2.1 : Int) = 4 * lcI W H) && decide ((x.2.2 : Int) = 2 * (W + H) / gcI W H)
theorem plain_all : ∀ w h : Fin 8, plainOk (w.val + 1 : Nat) (h.val + 1 : Nat) = true := by decide +kernel
theorem plain_ok {W H : Int} (hW : sideB W = true) (hH : sideB H = true) : plainOk W H = true := by
  obtain ⟨a1, a2⟩ := side_mk hW
  obtain ⟨b1, b2⟩ := side_mk hH
  have h := plain_all ⟨(W - 1).toNat, by omega⟩ ⟨(H - 1).toNat, by omega⟩
  have e1 : (((W - 1).toNat + 1 : Nat) : Int) = W := by omega
  have e2 : (((H - 1).toNat + 1 : Nat) : Int) = H := by omega
  simpa only [e1, e2] using h
theorem plain_is {W H : Int} (hW : sideB W = true) (hH : sideB H = true) :
    ((trE W H (fun _ => 0)).cnt : Int) = gcI W H ∧ ∀ i, i < (trE W H (fun _ => 0)).cnt → (per W H (fun _ => 0) (cuW W H (fun _ => 0) i) : Int) = 4 * lcI W H ∧
      (tchN W H (fun _ => 0) (cuW W H (fun _ => 0) i) (per W H (fun _ => 0) (cuW W H (fun _ => 0) i)) : Int) = 2 * (W + H) / gcI W H := by
  have h := plain_ok hW hH
  unfold plainOk at h
  cases e : trC W H (fun _ => 0) (4 * W * H).toNat with
  | none => rw [e] at h; cases h
  | some p =>
    obtain ⟨m, L⟩ := p
    rw [e] at h
    simp only [Bool.and_eq_true, decide_eq_true_eq, List.all_eq_true] at h
    obtain ⟨h1, h2⟩ := h
    obtain ⟨a1, a2, a3⟩ := trC_is _ _ _ e
    refine ⟨by show ((trs W H (fun _ => 0) (4 * W * H).toNat).cnt : Int) = _; rw [a1]; exact h1, fun i hi => ?_⟩
    have hi' : i < L.length := by rw [← a1]; exact hi
    obtain ⟨l, t, c1, c2, c3⟩ := a3 i hi'
    have hm := List.mem_of_getElem? c1
    obtain ⟨d1, d2⟩ := h2 _ hm
    unfold cuW trE
    rw [c2, c3]
    exact ⟨d1, d2⟩
end Go.Proofs.Ytajikegfladelaa.Base
