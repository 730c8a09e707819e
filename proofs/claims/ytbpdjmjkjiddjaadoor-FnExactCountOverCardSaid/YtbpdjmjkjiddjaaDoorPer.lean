/-
  A walker comes back: the period of its walk.
-/
import Derived.Test.YtbpdjmjkjiddjaaDoorItr
namespace Go.Proofs.YtbpdjmjkjiddjaaDoor.Base
open Go.RowKit
set_option linter.unusedVariables false

/-- numbers below M that are all different are at most M -/
theorem pigeon : ∀ (M : Nat) (l : List Nat), l.Nodup → (∀ x ∈ l, x < M) → l.length ≤ M
  | 0, l, _, h => by
    cases l with
    | nil => exact Nat.le_refl _
    | cons a r => exact absurd (h a (List.mem_cons_self ..)) (by omega)
  | M + 1, l, hn, h => by
    have h1 := pigeon M (l.erase M) (hn.erase _) (fun x hx => by
      have hm := (hn.mem_erase_iff.1 hx)
      have := h x hm.2
      omega)
    have h2 := List.length_erase (a := M) (l := l)
    split at h2 <;> omega

def bkw (v : W4) : W4 := (v.1 + v.2.2.1, v.2.1 + v.2.2.2, -v.2.2.1, -v.2.2.2)
theorem bkw_inj {u v : W4} (h : bkw u = bkw v) : u = v := by
  obtain ⟨a, b, c, d⟩ := u
  obtain ⟨a', b', c', d'⟩ := v
  simp only [bkw, Prod.mk.injEq] at h
  obtain ⟨h1, h2, h3, h4⟩ := h
  simp only [Prod.mk.injEq]
  omega
theorem st_back {W H x y dx dy e1 e2 : Int} {f : Nat → Int} (h1 : stDX W H f x y dx dy = e1) (h2 : stDY W H f x y dx dy = e2) :
    stDX W H f (x + dx + e1) (y + dy + e2) (-e1) (-e2) = -dx ∧ stDY W H f (x + dx + e1) (y + dy + e2) (-e1) (-e2) = -dy := by
  have q1 : x + dx + e1 + -e1 = x + dx := by omega
  have q2 : y + dy + e2 + -e2 = y + dy := by omega
  constructor
  · unfold stDX at h1 ⊢
    rw [q1, q2, ← h1]
    split <;> omega
  · unfold stDY at h2 ⊢
    rw [q1, q2, ← h2]
    split <;> omega
theorem stp_back (W H : Int) (f : Nat → Int) (v : W4) : stp W H f (bkw (stp W H f v)) = bkw v := by
  obtain ⟨x, y, dx, dy⟩ := v
  obtain ⟨e1, e2⟩ := st_back (W := W) (H := H) (f := f) (x := x) (y := y) (dx := dx) (dy := dy) rfl rfl
  simp only [stp, bkw, Prod.mk.injEq]
  exact ⟨by omega, by omega, e1, e2⟩
theorem stp_inj {W H : Int} {f : Nat → Int} {u v : W4} (h : stp W H f u = stp W H f v) : u = v :=
  bkw_inj (by rw [← stp_back W H f u, ← stp_back W H f v, h])
theorem stps_inj {W H : Int} {f : Nat → Int} : ∀ (k : Nat) {u v : W4}, stps W H f k u = stps W H f k v → u = v
  | 0, _, _, h => h
  | k + 1, _, _, h => stps_inj k (stp_inj h)

/-- a valid walker's number -/
def wcode (v : W4) : Nat := (((v.1.toNat * 17 + v.2.1.toNat) * 2 + ((v.2.2.1 + 1) / 2).toNat) * 2) + ((v.2.2.2 + 1) / 2).toNat
theorem wcode_lt {W H : Int} {n : Nat} {f : Nat → Int} {v : W4} (h : okW W H n f v = true) : wcode v < 1156 := by
  obtain ⟨-, -, x1, x2, y1, y2, g1, g2⟩ := goW h
  have d1 := sign_yes g1
  have d2 := sign_yes g2
  unfold wcode
  rcases d1 with e1 | e1 <;> rcases d2 with e2 | e2 <;> rw [e1, e2] <;> simp <;> omega
theorem wcode_inj {W H : Int} {n : Nat} {f : Nat → Int} {u v : W4} (hu : okW W H n f u = true) (hv : okW W H n f v = true) (h : wcode u = wcode v) : u = v := by
  obtain ⟨-, -, x1, x2, y1, y2, g1, g2⟩ := goW hu
  obtain ⟨-, -, x3, x4, y3, y4, g3, g4⟩ := goW hv
  have d1 := sign_yes g1
  have d2 := sign_yes g2
  have d3 := sign_yes g3
  have d4 := sign_yes g4
  obtain ⟨a, b, c, d⟩ := u
  obtain ⟨a', b', c', d'⟩ := v
  unfold wcode at h
  simp only at *
  simp only [Prod.mk.injEq]
  rcases d1 with rfl | rfl <;> rcases d2 with rfl | rfl <;> rcases d3 with rfl | rfl <;> rcases d4 with rfl | rfl <;> simp at h ⊢ <;> omega

/-- N is the period of v's walk -/
def IsPer (W H : Int) (f : Nat → Int) (v : W4) (N : Nat) : Prop := 1 ≤ N ∧ N ≤ 1156 ∧ stps W H f N v = v ∧ ∀ j, 1 ≤ j → j < N → stps W H f j v ≠ v
theorem least {p : Nat → Prop} : ∀ (m : Nat), (∃ j, 1 ≤ j ∧ j ≤ m ∧ p j) → ∃ N, 1 ≤ N ∧ N ≤ m ∧ p N ∧ ∀ j, 1 ≤ j → j < N → ¬ p j
  | 0, ⟨j, h1, h2, _⟩ => by omega
  | m + 1, ⟨j, h1, h2, h3⟩ => by
    by_cases h : ∃ j, 1 ≤ j ∧ j ≤ m ∧ p j
    · obtain ⟨N, a, b, c, d⟩ := least m h
      exact ⟨N, a, by omega, c, d⟩
    · have e : j = m + 1 := by
        rcases Nat.lt_or_ge m j with h' | h'
        · omega
        · exact absurd ⟨j, h1, h', h3⟩ h
      exact ⟨j, h1, h2, h3, fun i i1 i2 hi => h ⟨i, i1, by omega, hi⟩⟩
theorem per_exists {W H : Int} {n : Nat} {f : Nat → Int} {v : W4} (h : okW W H n f v = true) : ∃ N, IsPer W H f v N := by
  have key : ∃ j, 1 ≤ j ∧ j ≤ 1156 ∧ stps W H f j v = v := by
    refine Classical.byContradiction fun hne => ?_
    have hd : ∀ i j, i < j → j ≤ 1156 → wcode (stps W H f i v) ≠ wcode (stps W H f j v) := fun i j hij hj e => by
      have e2 := wcode_inj (stps_ok h i) (stps_ok h j) e
      have e3 : stps W H f j v = stps W H f i (stps W H f (j - i) v) := by rw [← stps_add, show j - i + i = j by omega]
      rw [e3] at e2
      exact hne ⟨j - i, by omega, by omega, (stps_inj i e2).symm⟩
    have hnd : ((List.range 1157).map fun i => wcode (stps W H f i v)).Nodup := by
      rw [List.nodup_iff_pairwise_ne, List.pairwise_map]
      refine (List.pairwise_lt_range (n := 1157)).imp_of_mem ?_
      intro a b ha hb hab
      exact hd a b hab (by have := List.mem_range.1 hb; omega)
    have := pigeon 1156 _ hnd (fun x hx => by
      obtain ⟨i, -, rfl⟩ := List.mem_map.1 hx
      exact wcode_lt (stps_ok h i))
    simp at this
  exact least (p := fun j => stps W H f j v = v) 1156 key

/-- where on v's walk u stands -/
noncomputable def idx (W H : Int) (f : Nat → Int) (v : W4) (N : Nat) (u : W4) : Nat :=
  open Classical in if h : ∃ k, 1 ≤ k ∧ k ≤ N ∧ stps W H f k v = u then Classical.choose h else 0
theorem per_apart {W H : Int} {f : Nat → Int} {v : W4} {N i j : Nat} (hp : IsPer W H f v N) (h1 : 1 ≤ i) (h2 : i < j) (h3 : j ≤ N) : stps W H f i v ≠ stps W H f j v := fun e => by
  have e3 : stps W H f j v = stps W H f i (stps W H f (j - i) v) := by rw [← stps_add, show j - i + i = j by omega]
  rw [e3] at e
  exact hp.2.2.2 (j - i) (by omega) (by omega) (stps_inj i e).symm
theorem idx_at {W H : Int} {f : Nat → Int} {v : W4} {N k : Nat} (hp : IsPer W H f v N) (h1 : 1 ≤ k) (h2 : k ≤ N) : idx W H f v N (stps W H f k v) = k := by
  have h : ∃ j, 1 ≤ j ∧ j ≤ N ∧ stps W H f j v = stps W H f k v := ⟨k, h1, h2, rfl⟩
  unfold idx
  rw [dif_pos h]
  obtain ⟨a, b, c⟩ := Classical.choose_spec h
  rcases Nat.lt_trichotomy (Classical.choose h) k with h' | h' | h'
  · exact absurd c (per_apart hp a h' h2)
  · exact h'
  · exact absurd c.symm (per_apart hp h1 h' b)
end Go.Proofs.YtbpdjmjkjiddjaaDoor.Base
