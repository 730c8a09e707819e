/-
  Tracing: the model. A curve's walkers one after the other, the marks on segments, the curves found so far.
-/
import Derived.Test.YtbpdjmjkjiddjaaDoorPer
import Derived.Test.YtbpdjmjkjiddjaaDoorSgo
namespace Go.Proofs.YtbpdjmjkjiddjaaDoor.Base
open Go.RowKit
set_option linter.unusedVariables false

/-- the number of a walker's segment -/
def sg (H : Int) (v : W4) : Int := segOf H v.1 v.2.1 v.2.2.1 v.2.2.2
/-- the walker along segment k to the right -/
def wkr (H : Int) (k : Nat) : W4 := (wtX H k, wtY H k, 1, wtD H k)
/-- the period of v's walk (1 where there is none) -/
noncomputable def per (W H : Int) (f : Nat → Int) (v : W4) : Nat :=
  open Classical in if h : ∃ N, IsPer W H f v N then Classical.choose h else 1
theorem per_is {W H : Int} {n : Nat} {f : Nat → Int} {v : W4} (h : okW W H n f v = true) : IsPer W H f v (per W H f v) := by
  have h' := per_exists h
  unfold per
  rw [dif_pos h']
  exact Classical.choose_spec h'
theorem per_pos (W H : Int) (f : Nat → Int) (v : W4) : 1 ≤ per W H f v := by
  unfold per
  split
  · next h => exact (Classical.choose_spec h).1
  · exact Nat.le_refl _

/-- the marks behind j steps from v with the index i -/
def mkd (W H : Int) (f : Nat → Int) (v : W4) (i : Int) (of : Nat → Int) : Nat → Nat → Int
  | 0 => of
  | j + 1 => fun s => if s = (sg H (stps W H f j v)).toNat then i else mkd W H f v i of j s

/-- the curves found: their number, the index of each segment's curve (-1: none yet), the least segment of each curve -/
structure Tr where
  cnt : Nat
  of : Nat → Int
  st : Nat → Nat
noncomputable def trS (W H : Int) (f : Nat → Int) (k : Nat) (t : Tr) : Tr :=
  if t.of k < 0 then ⟨t.cnt + 1, mkd W H f (wkr H k) t.cnt t.of (per W H f (wkr H k)), fun i => if i = t.cnt then k else t.st i⟩ else t
noncomputable def trs (W H : Int) (f : Nat → Int) : Nat → Tr
  | 0 => ⟨0, fun _ => -1, fun _ => 0⟩
  | k + 1 => trS W H f k (trs W H f k)
theorem trs_yes {W H : Int} {f : Nat → Int} {k : Nat} (h : 0 ≤ (trs W H f k).of k) : trs W H f (k + 1) = trs W H f k := by
  show trS W H f k _ = _
  unfold trS
  rw [if_neg (by omega)]
theorem trs_no {W H : Int} {f : Nat → Int} {k : Nat} (h : (trs W H f k).of k < 0) :
    trs W H f (k + 1) = ⟨(trs W H f k).cnt + 1, mkd W H f (wkr H k) (trs W H f k).cnt (trs W H f k).of (per W H f (wkr H k)), fun i => if i = (trs W H f k).cnt then k else (trs W H f k).st i⟩ := by
  show trS W H f k _ = _
  unfold trS
  rw [if_pos h]

theorem mkd_succ (W H : Int) (f : Nat → Int) (v : W4) (i : Int) (of : Nat → Int) (j s : Nat) : mkd W H f v i of (j + 1) s = if s = (sg H (stps W H f j v)).toNat then i else mkd W H f v i of j s := rfl
theorem mk_cases (W H : Int) (f : Nat → Int) (v : W4) (i : Int) (of : Nat → Int) : ∀ (j s : Nat), mkd W H f v i of j s = of s ∨ mkd W H f v i of j s = i
  | 0, s => Or.inl rfl
  | j + 1, s => by
    rw [mkd_succ]
    split
    · exact Or.inr rfl
    · exact mk_cases W H f v i of j s
theorem mk_ge {W H : Int} {f : Nat → Int} {v : W4} {i : Int} {of : Nat → Int} (hi : 0 ≤ i) : ∀ (j s : Nat), 0 ≤ of s → 0 ≤ mkd W H f v i of j s := fun j s h => by
  rcases mk_cases W H f v i of j s with e | e <;> omega
theorem mk_first {W H : Int} {f : Nat → Int} {v : W4} {i : Int} {of : Nat → Int} (hi : 0 ≤ i) : ∀ (j : Nat), 1 ≤ j → 0 ≤ mkd W H f v i of j (sg H v).toNat
  | 0, h => absurd h (by omega)
  | 1, _ => by
    rw [mkd_succ, if_pos (show (sg H v).toNat = (sg H (stps W H f 0 v)).toNat from rfl)]
    exact hi
  | j + 2, _ => by
    rw [mkd_succ]
    split
    · exact hi
    · exact mk_first hi (j + 1) (by omega)

/-- the walker along a segment is valid, and along this segment -/
theorem wkr_ok {W H : Int} {n : Nat} {f : Nat → Int} {k : Nat} (hv : validB W H n f = true) (h : (k : Int) < 4 * W * H) : okW W H n f (wkr H k) = true ∧ sg H (wkr H k) = k := by
  obtain ⟨hW, hH, -, -⟩ := validB_yes hv
  exact ⟨(seg_go hv h).1, (seg_pts hW hH h).2.2.2.1⟩
/-- a valid walker's segment is a segment -/
theorem sg_rng {W H : Int} {n : Nat} {f : Nat → Int} {v : W4} (h : okW W H n f v = true) : 0 ≤ sg H v ∧ sg H v < 4 * W * H ∧ 4 * W * H ≤ 256 := by
  obtain ⟨hv, hg⟩ := wk_valid h
  obtain ⟨hW, hH, -, -⟩ := validB_yes hv
  obtain ⟨m0, m1⟩ := segs_bd hW hH
  obtain ⟨a1, a2⟩ := side_mk hW
  obtain ⟨b1, b2⟩ := side_mk hH
  obtain ⟨s1, s2, p1, p2⟩ := go_yes hg
  obtain ⟨x1, x2, y1, y2, -⟩ := has_yes p1
  obtain ⟨u1, u2, v1, v2, -⟩ := has_yes p2
  have d1 := sign_yes s1
  have d2 := sign_yes s2
  have key : ∀ X Y : Int, 0 ≤ X → X + 1 ≤ 2 * W → 0 ≤ Y → Y + 1 ≤ 2 * H → 0 ≤ X * 2 * H + Y ∧ X * 2 * H + Y < 4 * W * H := fun X Y h1 h2 h3 h4 => by
    have e1 : 0 ≤ X * (2 * H) := Int.mul_nonneg h1 (by omega)
    have e2 : (X + 1) * (2 * H) ≤ (2 * W) * (2 * H) := Int.mul_le_mul_of_nonneg_right h2 (by omega)
    have e3 : (2 * W) * (2 * H) = 4 * W * H := by rw [Int.mul_comm 2 W, Int.mul_assoc W 2 (2 * H), ← Int.mul_assoc 2 2 H, ← Int.mul_assoc W (2 * 2) H, Int.mul_comm W (2 * 2)]; rfl
    rw [Int.add_mul, e3] at e2
    rw [Int.mul_assoc]
    omega
  have hx : 0 ≤ lowI v.1 v.2.2.1 ∧ lowI v.1 v.2.2.1 + 1 ≤ 2 * W := by unfold lowI; split <;> omega
  have hy : 0 ≤ lowI v.2.1 v.2.2.2 ∧ lowI v.2.1 v.2.2.2 + 1 ≤ 2 * H := by unfold lowI; split <;> omega
  obtain ⟨q1, q2⟩ := key _ _ hx.1 hx.2 hy.1 hy.2
  exact ⟨q1, q2, m1⟩

theorem trs_of_ge (W H : Int) (f : Nat → Int) : ∀ (k s : Nat), -1 ≤ (trs W H f k).of s ∧ (trs W H f k).of s < (trs W H f k).cnt ∧ (trs W H f k).cnt ≤ k
  | 0, s => ⟨Int.le_refl _, by show (-1 : Int) < 0; omega, Nat.le_refl _⟩
  | k + 1, s => by
    obtain ⟨h1, h2, h3⟩ := trs_of_ge W H f k s
    rcases Int.lt_or_le ((trs W H f k).of k) 0 with h | h
    · rw [trs_no h]
      simp only
      rcases mk_cases W H f (wkr H k) (trs W H f k).cnt (trs W H f k).of (per W H f (wkr H k)) s with e | e <;> rw [e] <;> omega
    · rw [trs_yes h]; omega
theorem trs_st {W H : Int} {f : Nat → Int} : ∀ (k i : Nat), i < (trs W H f k).cnt → (trs W H f k).st i < k
  | 0, i, h => absurd h (by show ¬ i < 0; omega)
  | k + 1, i, hi => by
    rcases Int.lt_or_le ((trs W H f k).of k) 0 with h | h
    · rw [trs_no h] at hi ⊢
      simp only at hi ⊢
      split
      · omega
      · have := trs_st (W := W) (H := H) (f := f) k i (by omega); omega
    · rw [trs_yes h] at hi ⊢
      have := trs_st (W := W) (H := H) (f := f) k i hi; omega
/-- the segments passed have their curves -/
theorem trs_done {W H : Int} {n : Nat} {f : Nat → Int} (hv : validB W H n f = true) : ∀ (k s : Nat), (k : Int) ≤ 4 * W * H → s < k → 0 ≤ (trs W H f k).of s
  | 0, s, _, h => absurd h (by omega)
  | k + 1, s, hk, hs => by
    have hk' : (k : Int) < 4 * W * H := by omega
    obtain ⟨hok, hsg⟩ := wkr_ok hv hk'
    rcases Int.lt_or_le ((trs W H f k).of k) 0 with h | h
    · rw [trs_no h]
      simp only
      rcases Nat.lt_or_ge s k with h' | h'
      · exact mk_ge (by omega) _ _ (trs_done hv k s (by omega) h')
      · have es : s = (sg H (wkr H k)).toNat := by rw [hsg]; omega
        rw [es]
        exact mk_first (by omega) _ (per_pos ..)
    · rw [trs_yes h]
      rcases Nat.lt_or_ge s k with h' | h'
      · exact trs_done hv k s (by omega) h'
      · rw [show s = k by omega]; exact h
end Go.Proofs.YtbpdjmjkjiddjaaDoor.Base
