/-
  Tracing: the curves part the segments. A curve has no segment twice, a step stays on its curve, and a curve has as many segments as its walk is long.
-/
import Derived.Test.YtbpdjmjkjiddjaaDoorTrc
namespace Go.Proofs.YtbpdjmjkjiddjaaDoor.Base
open Go.RowKit
set_option linter.unusedVariables false

theorem bkw_bkw (v : W4) : bkw (bkw v) = v := by
  obtain ⟨x, y, dx, dy⟩ := v
  simp only [bkw, Prod.mk.injEq]
  omega
theorem low_back {a d : Int} (h : d = 1 ∨ d = -1) : lowI (a + d) (-d) = lowI a d := by
  rcases h with rfl | rfl
  · unfold lowI; rw [if_neg (by omega), if_pos rfl]; omega
  · unfold lowI; rw [if_pos (by omega), if_neg (by omega)]
theorem bkw_sg {W H : Int} {n : Nat} {f : Nat → Int} {v : W4} (h : okW W H n f v = true) : sg H (bkw v) = sg H v := by
  obtain ⟨-, -, -, -, -, -, g1, g2⟩ := goW h
  show lowI (v.1 + v.2.2.1) (-v.2.2.1) * 2 * H + lowI (v.2.1 + v.2.2.2) (-v.2.2.2) = lowI v.1 v.2.2.1 * 2 * H + lowI v.2.1 v.2.2.2
  rw [low_back (sign_yes g1), low_back (sign_yes g2)]
theorem bkw_ok {W H : Int} {n : Nat} {f : Nat → Int} {v : W4} (h : okW W H n f v = true) : okW W H n f (bkw v) = true := by
  obtain ⟨hv, hg⟩ := wk_valid h
  obtain ⟨s1, s2, p1, p2⟩ := go_yes hg
  show wkB W H n f (v.1 + v.2.2.1) (v.2.1 + v.2.2.2) (-v.2.2.1) (-v.2.2.2) = true
  have t1 : signB (-v.2.2.1) = true := by rcases sign_yes s1 with e | e <;> rw [e] <;> rfl
  have t2 : signB (-v.2.2.2) = true := by rcases sign_yes s2 with e | e <;> rw [e] <;> rfl
  rw [wk_is hv, go_is t1 t2 p2]
  rw [show v.1 + v.2.2.1 + -v.2.2.1 = v.1 by omega, show v.2.1 + v.2.2.2 + -v.2.2.2 = v.2.1 by omega]
  exact p1
theorem sg_eq {W H : Int} {n : Nat} {f : Nat → Int} {u v : W4} (hu : okW W H n f u = true) (hv : okW W H n f v = true) (h : sg H u = sg H v) : u = v ∨ u = bkw v := by
  obtain ⟨hva, hg⟩ := wk_valid hu
  obtain ⟨-, hg'⟩ := wk_valid hv
  obtain ⟨hW, hH, -, -⟩ := validB_yes hva
  obtain ⟨b1, b2⟩ := side_mk hH
  obtain ⟨s1, s2, p1, p2⟩ := go_yes hg
  obtain ⟨t1, t2, q1, q2⟩ := go_yes hg'
  obtain ⟨-, -, y1, y2, e1⟩ := has_yes p1
  obtain ⟨-, -, y3, y4, -⟩ := has_yes p2
  obtain ⟨-, -, z1, z2, e2⟩ := has_yes q1
  obtain ⟨-, -, z3, z4, -⟩ := has_yes q2
  have d1 := sign_yes s1
  have d2 := sign_yes s2
  have d3 := sign_yes t1
  have d4 := sign_yes t2
  obtain ⟨x, y, dx, dy⟩ := u
  obtain ⟨x', y', dx', dy'⟩ := v
  simp only at *
  have h' : lowI x dx * 2 * H + lowI y dy = lowI x' dx' * 2 * H + lowI y' dy' := h
  have r1 : 0 ≤ lowI y dy ∧ lowI y dy < 2 * H := by unfold lowI; split <;> omega
  have r2 : 0 ≤ lowI y' dy' ∧ lowI y' dy' < 2 * H := by unfold lowI; split <;> omega
  have ey : lowI y dy = lowI y' dy' := by
    have m1 : (lowI x dx * 2 * H + lowI y dy) % (2 * H) = lowI y dy := by
      rw [Int.mul_assoc, Int.add_comm, Int.add_mul_emod_self_right]
      exact Int.emod_eq_of_lt r1.1 r1.2
    have m2 : (lowI x' dx' * 2 * H + lowI y' dy') % (2 * H) = lowI y' dy' := by
      rw [Int.mul_assoc, Int.add_comm, Int.add_mul_emod_self_right]
      exact Int.emod_eq_of_lt r2.1 r2.2
    rw [← m1, ← m2, h']
  have ex : lowI x dx = lowI x' dx' := by
    have m : lowI x dx * (2 * H) = lowI x' dx' * (2 * H) := by rw [← Int.mul_assoc, ← Int.mul_assoc]; omega
    exact Int.eq_of_mul_eq_mul_right (by omega) m
  clear h h' r1 r2
  simp only [bkw, Prod.mk.injEq]
  unfold lowI at ex ey
  rcases d1 with rfl | rfl <;> rcases d2 with rfl | rfl <;> rcases d3 with rfl | rfl <;> rcases d4 with rfl | rfl <;> simp at ex ey ⊢ <;> omega

/-- u stands on v's walk -/
def Orb (W H : Int) (f : Nat → Int) (v : W4) (N : Nat) (u : W4) : Prop := ∃ t, t < N ∧ u = stps W H f t v
/-- the segment s is on v's walk -/
def OnC (W H : Int) (f : Nat → Int) (v : W4) (N : Nat) (s : Nat) : Prop := ∃ t, t < N ∧ s = (sg H (stps W H f t v)).toNat
theorem orb_stp {W H : Int} {f : Nat → Int} {v u : W4} {N : Nat} (hN : IsPer W H f v N) : Orb W H f v N (stp W H f u) ↔ Orb W H f v N u := by
  obtain ⟨h1, -, h3, -⟩ := hN
  constructor
  · rintro ⟨t, ht, e⟩
    cases t with
    | zero =>
      refine ⟨N - 1, by omega, ?_⟩
      refine stp_inj (W := W) (H := H) (f := f) ?_
      show stp W H f u = stps W H f (N - 1 + 1) v
      rw [show N - 1 + 1 = N by omega, h3]
      exact e
    | succ t => exact ⟨t, by omega, stp_inj e⟩
  · rintro ⟨t, ht, e⟩
    by_cases h : t + 1 = N
    · refine ⟨0, by omega, ?_⟩
      rw [e]
      show stps W H f (t + 1) v = v
      rw [h]; exact h3
    · exact ⟨t + 1, by omega, by rw [e]; rfl⟩
theorem sg_nat {W H : Int} {n : Nat} {f : Nat → Int} {u v : W4} (hu : okW W H n f u = true) (hv : okW W H n f v = true) (h : (sg H u).toNat = (sg H v).toNat) : sg H u = sg H v := by
  have := (sg_rng hu).1
  have := (sg_rng hv).1
  omega
theorem on_orb {W H : Int} {n : Nat} {f : Nat → Int} {v u : W4} {N : Nat} (hv : okW W H n f v = true) (hu : okW W H n f u = true) : OnC W H f v N (sg H u).toNat ↔ (Orb W H f v N u ∨ Orb W H f v N (bkw u)) := by
  constructor
  · rintro ⟨t, ht, e⟩
    have hs := stps_ok hv t
    rcases sg_eq hu hs (sg_nat hu hs e) with h | h
    · exact .inl ⟨t, ht, h⟩
    · exact .inr ⟨t, ht, by rw [h, bkw_bkw]⟩
  · rintro (⟨t, ht, e⟩ | ⟨t, ht, e⟩)
    · exact ⟨t, ht, by rw [e]⟩
    · exact ⟨t, ht, by rw [← e, bkw_sg hu]⟩
theorem on_step {W H : Int} {n : Nat} {f : Nat → Int} {v u : W4} {N : Nat} (hv : okW W H n f v = true) (hN : IsPer W H f v N) (hu : okW W H n f u = true) : OnC W H f v N (sg H (stp W H f u)).toNat ↔ OnC W H f v N (sg H u).toNat := by
  rw [on_orb hv hu, on_orb hv (show okW W H n f (stp W H f u) = true from stps_ok hu 1)]
  show (Orb W H f v N (stp W H f u) ∨ Orb W H f v N (bkw (stp W H f u))) ↔ _
  rw [orb_stp hN, ← orb_stp (u := bkw (stp W H f u)) hN, stp_back]

theorem mkd_yes {W H : Int} {f : Nat → Int} {v : W4} {i : Int} {of : Nat → Int} : ∀ {j s : Nat}, OnC W H f v j s → mkd W H f v i of j s = i
  | 0, s, ⟨t, ht, _⟩ => absurd ht (by omega)
  | j + 1, s, ⟨t, ht, e⟩ => by
    rw [mkd_succ]
    split
    · rfl
    · next h =>
      refine mkd_yes ⟨t, ?_, e⟩
      rcases Nat.lt_or_ge t j with h' | h'
      · exact h'
      · exact absurd (by rw [e, show t = j by omega]) h
theorem mkd_no {W H : Int} {f : Nat → Int} {v : W4} {i : Int} {of : Nat → Int} : ∀ {j s : Nat}, ¬ OnC W H f v j s → mkd W H f v i of j s = of s
  | 0, s, _ => rfl
  | j + 1, s, h => by
    rw [mkd_succ, if_neg (fun e => h ⟨j, by omega, e⟩)]
    exact mkd_no (fun ⟨t, ht, e⟩ => h ⟨t, by omega, e⟩)
/-- a step stays on its curve -/
def Closed (W H : Int) (n : Nat) (f : Nat → Int) (g : Nat → Int) : Prop := ∀ u, okW W H n f u = true → g (sg H (stp W H f u)).toNat = g (sg H u).toNat
theorem mkd_closed {W H : Int} {n : Nat} {f : Nat → Int} {v : W4} {i : Int} {of : Nat → Int} {N : Nat} (hv : okW W H n f v = true) (hN : IsPer W H f v N) (hc : Closed W H n f of) : Closed W H n f (mkd W H f v i of N) := fun u hu => by
  have hs := on_step hv hN hu
  by_cases h : OnC W H f v N (sg H u).toNat
  · rw [mkd_yes h, mkd_yes (hs.2 h)]
  · rw [mkd_no h, mkd_no (fun h' => h (hs.1 h')), hc u hu]
theorem trs_closed {W H : Int} {n : Nat} {f : Nat → Int} (hv : validB W H n f = true) : ∀ (k : Nat), (k : Int) ≤ 4 * W * H → Closed W H n f (trs W H f k).of
  | 0, _ => fun u _ => rfl
  | k + 1, hk => by
    have ih := trs_closed hv k (by omega)
    rcases Int.lt_or_le ((trs W H f k).of k) 0 with h | h
    · rw [trs_no h]
      have hok := (wkr_ok hv (k := k) (by omega)).1
      exact mkd_closed hok (per_is hok) ih
    · rw [trs_yes h]; exact ih
theorem closed_stps {W H : Int} {n : Nat} {f g : Nat → Int} {v : W4} (hc : Closed W H n f g) (hv : okW W H n f v = true) : ∀ t, g (sg H (stps W H f t v)).toNat = g (sg H v).toNat
  | 0 => rfl
  | t + 1 => (hc _ (stps_ok hv t)).trans (closed_stps hc hv t)

theorem no_back {W H : Int} {n : Nat} {f : Nat → Int} {v : W4} (hv : okW W H n f v = true) : ∀ (d i : Nat), stps W H f i v = bkw (stps W H f (i + d) v) → False
  | 0, i, e => by
    obtain ⟨-, -, -, -, -, -, g1, -⟩ := goW (stps_ok hv i)
    have e1 : (stps W H f i v).2.2.1 = -(stps W H f i v).2.2.1 := congrArg (fun u : W4 => u.2.2.1) e
    have := sign_yes g1
    omega
  | 1, i, e => by
    obtain ⟨-, -, -, -, -, -, g1, g2⟩ := goW (stps_ok hv i)
    have e1 : (stps W H f i v).2.2.1 = -(stp W H f (stps W H f i v)).2.2.1 := congrArg (fun u : W4 => u.2.2.1) e
    have e2 : (stps W H f i v).2.2.2 = -(stp W H f (stps W H f i v)).2.2.2 := congrArg (fun u : W4 => u.2.2.2) e
    have d1 := sign_yes g1
    have d2 := sign_yes g2
    simp only [stp, stDX, stDY] at e1 e2
    split at e1 <;> split at e2 <;> omega
  | d + 2, i, e => by
    refine no_back hv d (i + 1) ?_
    show stp W H f (stps W H f i v) = _
    rw [e]
    have h := stp_back W H f (stps W H f (i + 1 + d) v)
    rw [← h]
    have q : i + (d + 2) = i + 1 + d + 1 := by omega
    rw [q]
    rfl
theorem segs_apart {W H : Int} {n : Nat} {f : Nat → Int} {v : W4} {N : Nat} (hv : okW W H n f v = true) (hN : IsPer W H f v N) {i j : Nat} (h1 : i < j) (h2 : j < N) : (sg H (stps W H f j v)).toNat ≠ (sg H (stps W H f i v)).toNat := fun e => by
  have hi := stps_ok hv i
  have hj := stps_ok hv j
  rcases sg_eq hi hj (sg_nat hi hj e.symm) with h | h
  · have e3 : stps W H f j v = stps W H f i (stps W H f (j - i) v) := by rw [← stps_add, show j - i + i = j by omega]
    rw [e3] at h
    exact hN.2.2.2 (j - i) (by omega) (by omega) (stps_inj i h).symm
  · exact no_back hv (j - i) i (by rw [show i + (j - i) = j by omega]; exact h)

/-- how often g is i below k -/
def cntE (g : Nat → Int) (i : Int) : Nat → Nat
  | 0 => 0
  | k + 1 => cntE g i k + (if g k = i then 1 else 0)
theorem cntE_succ (g : Nat → Int) (i : Int) (k : Nat) : cntE g i (k + 1) = cntE g i k + (if g k = i then 1 else 0) := rfl
theorem cntE_le (g : Nat → Int) (i : Int) : ∀ k, cntE g i k ≤ k
  | 0 => Nat.le_refl _
  | k + 1 => by rw [cntE_succ]; have := cntE_le g i k; split <;> omega
theorem cntE_zero {g : Nat → Int} {i : Int} : ∀ {k : Nat}, (∀ s, s < k → g s ≠ i) → cntE g i k = 0
  | 0, _ => rfl
  | k + 1, h => by rw [cntE_succ, if_neg (h k (by omega)), cntE_zero (fun s hs => h s (by omega))]
theorem cntE_upd {g g' : Nat → Int} {i : Int} {s0 : Nat} (hg : ∀ s, s ≠ s0 → g' s = g s) : ∀ (k : Nat), k ≤ s0 → cntE g' i k = cntE g i k
  | 0, _ => rfl
  | k + 1, h => by rw [cntE_succ, cntE_succ, cntE_upd hg k (by omega), hg k (by omega)]
theorem cntE_in {g g' : Nat → Int} {i : Int} {s0 : Nat} (hg : ∀ s, s ≠ s0 → g' s = g s) (h0 : g s0 ≠ i) (h1 : g' s0 = i) : ∀ (k : Nat), s0 < k → cntE g' i k = cntE g i k + 1
  | 0, h => absurd h (by omega)
  | k + 1, h => by
    rw [cntE_succ, cntE_succ]
    by_cases e : k = s0
    · subst e
      rw [if_pos h1, if_neg h0, cntE_upd hg k (Nat.le_refl _)]
    · rw [cntE_in hg h0 h1 k (by omega), hg k e]
      omega
theorem cntE_out {g g' : Nat → Int} {i : Int} {s0 : Nat} (hg : ∀ s, s ≠ s0 → g' s = g s) (h0 : g s0 ≠ i) (h1 : g' s0 ≠ i) : ∀ (k : Nat), cntE g' i k = cntE g i k
  | 0 => rfl
  | k + 1 => by
    rw [cntE_succ, cntE_succ, cntE_out hg h0 h1 k]
    by_cases e : k = s0
    · subst e
      rw [if_neg h1, if_neg h0]
    · rw [hg k e]
theorem mkd_cnt {W H : Int} {n : Nat} {f : Nat → Int} {v : W4} {i : Int} {of : Nat → Int} {N : Nat} (hv : okW W H n f v = true) (hN : IsPer W H f v N) (ho : ∀ s, of s ≠ i) : ∀ j, j ≤ N → cntE (mkd W H f v i of j) i (4 * W * H).toNat = j
  | 0, _ => cntE_zero (fun s _ => ho s)
  | j + 1, hj => by
    have hs := sg_rng (stps_ok hv j)
    rw [cntE_in (g := mkd W H f v i of j) (s0 := (sg H (stps W H f j v)).toNat) (fun s h => by rw [mkd_succ, if_neg h]) ?_ (by rw [mkd_succ, if_pos rfl]) _ (by omega), mkd_cnt hv hN ho j (by omega)]
    rw [mkd_no (fun ⟨t, ht, e⟩ => segs_apart hv hN ht (by omega) e)]
    exact ho _
theorem mkd_cnt' {W H : Int} {f : Nat → Int} {v : W4} {i i' : Int} {of : Nat → Int} (hne : i ≠ i') (ho : ∀ t, of (sg H (stps W H f t v)).toNat ≠ i') (M : Nat) : ∀ j, cntE (mkd W H f v i of j) i' M = cntE of i' M
  | 0 => rfl
  | j + 1 => by
    rw [cntE_out (g := mkd W H f v i of j) (s0 := (sg H (stps W H f j v)).toNat) (fun s h => by rw [mkd_succ, if_neg h]) ?_ (by rw [mkd_succ, if_pos rfl]; exact hne) M, mkd_cnt' hne ho M j]
    rcases mk_cases W H f v i of j (sg H (stps W H f j v)).toNat with e | e <;> rw [e]
    · exact ho j
    · exact hne
/-- a curve has as many segments as its walk is long -/
theorem trs_len {W H : Int} {n : Nat} {f : Nat → Int} (hv : validB W H n f = true) : ∀ (k : Nat), (k : Int) ≤ 4 * W * H → ∀ i, i < (trs W H f k).cnt → cntE (trs W H f k).of i (4 * W * H).toNat = per W H f (wkr H ((trs W H f k).st i))
  | 0, _, i, hi => absurd hi (by show ¬ i < 0; omega)
  | k + 1, hk, i, hi => by
    have ih := trs_len hv k (by omega)
    rcases Int.lt_or_le ((trs W H f k).of k) 0 with h | h
    · obtain ⟨hok, hsg⟩ := wkr_ok hv (k := k) (by omega)
      rw [trs_no h] at hi ⊢
      simp only at hi ⊢
      by_cases e : i = (trs W H f k).cnt
      · rw [if_pos e, e]
        exact mkd_cnt hok (per_is hok) (fun s => by have := (trs_of_ge W H f k s).2.1; omega) _ (Nat.le_refl _)
      · rw [if_neg e, mkd_cnt' (by omega) ?_, ih i (by omega)]
        intro t
        rw [closed_stps (trs_closed hv k (by omega)) hok t, hsg]
        simp only [Int.toNat_natCast]
        omega
    · rw [trs_yes h] at hi ⊢
      exact ih i hi
end Go.Proofs.YtbpdjmjkjiddjaaDoor.Base
