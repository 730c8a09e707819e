/-
  Walks in panels without breaks: the formula is the walk; when a walk comes back.
-/
import Derived.Test.YtajikegfladelaaPlw
import Derived.Test.YtajikegfladelaaItr
namespace Go.Proofs.Ytajikegfladelaa.Base
open Go Go.RowKit
set_option linter.unusedVariables false
set_option linter.unusedSimpArgs false

section
variable {E x d : Int}
theorem phE_succ {m a d : Int} (k : Nat) (hm : 1 ≤ m) : phE m a d ((k : Int) + 1) = if phE m a d k + 1 < m then phE m a d k + 1 else 0 := by
  obtain ⟨h1, h2⟩ := phE_bd (m := m) (at' := a) (d := d) (s := (k : Int)) hm
  have e : phE m a d ((k : Int) + 1) = (phE m a d k + 1) % m := by
    unfold phE
    rw [Int.emod_add_emod, Int.add_assoc]
  rw [e]
  split
  · next h => exact Int.emod_eq_of_lt (by omega) h
  · next h => rw [show phE m a d k + 1 = m by omega, Int.emod_self]
theorem mv_zero (h1 : 0 ≤ x) (h2 : x ≤ E) (h3 : 0 ≤ x + d) (h4 : x + d ≤ E) (hd : signB d = true) : mvE E x d 0 = x ∧ mvG E x d 0 = d := by
  rcases sign_yes hd with rfl | rfl
  · have e : phE (2 * E) x 1 0 = x := by
      unfold phE phS
      rw [if_neg (by omega), Int.add_zero]
      exact Int.emod_eq_of_lt h1 (by omega)
    unfold mvE mvG
    rw [e, if_pos (by omega), if_pos (by omega)]
    exact ⟨rfl, rfl⟩
  · have e : phE (2 * E) x (-1) 0 = 2 * E - x := by
      unfold phE phS
      rw [if_pos (by omega), Int.add_zero]
      exact Int.emod_eq_of_lt (by omega) (by omega)
    unfold mvE mvG
    rw [e, if_neg (by omega), if_neg (by omega)]
    exact ⟨by omega, rfl⟩
theorem mv_succ (hE : 1 ≤ E) (k : Nat) : mvE E x d ((k : Int) + 1) = mvE E x d k + mvG E x d k ∧
    mvG E x d ((k : Int) + 1) = if mvE E x d k + mvG E x d k = 0 ∨ mvE E x d k + mvG E x d k = E then - mvG E x d k else mvG E x d k := by
  obtain ⟨h1, h2⟩ := phE_bd (m := 2 * E) (at' := x) (d := d) (s := (k : Int)) (by omega)
  have e := phE_succ (m := 2 * E) (a := x) (d := d) k (by omega)
  unfold mvE mvG
  rw [e]
  generalize phE (2 * E) x d k = p at *
  constructor
  · repeat' split
    all_goals omega
  · repeat' split
    all_goals omega
end
theorem plain_walk {W H x y dx dy : Int} (hW : sideB W = true) (hH : sideB H = true) (hg : goB W H x y dx dy = true) : ∀ k : Nat,
    stps W H (fun _ => 0) k (x, y, dx, dy) = (mvE (2 * W) x dx k, mvE (2 * H) y dy k, mvG (2 * W) x dx k, mvG (2 * H) y dy k) ∧
    0 ≤ mvE (2 * W) x dx k ∧ mvE (2 * W) x dx k ≤ 2 * W ∧ 0 ≤ mvE (2 * H) y dy k ∧ mvE (2 * H) y dy k ≤ 2 * H ∧ (mvE (2 * W) x dx k + mvE (2 * H) y dy k) % 2 = 1 ∧
    signB (mvG (2 * W) x dx k) = true ∧ signB (mvG (2 * H) y dy k) = true
  | 0 => by
    obtain ⟨s1, s2, p1, p2⟩ := go_yes hg
    obtain ⟨x1, x2, y1, y2, hm⟩ := has_yes p1
    obtain ⟨u1, u2, v1, v2, -⟩ := has_yes p2
    obtain ⟨e1, e2⟩ := mv_zero (E := 2 * W) x1 x2 u1 u2 s1
    obtain ⟨e3, e4⟩ := mv_zero (E := 2 * H) y1 y2 v1 v2 s2
    show (x, y, dx, dy) = _ ∧ _
    simp only [Int.ofNat_eq_natCast, Int.natCast_zero] at *
    rw [e1, e2, e3, e4]
    exact ⟨rfl, x1, x2, y1, y2, hm, s1, s2⟩
  | k + 1 => by
    obtain ⟨a1, a2⟩ := side_mk hW
    obtain ⟨b1, b2⟩ := side_mk hH
    obtain ⟨ih, i1, i2, i3, i4, i5, i6, i7⟩ := plain_walk hW hH hg k
    obtain ⟨e1, e2⟩ := mv_succ (E := 2 * W) (x := x) (d := dx) (by omega) k
    obtain ⟨e3, e4⟩ := mv_succ (E := 2 * H) (x := y) (d := dy) (by omega) k
    have j1 : 0 ≤ mvE (2 * W) x dx ((k : Int) + 1) ∧ mvE (2 * W) x dx ((k : Int) + 1) ≤ 2 * W := by
      obtain ⟨h1, h2⟩ := phE_bd (m := 2 * (2 * W)) (at' := x) (d := dx) (s := (k : Int) + 1) (by omega)
      unfold mvE
      split <;> omega
    have j3 : 0 ≤ mvE (2 * H) y dy ((k : Int) + 1) ∧ mvE (2 * H) y dy ((k : Int) + 1) ≤ 2 * H := by
      obtain ⟨h1, h2⟩ := phE_bd (m := 2 * (2 * H)) (at' := y) (d := dy) (s := (k : Int) + 1) (by omega)
      unfold mvE
      split <;> omega
    have es : stps W H (fun _ => 0) (k + 1) (x, y, dx, dy) = stp W H (fun _ => 0) (stps W H (fun _ => 0) k (x, y, dx, dy)) := rfl
    rw [es, ih]
    simp only [stp, stDX, stDY, tkOf]
    have hk : ((k + 1 : Nat) : Int) = (k : Int) + 1 := by omega
    rw [hk]
    rw [e1] at j1
    rw [e3] at j3
    have d1 := sign_yes i6
    have d2 := sign_yes i7
    have hm : (mvE (2 * W) x dx k + mvG (2 * W) x dx k + (mvE (2 * H) y dy k + mvG (2 * H) y dy k)) % 2 = 1 := by omega
    have f1 : signB (mvG (2 * W) x dx ((k : Int) + 1)) = true := by
      rw [e2]
      unfold signB
      split <;> (apply decide_eq_true; omega)
    have f2 : signB (mvG (2 * H) y dy ((k : Int) + 1)) = true := by
      rw [e4]
      unfold signB
      split <;> (apply decide_eq_true; omega)
    refine ⟨?_, by omega, by omega, by omega, by omega, by omega, f1, f2⟩
    rw [e1, e2, e3, e4]
    generalize mvE (2 * W) x dx k = X at *
    generalize mvE (2 * H) y dy k = Y at *
    generalize mvG (2 * W) x dx k = DX at *
    generalize mvG (2 * H) y dy k = DY at *
    simp only [Prod.mk.injEq, true_and]
    by_cases c1 : X + DX = 0 ∨ X + DX = 2 * W
    · have c2 : ¬ (Y + DY = 0 ∨ Y + DY = 2 * H) := by omega
      simp only [if_pos c1, if_neg c2]
      simp
    · by_cases c2 : Y + DY = 0 ∨ Y + DY = 2 * H
      · simp only [if_pos c2, if_neg c1]
        simp
      · simp only [if_neg c2, if_neg c1]
        simp

theorem lcI_nat {W H : Int} (hW : 1 ≤ W) (hH : 1 ≤ H) : lcI W H = (Nat.lcm W.toNat H.toNat : Nat) := by
  obtain ⟨a, rfl⟩ : ∃ a : Nat, W = a := ⟨W.toNat, by omega⟩
  obtain ⟨b, rfl⟩ : ∃ b : Nat, H = b := ⟨H.toNat, by omega⟩
  unfold lcI gcI Nat.lcm
  simp only [Int.toNat_natCast]
  rw [← Int.natCast_ediv, ← Int.natCast_mul]
  congr 1
  exact (Nat.div_mul_right_comm (Nat.gcd_dvd_left a b) b)
theorem lcI_dvd {W H : Int} (hW : 1 ≤ W) (hH : 1 ≤ H) : W ∣ lcI W H ∧ H ∣ lcI W H := by
  rw [lcI_nat hW hH]
  obtain ⟨a, rfl⟩ : ∃ a : Nat, W = a := ⟨W.toNat, by omega⟩
  obtain ⟨b, rfl⟩ : ∃ b : Nat, H = b := ⟨H.toNat, by omega⟩
  simp only [Int.toNat_natCast]
  exact ⟨Int.natCast_dvd_natCast.2 (Nat.dvd_lcm_left a b), Int.natCast_dvd_natCast.2 (Nat.dvd_lcm_right a b)⟩
theorem lcI_least {W H s : Int} (hW : 1 ≤ W) (hH : 1 ≤ H) (hs : 0 ≤ s) (h1 : 4 * W ∣ s) (h2 : 4 * H ∣ s) : 4 * lcI W H ∣ s := by
  rw [lcI_nat hW hH]
  obtain ⟨a, rfl⟩ : ∃ a : Nat, W = a := ⟨W.toNat, by omega⟩
  obtain ⟨b, rfl⟩ : ∃ b : Nat, H = b := ⟨H.toNat, by omega⟩
  obtain ⟨t, rfl⟩ : ∃ t : Nat, s = t := ⟨s.toNat, by omega⟩
  simp only [Int.toNat_natCast]
  have g1 : 4 * a ∣ t := by
    have : ((4 * a : Nat) : Int) ∣ (t : Int) := by simpa using h1
    exact Int.natCast_dvd_natCast.1 this
  have g2 : 4 * b ∣ t := by
    have : ((4 * b : Nat) : Int) ∣ (t : Int) := by simpa using h2
    exact Int.natCast_dvd_natCast.1 this
  have g3 : 4 * Nat.lcm a b ∣ t := by
    rw [← Nat.lcm_mul_left]
    exact Nat.lcm_dvd g1 g2
  have := Int.natCast_dvd_natCast.2 g3
  simpa using this
theorem phE_add {m a d s t : Int} (h : m ∣ t) : phE m a d (t + s) = phE m a d s := by
  obtain ⟨q, rfl⟩ := h
  unfold phE
  rw [show phS m a d + (m * q + s) = phS m a d + s + m * q by omega]
  exact Int.add_mul_emod_self_left _ _ _
theorem mv_add {E a d s t : Int} (h : 2 * E ∣ t) : mvE E a d (t + s) = mvE E a d s ∧ mvG E a d (t + s) = mvG E a d s := by
  unfold mvE mvG
  rw [phE_add h]
  exact ⟨rfl, rfl⟩
/-- where one is, and the direction, tell the phase -/
theorem mv_inj {E a d s t : Int} (hE : 1 ≤ E) (h1 : mvE E a d s = mvE E a d t) (h2 : mvG E a d s = mvG E a d t) : phE (2 * E) a d s = phE (2 * E) a d t := by
  obtain ⟨p1, p2⟩ := phE_bd (m := 2 * E) (at' := a) (d := d) (s := s) (by omega)
  obtain ⟨q1, q2⟩ := phE_bd (m := 2 * E) (at' := a) (d := d) (s := t) (by omega)
  unfold mvE at h1
  unfold mvG at h2
  generalize phE (2 * E) a d s = p at *
  generalize phE (2 * E) a d t = q at *
  by_cases c1 : p < E
  · by_cases c2 : q < E
    · rw [if_pos c1, if_pos c2] at h1; omega
    · rw [if_pos c1, if_neg c2] at h2; omega
  · by_cases c2 : q < E
    · rw [if_neg c1, if_pos c2] at h2; omega
    · rw [if_neg c1, if_neg c2] at h1; omega
theorem mv_back {E a d s : Int} (hE : 1 ≤ E) (h1 : mvE E a d s = mvE E a d 0) (h2 : mvG E a d s = mvG E a d 0) : 2 * E ∣ s := by
  have h := mv_inj hE h1 h2
  unfold phE at h
  have := Int.emod_emod_of_dvd
  have h3 : (phS (2 * E) a d + s - (phS (2 * E) a d + 0)) % (2 * E) = 0 := Int.emod_eq_emod_iff_emod_sub_eq_zero.1 h
  have h4 := Int.dvd_of_emod_eq_zero h3
  rwa [show phS (2 * E) a d + s - (phS (2 * E) a d + 0) = s by omega] at h4
end Go.Proofs.Ytajikegfladelaa.Base
