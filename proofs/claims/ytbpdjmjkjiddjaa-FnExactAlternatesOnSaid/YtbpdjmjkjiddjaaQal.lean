/-
  AlternatesOn: the model's and the program's.
-/
import Derived.Test.YtbpdjmjkjiddjaaQps
namespace Go.Proofs.Ytbpdjmjkjiddjaa.Base
open Go Go.RowKit
set_option linter.unusedVariables false
set_option linter.unusedSimpArgs false

/-- is pass k over? -/
def ovP (g : Nat → Int) (k : Nat) : Bool := g (k * 2 + 1) != 0
def altB (n : Nat) (g : Nat → Int) : Bool := decide (∀ k, k < n → ovP g k ≠ ovP g ((k + 1) % n))
theorem alt_no {n : Nat} {g : Nat → Int} {k : Nat} {v : Bool} (hk : k < n) (h1 : ovP g k = v) (h2 : ovP g ((k + 1) % n) = v) : altB n g = false :=
  decide_eq_false (fun h => h k hk (h1.trans h2.symm))
theorem alt_yes {n : Nat} {g : Nat → Int} (h : ∀ k, k < n → ovP g k ≠ ovP g ((k + 1) % n)) : altB n g = true := decide_eq_true h
theorem rem_next {k n : Nat} (hk : k < n) : ((k : Int) + 1) % (n : Int) = (((k + 1) % n : Nat) : Int) ∧ ((k : Int) + 1).tmod (n : Int) = (((k + 1) % n : Nat) : Int) := by
  have h : ((k : Int) + 1) % (n : Int) = (((k + 1) % n : Nat) : Int) := by rw [Int.natCast_emod]; rfl
  exact ⟨h, by rw [Int.tmod_eq_emod_of_nonneg (by omega)]; exact h⟩
set_option maxHeartbeats 1000000 in
theorem spec_alternates (w : World) (A : Option Addr) (n c : Nat) (g : Nat → Int) (hr : RowP w A n c g) :
    Calls Try.prog 30 #[.slice A n c] w (Gives (.bool (altB n g)) w) := by
  have hnc := hr.1
  have hcm := hr.2.1
  unfold maxLen at hcm
  have HR := Lib.hid hr
  clear hr
  go_enter Try.func30, Try.ntmps30
  go_wp2
  go_loopw [3] (fun i wr => ∃ k : Nat, k ≤ n ∧ i = .int .i64 k ∧ Hid (∀ j, j < k → ovP g j ≠ ovP g ((j + 1) % n)) ∧ Hid (Below w.heap.size w wr)) (fun i _ => n - (intOf i).toNat)
  case atStart => exact ⟨0, Nat.zero_le _, rfl, Lib.hid (fun j h => absurd h (Nat.not_lt_zero _)), Lib.hid (Below.refl _ _)⟩
  case round =>
    obtain ⟨k, hk, rfl, HA, HB⟩ := hrel
    by_cases hlt : k < n
    · obtain ⟨q, hq⟩ : ∃ q, (k + 1) % n = q := ⟨_, rfl⟩
      have hqn : q < n := by rw [← hq]; exact Nat.mod_lt _ (by omega)
      obtain ⟨r1, r2⟩ := rem_next hlt
      obtain ⟨b, o, rfl, hbl, c0, m1⟩ := (HR.out.below HB.out (Nat.le_refl _)).two hlt
      obtain ⟨b', o', e', -, -, p1⟩ := (HR.out.below HB.out (Nat.le_refl _)).two hqn
      injection e' with e'
      injection e' with e1 e2
      subst e1 e2
      obtain ⟨v1, hv1⟩ : ∃ v, ovP g k = v := ⟨_, rfl⟩
      obtain ⟨v2, hv2⟩ : ∃ v, ovP g q = v := ⟨_, rfl⟩
      have c1 : wr.cell? ⟨b, o + k * 2 + 1, none⟩ = some (.bool v1) := by rw [m1, ← hv1]; rfl
      have d1 : wr.cell? ⟨b, o + q * 2 + 1, none⟩ = some (.bool v2) := by rw [p1, ← hv2]; rfl
      rw [hq] at r1 r2
      have HQ := Lib.hid hq
      have HV1 := Lib.hid hv1
      have HV2 := Lib.hid hv2
      have hn0 : ((n : Int) == 0) = false := by simp; omega
      clear hq hv1 hv2 m1 p1
      by_cases hvv : v1 = v2
      · have HF := Lib.hid (alt_no hlt HV1.out (by rw [HQ.out, HV2.out, hvv]))
        subst hvv
        go_wp2
        go_quiet (fail)
        go_wp2
        go_ret
        exact ⟨ret_bool HF.out.symm, HB.out.trans (below_drewN (Below.refl _ _) _)⟩
      · have hvb : (v1 == v2) = false := beq_eq_false_iff_ne.2 hvv
        have HVN := Lib.hid hvv
        clear hvv
        go_wp2
        go_quiet (fail)
        go_wp2
        go_roundw
        case rel =>
          refine ⟨k + 1, by omega, by go_num, Lib.hid (fun j hj => ?_), Lib.hid (HB.out.trans ((below_drewN (Below.refl _ _) _).mono HB.out.size))⟩
          rcases Nat.lt_succ_iff_lt_or_eq.1 hj with h | rfl
          · exact HA.out j h
          · rw [HV1.out, HQ.out, HV2.out]; exact HVN.out
        case measure => simp [intOf]; omega
    · obtain rfl : k = n := by omega
      go_wp2
      go_ret
      exact ⟨ret_bool (alt_yes HA.out).symm, HB.out⟩
set_option maxHeartbeats 1000000 in
theorem impl_alternates (w : World) (A : Option Addr) (n c : Nat) (g : Nat → Int) (hr : RowP w A n c g) :
    Calls Try.prog 32 #[.slice A n c] w (Gives (.bool (altB n g)) w) := by
  have hnc := hr.1
  have hcm := hr.2.1
  unfold maxLen at hcm
  have HR := Lib.hid hr
  clear hr
  go_enter Try.func32, Try.ntmps32
  go_wp2
  go_loopw [7] (fun i wr => ∃ k : Nat, k ≤ n ∧ i = .int .i64 k ∧ Hid (∀ j, j < k → ovP g j ≠ ovP g ((j + 1) % n)) ∧ Hid (Below w.heap.size w wr)) (fun i _ => n - (intOf i).toNat)
  case atStart => exact ⟨0, Nat.zero_le _, rfl, Lib.hid (fun j h => absurd h (Nat.not_lt_zero _)), Lib.hid (Below.refl _ _)⟩
  case round =>
    obtain ⟨k, hk, rfl, HA, HB⟩ := hrel
    by_cases hlt : k < n
    · obtain ⟨q, hq⟩ : ∃ q, (k + 1) % n = q := ⟨_, rfl⟩
      have hqn : q < n := by rw [← hq]; exact Nat.mod_lt _ (by omega)
      obtain ⟨r1, r2⟩ := rem_next hlt
      obtain ⟨b, o, rfl, hbl, c0, m1⟩ := (HR.out.below HB.out (Nat.le_refl _)).two hlt
      obtain ⟨b', o', e', -, -, p1⟩ := (HR.out.below HB.out (Nat.le_refl _)).two hqn
      injection e' with e'
      injection e' with e1 e2
      subst e1 e2
      obtain ⟨v1, hv1⟩ : ∃ v, ovP g k = v := ⟨_, rfl⟩
      obtain ⟨v2, hv2⟩ : ∃ v, ovP g q = v := ⟨_, rfl⟩
      obtain ⟨z1, hz1⟩ : ∃ z, g (k * 2) = z := ⟨_, rfl⟩
      have c1 : wr.cell? ⟨b, o + k * 2 + 1, none⟩ = some (.bool v1) := by rw [m1, ← hv1]; rfl
      have d1 : wr.cell? ⟨b, o + q * 2 + 1, none⟩ = some (.bool v2) := by rw [p1, ← hv2]; rfl
      rw [hz1] at c0
      rw [hq] at r1 r2
      have BN := (Below.refl wr.heap.size wr).alloc (Nat.le_refl _) (.cells #[.int .i64 z1, .bool v1] 90)
      have HBN := Lib.hid BN
      have d1' := (BN.cell (p := ⟨b, o + q * 2 + 1, none⟩) hbl).trans d1
      have HQ := Lib.hid hq
      have HV1 := Lib.hid hv1
      have HV2 := Lib.hid hv2
      have hn0 : ((n : Int) == 0) = false := by simp; omega
      have hne : b ≠ wr.heap.size := Nat.ne_of_lt hbl
      clear hq hv1 hv2 hz1 BN m1 p1
      by_cases hvv : v1 = v2
      · have HF := Lib.hid (alt_no hlt HV1.out (by rw [HQ.out, HV2.out, hvv]))
        subst hvv
        go_wp2
        go_quiet (fail)
        go_wp2
        go_ret
        exact ⟨ret_bool HF.out.symm, HB.out.trans ((below_drewN HBN.out _).mono HB.out.size)⟩
      · have hvb : (v1 == v2) = false := beq_eq_false_iff_ne.2 hvv
        have HVN := Lib.hid hvv
        clear hvv
        go_wp2
        go_quiet (fail)
        go_wp2
        go_roundw
        case rel =>
          refine ⟨k + 1, by omega, by go_num, Lib.hid (fun j hj => ?_), Lib.hid (HB.out.trans ((below_drewN HBN.out _).mono HB.out.size))⟩
          rcases Nat.lt_succ_iff_lt_or_eq.1 hj with h | rfl
          · exact HA.out j h
          · rw [HV1.out, HQ.out, HV2.out]; exact HVN.out
        case measure => simp [intOf]; omega
    · obtain rfl : k = n := by omega
      go_wp2
      go_ret
      exact ⟨ret_bool (alt_yes HA.out).symm, HB.out⟩
end Go.Proofs.Ytbpdjmjkjiddjaa.Base
