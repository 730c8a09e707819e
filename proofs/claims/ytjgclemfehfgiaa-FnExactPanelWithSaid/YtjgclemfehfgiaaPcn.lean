/-
  The number of panels of a size, the model's and the program's.
-/
import Derived.Test.YtjgclemfehfgiaaBase
import Derived.Test.YtjgclemfehfgiaaNew
import Derived.IntWalk
namespace Go.Proofs.Ytjgclemfehfgiaa.Base
open Go.RowKit
set_option linter.unusedVariables false
set_option linter.unusedSimpArgs false

/-- 3 to the power of k; 2501 where it is greater than 2500 -/
def mn3 : Nat → Int
  | 0 => 1
  | k + 1 => if 2501 < 3 * mn3 k then 2501 else 3 * mn3 k
theorem mn3_bd : ∀ k, 1 ≤ mn3 k ∧ mn3 k ≤ 2501
  | 0 => by simp [mn3]
  | k + 1 => by
    have := mn3_bd k
    unfold mn3
    split <;> omega
theorem mn3_next {k : Nat} (h : 3 * mn3 k ≤ 2500) : mn3 (k + 1) = 3 * mn3 k := by
  show (if 2501 < 3 * mn3 k then 2501 else 3 * mn3 k) = _
  rw [if_neg (by omega)]
theorem mn3_full {k : Nat} (h : 2500 < 3 * mn3 k) : ∀ d, mn3 (k + 1 + d) = 2501
  | 0 => by
    show (if 2501 < 3 * mn3 k then (2501 : Int) else 3 * mn3 k) = 2501
    by_cases e : 2501 < 3 * mn3 k
    · rw [if_pos e]
    · rw [if_neg e]; omega
  | d + 1 => by
    have := mn3_full h d
    show (if 2501 < 3 * mn3 (k + 1 + d) then (2501 : Int) else 3 * mn3 (k + 1 + d)) = 2501
    rw [if_pos (by omega)]
/-- the number of panels of a size, 2501 where there are more than 2500 -/
def mnP (W H : Int) : Int := mn3 (inner W H).toNat
/-- the code of a size, and the number -/
def pcC (W H : Int) : Int := if sideB W && sideB H then (if 2500 < mnP W H then 5 else 0) else 2
def pcV (W H : Int) : Int := if sideB W && sideB H then (if 2500 < mnP W H then 0 else mnP W H) else 0
theorem pc_no {W H : Int} (h : (sideB W && sideB H) = false) : pcC W H = 2 ∧ pcV W H = 0 := by simp [pcC, pcV, h]
theorem pc_full {W H : Int} (hW : sideB W = true) (hH : sideB H = true) (h : 2500 < mnP W H) : pcC W H = 5 ∧ pcV W H = 0 := by simp [pcC, pcV, hW, hH, h]
theorem pc_ok {W H : Int} (hW : sideB W = true) (hH : sideB H = true) (h : ¬ 2500 < mnP W H) : pcC W H = 0 ∧ pcV W H = mnP W H := by simp [pcC, pcV, hW, hH, h]
theorem pc_zero {W H : Int} (h : pcC W H = 0) : sideB W = true ∧ sideB H = true ∧ mnP W H ≤ 2500 ∧ pcV W H = mnP W H := by
  unfold pcC at h
  cases hW : sideB W <;> cases hH : sideB H <;> rw [hW, hH] at h <;> simp at h
  exact ⟨rfl, rfl, h, (pc_ok hW hH (by omega)).2⟩

theorem spec_min3 (x : Int) (w : World) : Calls Try.prog 32 #[.int .i64 2501, .int .i64 x] w fun e w' => e = .returned (.int .i64 (if 2501 < x then 2501 else x)) ∧ w = w' := by
  by_cases h : 2501 < x
  · rw [if_pos h]
    go_enter Try.func32, Try.ntmps32
    go_wp2
    go_ret
    exact ⟨rfl, rfl⟩
  · rw [if_neg h]
    go_enter Try.func32, Try.ntmps32
    go_wp2
    go_ret
    exact ⟨rfl, rfl⟩
theorem spec_many (W H : Int) (w : World) (hW : sideB W = true) (hH : sideB H = true) : Calls Try.prog 18 #[.int .i64 W, .int .i64 H] w fun e w' => e = .returned (.int .i64 (mnP W H)) ∧ w = w' := by
  obtain ⟨N, hN⟩ : ∃ N : Nat, inner W H = (N : Int) := ⟨(inner W H).toNat, by have := (inner_bd' hW hH).1; omega⟩
  have hN2 : N ≤ 112 := by have := (inner_bd' hW hH).2; omega
  have HN := Lib.hid hN
  have hcall := inner_any W H hW hH w
  rw [hN] at hcall
  have HC := Lib.hid hcall
  have HM := Lib.hid (show mnP W H = mn3 N by unfold mnP; rw [hN]; simp)
  clear hcall hN
  go_enter Try.func18, Try.ntmps18
  go_wp2_with fail
  refine HC.out.mono ?_
  rintro e w1 ⟨rfl, rfl⟩
  go_wp2
  go_loop [5, 6] (fun u v => ∃ (k : Nat) (x : Int), k ≤ N ∧ u = .int .i64 x ∧ 1 ≤ x ∧ x ≤ 2501 ∧ Hid (x = mn3 k) ∧ v = .int .i64 ((N : Int) - (k : Int))) (fun _ v => (intOf v).toNat)
  case atStart => exact ⟨0, 1, Nat.zero_le _, rfl, by omega, by omega, Lib.hid rfl, by simp⟩
  case round =>
    obtain ⟨k, x, hk, rfl, x1, x2, HX, rfl⟩ := hrel
    by_cases hlt : k < N
    · have HX2 := Lib.hid (show (if 2501 < 3 * x then 2501 else 3 * x) = mn3 (k + 1) by rw [HX.out]; rfl)
      obtain ⟨y, hy⟩ : ∃ y, (if 2501 < 3 * x then 2501 else 3 * x) = y := ⟨_, rfl⟩
      have HS := Lib.hid (spec_min3 (3 * x) w)
      rw [hy] at HX2 HS
      have y1 : 1 ≤ y ∧ y ≤ 2501 := by have := mn3_bd (k + 1); have := HX2.out; omega
      clear hy
      go_wp2_with fail
      refine HS.out.mono ?_
      rintro e w1 ⟨rfl, rfl⟩
      go_wp2
      go_round
      case rel => exact ⟨k + 1, y, by omega, rfl, y1.1, y1.2, HX2, by congr 1; omega⟩
      case measure => simp [intOf]; omega
    · obtain rfl : k = N := by omega
      go_wp2
      go_ret
      exact ⟨ret_int (HX.out.trans HM.out.symm), rfl⟩
theorem spec_code12 (W H : Int) (w : World) : Calls Try.prog 17 #[.int .i64 W, .int .i64 H] w fun e w' => e = .returned (.int .i64 (pcC W H)) ∧ w = w' := by
  by_cases ha : sideB W = true
  · by_cases hb : sideB H = true
    · by_cases hm : 2500 < mnP W H
      · rw [(pc_full ha hb hm).1]
        have HM := Lib.hid (spec_many W H w ha hb)
        obtain ⟨m, hmm⟩ : ∃ m, mnP W H = m := ⟨_, rfl⟩
        rw [hmm] at HM hm
        clear hmm
        go_enter Try.func17, Try.ntmps17
        go_wp2_with (first | (go_at_call 30; refine (side_any _ _).mono ?_; rintro e w' ⟨rfl, rfl⟩) | (go_at_call 18; refine HM.out.mono ?_; rintro e w' ⟨rfl, rfl⟩))
        go_ret
        exact ⟨rfl, rfl⟩
      · rw [(pc_ok ha hb hm).1]
        have HM := Lib.hid (spec_many W H w ha hb)
        obtain ⟨m, hmm⟩ : ∃ m, mnP W H = m := ⟨_, rfl⟩
        rw [hmm] at HM hm
        clear hmm
        go_enter Try.func17, Try.ntmps17
        go_wp2_with (first | (go_at_call 30; refine (side_any _ _).mono ?_; rintro e w' ⟨rfl, rfl⟩) | (go_at_call 18; refine HM.out.mono ?_; rintro e w' ⟨rfl, rfl⟩))
        go_ret
        exact ⟨rfl, rfl⟩
    · have hb : sideB H = false := by simpa using hb
      rw [(pc_no (by rw [ha, hb]; rfl)).1]
      go_enter Try.func17, Try.ntmps17
      go_wp2_with (go_at_call 30; refine (side_any _ _).mono ?_; rintro e w' ⟨rfl, rfl⟩)
      go_ret
      exact ⟨rfl, rfl⟩
  · have ha : sideB W = false := by simpa using ha
    rw [(pc_no (by rw [ha]; rfl)).1]
    go_enter Try.func17, Try.ntmps17
    go_wp2_with (go_at_call 30; refine (side_any _ _).mono ?_; rintro e w' ⟨rfl, rfl⟩)
    go_ret
    exact ⟨rfl, rfl⟩
theorem spec_panelCount (W H : Int) (w : World) : Calls Try.prog 6 #[.int .i64 W, .int .i64 H] w fun e w' => e = .returned (.tuple #[.int .i64 (pcV W H), .int .i64 (pcC W H)]) ∧ w = w' := by
  by_cases hc : pcC W H = 0
  · obtain ⟨hW, hH, hm, hv⟩ := pc_zero hc
    have HC := Lib.hid (spec_code12 W H w)
    have HM := Lib.hid (spec_many W H w hW hH)
    rw [hc] at HC ⊢
    rw [← hv] at HM
    clear hW hH hm hv hc
    go_enter Try.func6, Try.ntmps6
    go_wp2_with fail
    refine HC.out.mono ?_
    rintro e w1 ⟨rfl, rfl⟩
    go_wp2_with fail
    refine HM.out.mono ?_
    rintro e w1 ⟨rfl, rfl⟩
    go_wp2
    go_ret2
    exact ⟨rfl, rfl⟩
  · have hv : pcV W H = 0 := by
      unfold pcC at hc
      unfold pcV
      split <;> rename_i h1
      · rw [if_pos h1] at hc
        split <;> rename_i h2
        · rfl
        · rw [if_neg h2] at hc; exact absurd rfl hc
      · rfl
    have HC := Lib.hid (spec_code12 W H w)
    rw [hv]
    obtain ⟨m, hmm⟩ : ∃ m, pcC W H = m := ⟨_, rfl⟩
    rw [hmm] at HC hc ⊢
    clear hmm hv
    go_enter Try.func6, Try.ntmps6
    go_wp2_with fail
    refine HC.out.mono ?_
    rintro e w1 ⟨rfl, rfl⟩
    go_wp2
    go_ret2
    exact ⟨rfl, rfl⟩
theorem impl_panelCount (W H : Int) (w : World) : Calls Try.prog 7 #[.int .i64 W, .int .i64 H] w fun e w' => e = .returned (.tuple #[.int .i64 (pcV W H), .int .i64 (pcC W H)]) ∧ Below w.heap.size w w' := by
  by_cases hs : (sideB W && sideB H) = true
  · have hW : sideB W = true := by cases h : sideB W <;> simp [h] at hs ⊢
    have hH : sideB H = true := by cases h : sideB H <;> simp [h] at hs ⊢
    obtain ⟨N, hN⟩ : ∃ N : Nat, inner W H = (N : Int) := ⟨(inner W H).toNat, by have := (inner_bd' hW hH).1; omega⟩
    have hN2 : N ≤ 112 := by have := (inner_bd' hW hH).2; omega
    have hcall := impl_innerPoints W H w
    rw [inN_yes hW hH, inC_yes hW hH, hN] at hcall
    have HC := Lib.hid hcall
    have HM := Lib.hid (show mnP W H = mn3 N by unfold mnP; rw [hN]; simp)
    have HW := Lib.hid hW
    have HH := Lib.hid hH
    clear hcall hN hs hW hH
    go_enter Try.func7, Try.ntmps7
    go_wp2_with fail
    refine HC.out.mono ?_
    rintro e w1 ⟨rfl, b1⟩
    have HB := Lib.hid b1
    clear b1
    go_wp2
    go_loop [8, 19] (fun u v => ∃ (k : Nat) (x : Int), k ≤ N ∧ u = .int .i64 x ∧ 1 ≤ x ∧ x ≤ 2500 ∧ Hid (x = mn3 k) ∧ v = .int .i64 (k : Int)) (fun _ v => N - (intOf v).toNat)
    case atStart => exact ⟨0, 1, Nat.zero_le _, rfl, by omega, by omega, Lib.hid rfl, rfl⟩
    case round =>
      obtain ⟨k, x, hk, rfl, x1, x2, HX, rfl⟩ := hrel
      by_cases hlt : k < N
      · by_cases hf : 2500 < x * 3
        · have hz := pc_full HW.out HH.out (by
            rw [HM.out]
            have := mn3_full (k := k) (by have := HX.out; omega) (N - (k + 1))
            rw [show k + 1 + (N - (k + 1)) = N by omega] at this
            omega)
          have HZ := Lib.hid hz
          clear hz
          go_wp2
          go_ret2
          exact ⟨ret_ints HZ.out.2.symm HZ.out.1.symm, HB.out⟩
        · have HX2 := Lib.hid (show x * 3 = mn3 (k + 1) by rw [mn3_next (by have := HX.out; omega), HX.out]; omega)
          go_wp2
          go_round
          case rel => exact ⟨k + 1, x * 3, by omega, rfl, by omega, by omega, HX2, by first | rfl | (congr 1; omega)⟩
          case measure => simp [intOf]; omega
      · obtain rfl : k = N := by omega
        have hz := pc_ok HW.out HH.out (by rw [HM.out]; have := HX.out; omega)
        have HZ := Lib.hid hz
        have HX3 := Lib.hid (HX.out.trans HM.out.symm)
        clear hz
        go_wp2
        go_ret2
        exact ⟨ret_ints (HX3.out.trans HZ.out.2.symm) HZ.out.1.symm, HB.out⟩
  · have hs : (sideB W && sideB H) = false := by simpa using hs
    have hcall := impl_innerPoints W H w
    have e1 : inN W H = 0 := by simp only [inN, hs]; rfl
    have e2 : inC W H = 2 := by simp only [inC, hs]; rfl
    rw [e1, e2] at hcall
    have HC := Lib.hid hcall
    obtain ⟨z1, z2⟩ := pc_no hs
    rw [z1, z2]
    clear hcall e1 e2 z1 z2 hs
    go_enter Try.func7, Try.ntmps7
    go_wp2_with fail
    refine HC.out.mono ?_
    rintro e w1 ⟨rfl, b1⟩
    have HB := Lib.hid b1
    clear b1
    go_wp2
    go_ret2
    exact ⟨rfl, HB.out⟩
end Go.Proofs.Ytjgclemfehfgiaa.Base
