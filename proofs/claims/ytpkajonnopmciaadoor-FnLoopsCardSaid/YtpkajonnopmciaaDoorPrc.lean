/-
  Pairings: whether a list is one, the model's test and the program's.
-/
import Derived.Test.YtpkajonnopmciaaDoorPrm
import Derived.Test.YtpkajonnopmciaaDoorShape
import Derived.IntWalk
namespace Go.Proofs.YtpkajonnopmciaaDoor.Base
open Go Go.RowKit
set_option linter.unusedVariables false
set_option linter.unusedSimpArgs false

noncomputable def paB (n : Nat) (f : Nat → Int) : Bool := open Classical in decide (2 ≤ n ∧ n ≤ 16 ∧ PR n f)
theorem pa_yes {n : Nat} {f : Nat → Int} (h : paB n f = true) : 2 ≤ n ∧ n ≤ 16 ∧ PR n f := by classical exact of_decide_eq_true h
theorem pa_mk {n : Nat} {f : Nat → Int} (h1 : 2 ≤ n) (h2 : n ≤ 16) (h : PR n f) : paB n f = true := by classical exact decide_eq_true ⟨h1, h2, h⟩
theorem pa_no {n : Nat} {f : Nat → Int} (h : 2 ≤ n → n ≤ 16 → PR n f → False) : paB n f = false := by classical exact decide_eq_false fun ⟨a, b, c⟩ => h a b c
theorem tmod2n (n : Nat) : (n : Int).tmod 2 = ((n % 2 : Nat) : Int) := rfl
set_option maxHeartbeats 2000000 in
theorem spec_okP (w : World) (A : Option Addr) (n c : Nat) (f : Nat → Int) (hr : Row .i64 w A n c f) :
    Calls Tryd.prog 14 #[.slice A n c] w (Gives (.bool (paB n f)) w) := by
  have hcm := hr.2.1
  have hnc := hr.1
  unfold maxLen at hcm
  have HR := Lib.hid hr
  clear hr
  cases hin : inB (n : Int) 2 16
  · rw [pa_no (fun h1 h2 _ => in_no hin ⟨by omega, by omega⟩)]
    have HI := Lib.hid hin
    clear hin
    go_enter Tryd.func14, Tryd.ntmps14
    go_wp2_with (go_at_call 22; refine (in_is HI.out _).mono ?_; rintro e w' ⟨rfl, rfl⟩)
    go_ret
    exact ⟨rfl, Below.refl _ _⟩
  · obtain ⟨n1, n2⟩ := in_yes hin
    have HI := Lib.hid hin
    clear hin
    rcases Nat.mod_two_eq_zero_or_one n with he | he
    · have e1 : ((n : Int) % 2 != 0) = false := by rw [bne_eq_false_iff_eq]; omega
      clear he
      go_enter Tryd.func14, Tryd.ntmps14
      go_wp2_with (go_at_call 22; refine (in_is HI.out _).mono ?_; rintro e w' ⟨rfl, rfl⟩)
      clear e1
      go_loopw [4] (fun i wr => ∃ k : Nat, k ≤ n ∧ i = .int .i64 k ∧ Hid (Below w.heap.size w wr) ∧ Hid (∀ i, i < k → 0 ≤ f i ∧ f i < n ∧ f i ≠ i ∧ f (f i).toNat = i)) (fun i _ => n - (intOf i).toNat)
      case atStart => exact ⟨0, Nat.zero_le _, rfl, Lib.hid (Below.refl _ _), Lib.hid (fun i hi => absurd hi (Nat.not_lt_zero _))⟩
      case round =>
        obtain ⟨k, hk, rfl, HB, HG⟩ := hrel
        by_cases hlt : k < n
        · obtain ⟨b, o, rfl, hbl, hc⟩ := (HR.out.below HB.out (Nat.le_refl _)).2.2.2 (by omega)
          have hck := hc k hlt
          cases hfk : inB (f k) 0 ((n : Int) - 1)
          · rw [pa_no (fun _ _ h => in_no hfk ⟨(h.pars k hlt).1, by have := (h.pars k hlt).2.1; omega⟩)]
            have HFK := Lib.hid hfk
            clear hfk hc
            go_wp2_with (go_at_call 22; refine (in_is HFK.out _).mono ?_; rintro e w' ⟨rfl, rfl⟩)
            go_ret
            exact ⟨rfl, HB.out⟩
          · obtain ⟨g1, g2⟩ := in_yes hfk
            obtain ⟨z, hz⟩ : ∃ z : Nat, f k = z := ⟨(f k).toNat, by omega⟩
            rw [hz] at hck hfk g1 g2
            have hzn : z < n := by omega
            have hcz := hc z hzn
            have HFK := Lib.hid hfk
            have HZ := Lib.hid hz
            clear hfk hz hc
            by_cases hzk : z = k
            · rw [pa_no (fun _ _ h => (h.pars k hlt).2.2.1 (by rw [HZ.out, hzk]))]
              subst hzk
              clear hcz
              go_wp2_with (go_at_call 22; refine (in_is HFK.out _).mono ?_; rintro e w' ⟨rfl, rfl⟩)
              go_ret
              exact ⟨rfl, HB.out⟩
            · have e1 : ((z : Int) == (k : Int)) = false := beq_eq_false_iff_ne.2 (by omega)
              by_cases hfz : f z = k
              · have e2 : (f z != (k : Int)) = false := by rw [bne_eq_false_iff_eq]; exact hfz
                have HFZ := Lib.hid hfz
                clear hfz
                go_wp2_with (go_at_call 22; refine (in_is HFK.out _).mono ?_; rintro e w' ⟨rfl, rfl⟩)
                go_roundw
                case rel =>
                  refine ⟨k + 1, by omega, by go_num, HB, Lib.hid (fun i hi => ?_)⟩
                  rcases Nat.lt_succ_iff_lt_or_eq.1 hi with h | rfl
                  · exact HG.out i h
                  · rw [HZ.out, Int.toNat_natCast]
                    exact ⟨by omega, by omega, by omega, HFZ.out⟩
                case measure => simp [intOf]; omega
              · rw [pa_no (fun _ _ h => hfz (by have := (h.pars k hlt).2.2.2; rw [HZ.out, Int.toNat_natCast] at this; exact this))]
                have e2 : (f z != (k : Int)) = true := bne_iff_ne.2 hfz
                clear hfz
                go_wp2_with (go_at_call 22; refine (in_is HFK.out _).mono ?_; rintro e w' ⟨rfl, rfl⟩)
                go_ret
                exact ⟨rfl, HB.out⟩
        · obtain rfl : k = n := by omega
          have HV := Lib.hid (pa_mk (n := k) (f := f) (by omega) (by omega) ⟨HG.out⟩)
          go_wp2
          go_ret
          exact ⟨ret_bool HV.out.symm, HB.out⟩
    · rw [pa_no (fun _ _ h => by have := h.even; omega)]
      have e1 : ((n : Int) % 2 != 0) = true := by rw [bne_iff_ne]; omega
      clear he
      go_enter Tryd.func14, Tryd.ntmps14
      go_wp2_with (go_at_call 22; refine (in_is HI.out _).mono ?_; rintro e w' ⟨rfl, rfl⟩)
      go_ret
      exact ⟨rfl, Below.refl _ _⟩
theorem okP_is {w : World} {A : Option Addr} {n c : Nat} {f : Nat → Int} {v : Bool} (h : paB n f = v) (hr : Row .i64 w A n c f) :
    Calls Tryd.prog 14 #[.slice A n c] w (Gives (.bool v) w) := by rw [← h]; exact spec_okP w A n c f hr
set_option maxHeartbeats 2000000 in
theorem impl_isPairing (w : World) (A : Option Addr) (n c : Nat) (f : Nat → Int) (hr : Row .i64 w A n c f) :
    Calls Tryd.prog 13 #[.slice A n c] w (Gives (.bool (paB n f)) w) := by
  have hcm := hr.2.1
  have hnc := hr.1
  unfold maxLen at hcm
  have HR := Lib.hid hr
  clear hr
  by_cases n1 : 2 ≤ n
  · by_cases n2 : n ≤ 16
    · go_enter Tryd.func13, Tryd.ntmps13
      go_wp2
      go_loopw [16] (fun i wr => ∃ k : Nat, k ≤ n ∧ i = .int .i64 k ∧ Hid (Below w.heap.size w wr) ∧ Hid (∀ i, i < k → 0 ≤ f i ∧ f i < n ∧ f i ≠ i ∧ f (f i).toNat = i)) (fun i _ => n - (intOf i).toNat)
      case atStart => exact ⟨0, Nat.zero_le _, rfl, Lib.hid (Below.refl _ _), Lib.hid (fun i hi => absurd hi (Nat.not_lt_zero _))⟩
      case round =>
        obtain ⟨k, hk, rfl, HB, HG⟩ := hrel
        by_cases hlt : k < n
        · obtain ⟨b, o, rfl, hbl, hc⟩ := (HR.out.below HB.out (Nat.le_refl _)).2.2.2 (by omega)
          have hck := hc k hlt
          by_cases h0 : 0 ≤ f k
          · by_cases h1 : f k < n
            · obtain ⟨z, hz⟩ : ∃ z : Nat, f k = z := ⟨(f k).toNat, by omega⟩
              rw [hz] at hck h0 h1
              have hzn : z < n := by omega
              have hcz := hc z hzn
              have HZ := Lib.hid hz
              clear hz hc
              by_cases hzk : z = k
              · rw [pa_no (fun _ _ h => (h.pars k hlt).2.2.1 (by rw [HZ.out, hzk]))]
                subst hzk
                clear hcz
                go_wp2
                go_ret
                exact ⟨rfl, HB.out⟩
              · have e1 : ((z : Int) == (k : Int)) = false := beq_eq_false_iff_ne.2 (by omega)
                by_cases hfz : f z = k
                · have e2 : (f z != (k : Int)) = false := by rw [bne_eq_false_iff_eq]; exact hfz
                  have HFZ := Lib.hid hfz
                  clear hfz
                  go_wp2
                  go_roundw
                  case rel =>
                    refine ⟨k + 1, by omega, by go_num, HB, Lib.hid (fun i hi => ?_)⟩
                    rcases Nat.lt_succ_iff_lt_or_eq.1 hi with h | rfl
                    · exact HG.out i h
                    · rw [HZ.out, Int.toNat_natCast]
                      exact ⟨by omega, by omega, by omega, HFZ.out⟩
                  case measure => simp [intOf]; omega
                · rw [pa_no (fun _ _ h => hfz (by have := (h.pars k hlt).2.2.2; rw [HZ.out, Int.toNat_natCast] at this; exact this))]
                  have e2 : (f z != (k : Int)) = true := bne_iff_ne.2 hfz
                  clear hfz
                  go_wp2
                  go_ret
                  exact ⟨rfl, HB.out⟩
            · rw [pa_no (fun _ _ h => h1 (h.pars k hlt).2.1)]
              clear hc
              go_wp2
              go_ret
              exact ⟨rfl, HB.out⟩
          · rw [pa_no (fun _ _ h => h0 (h.pars k hlt).1)]
            clear hc
            go_wp2
            go_ret
            exact ⟨rfl, HB.out⟩
        · obtain rfl : k = n := by omega
          have HV := Lib.hid (pa_mk (n := k) (f := f) (by omega) (by omega) ⟨HG.out⟩)
          go_wp2
          go_ret
          exact ⟨ret_bool HV.out.symm, HB.out⟩
    · rw [pa_no (fun _ h _ => n2 h)]
      go_enter Tryd.func13, Tryd.ntmps13
      go_wp2
      go_ret
      exact ⟨rfl, Below.refl _ _⟩
  · rw [pa_no (fun h _ _ => n1 h)]
    go_enter Tryd.func13, Tryd.ntmps13
    go_wp2
    go_ret
    exact ⟨rfl, Below.refl _ _⟩
theorem isPairing_is {w : World} {A : Option Addr} {n c : Nat} {f : Nat → Int} {v : Bool} (h : paB n f = v) (hr : Row .i64 w A n c f) :
    Calls Tryd.prog 13 #[.slice A n c] w (Gives (.bool v) w) := by rw [← h]; exact impl_isPairing w A n c f hr

/-- the pairs do not cross -/
noncomputable def nstB (n : Nat) (f : Nat → Int) : Bool := open Classical in decide (paB n f = true ∧ ∀ i j : Nat, i < n → i < j → (j : Int) < f i → f j ≤ f i)
theorem nst_no {n : Nat} {f : Nat → Int} (h : paB n f = true → (∀ i j : Nat, i < n → i < j → (j : Int) < f i → f j ≤ f i) → False) : nstB n f = false := by classical exact decide_eq_false fun ⟨a, b⟩ => h a b
theorem nst_mk {n : Nat} {f : Nat → Int} (h : paB n f = true) (h' : ∀ i j : Nat, i < n → i < j → (j : Int) < f i → f j ≤ f i) : nstB n f = true := by classical exact decide_eq_true ⟨h, h'⟩
end Go.Proofs.YtpkajonnopmciaaDoor.Base
