/-
  Pairings: whether a list is one, the model's test and the program's.
-/
import Derived.Test.YtpkajonnopmciaaPrm
import Derived.Test.YtpkajonnopmciaaShape
import Derived.IntWalk
namespace Go.Proofs.Ytpkajonnopmciaa.Base
open Go Go.RowKit
set_option linter.unusedVariables false
set_option linter.unusedSimpArgs false

noncomputable def paB (n : Nat) (f : Nat → Int) : Bool := open Classical in decide (2 ≤ n ∧ n ≤ 16 ∧ PR n f)
theorem pa_yes {n : Nat} {f : Nat → Int} (h : paB n f = true) : 2 ≤ n ∧ n ≤ 16 ∧ PR n f := by classical exact of_decide_eq_true h
theorem pa_mk {n : Nat} {f : Nat → Int} (h1 : 2 ≤ n) (h2 : n ≤ 16) (h : PR n f) : paB n f = true := by classical exact decide_eq_true ⟨h1, h2, h⟩
theorem pa_no {n : Nat} {f : Nat → Int} (h : 2 ≤ n → n ≤ 16 → PR n f → False) : paB n f = false := by classical exact decide_eq_false fun ⟨a, b, c⟩ => h a b c
theorem tmod2n (n : Nat) : (n : Int).tmod 2 = ((n % 2 : Nat) : Int) := rfl
set_option maxHeartbeats 2000000 in
theorem spec_okP (w : World) (A : Option Addr) (n c : Nat) (f : Nat → Int) (hr : Row .i64 w A n c f) :
    Calls Try.prog 52 #[.slice A n c] w (Gives (.bool (paB n f)) w) := by
  have hcm := hr.2.1
  have hnc := hr.1
  unfold maxLen at hcm
  have HR := Lib.hid hr
  clear hr
  cases hin : inB (n : Int) 2 16
  · rw [pa_no (fun h1 h2 _ => in_no hin ⟨by omega, by omega⟩)]
    have HI := Lib.hid hin
    clear hin
    go_enter Try.func52, Try.ntmps52
    go_wp2_with (go_at_call 62; refine (in_is HI.out _).mono ?_; rintro e w' ⟨rfl, rfl⟩)
    go_ret
    exact ⟨rfl, Below.refl _ _⟩
  · obtain ⟨n1, n2⟩ := in_yes hin
    have HI := Lib.hid hin
    clear hin
    rcases Nat.mod_two_eq_zero_or_one n with he | he
    · have e1 : ((n : Int) % 2 != 0) = false := by rw [bne_eq_false_iff_eq]; omega
      clear he
      go_enter Try.func52, Try.ntmps52
      go_wp2_with (go_at_call 62; refine (in_is HI.out _).mono ?_; rintro e w' ⟨rfl, rfl⟩)
      clear e1
      go_loopw [4] (fun i wr => ∃ k : Nat, k ≤ n ∧ i = .int .i64 k ∧ Hid (Below w.heap.size w wr) ∧ Hid (∀ i, i < k → 0 ≤ f i ∧ f i < n ∧ f i ≠ i ∧ f (f i).toNat = i)) (fun i _ => n - (intOf i).toNat)
      case atStart => exact ⟨0, Nat.zero_le _, rfl, Lib.hid (Below.refl _ _), Lib.hid (fun i hi => absurd hi (Nat.not_lt_zero _))⟩
      case round =>
        obtain ⟨k, hk, rfl, HB, HG⟩ := hrel
        by_cases hlt : k < n
        · obtain ⟨b, o, rfl, hbl, hc⟩ := (HR.out.below HB.out (Nat.le_refl _)).2.2.2 (by omega)
          have hck := hc k hlt
          cases hfk : inB (f k) 0 ((n : Int) - 1)
          · rw [pa_no (fun _ _ h => in_no hfk ⟨(h.pars k hlt).1, by have := (h.pars k hlt).2.1; omega⟩)]
            have HFK := Lib.hid hfk
            clear hfk hc
            go_wp2_with (go_at_call 62; refine (in_is HFK.out _).mono ?_; rintro e w' ⟨rfl, rfl⟩)
            go_ret
            exact ⟨rfl, HB.out⟩
          · obtain ⟨g1, g2⟩ := in_yes hfk
            obtain ⟨z, hz⟩ : ∃ z : Nat, f k = z := ⟨(f k).toNat, by omega⟩
            rw [hz] at hck hfk g1 g2
            have hzn : z < n := by omega
            have hcz := hc z hzn
            have HFK := Lib.hid hfk
            have HZ := Lib.hid hz
            clear hfk hz hc
            by_cases hzk : z = k
            · rw [pa_no (fun _ _ h => (h.pars k hlt).2.2.1 (by rw [HZ.out, hzk]))]
              subst hzk
              clear hcz
              go_wp2_with (go_at_call 62; refine (in_is HFK.out _).mono ?_; rintro e w' ⟨rfl, rfl⟩)
              go_ret
              exact ⟨rfl, HB.out⟩
            · have e1 : ((z : Int) == (k : Int)) = false := beq_eq_false_iff_ne.2 (by omega)
              by_cases hfz : f z = k
              · have e2 : (f z != (k : Int)) = false := by rw [bne_eq_false_iff_eq]; exact hfz
                have HFZ := Lib.hid hfz
                clear hfz
                go_wp2_with (go_at_call 62; refine (in_is HFK.out _).mono ?_; rintro e w' ⟨rfl, rfl⟩)
                go_roundw
                case rel =>
                  refine ⟨k + 1, by omega, by go_num, HB, Lib.hid (fun i hi => ?_)⟩
                  rcases Nat.lt_succ_iff_lt_or_eq.1 hi with h | rfl
                  · exact HG.out i h
                  · rw [HZ.out, Int.toNat_natCast]
                    exact ⟨by omega, by omega, by omega, HFZ.out⟩
                case measure => simp [intOf]; omega
              · rw [pa_no (fun _ _ h => hfz (by have := (h.pars k hlt).2.2.2; rw [HZ.out, Int.toNat_natCast] at this; exact this))]
                have e2 : (f z != (k : Int)) = true := bne_iff_ne.2 hfz
                clear hfz
                go_wp2_with (go_at_call 62; refine (in_is HFK.out _).mono ?_; rintro e w' ⟨rfl, rfl⟩)
                go_ret
                exact ⟨rfl, HB.out⟩
        · obtain rfl : k = n := by omega
          have HV := Lib.hid (pa_mk (n := k) (f := f) (by omega) (by omega) ⟨HG.out⟩)
          go_wp2
          go_ret
          exact ⟨ret_bool HV.out.symm, HB.out⟩
    · rw [pa_no (fun _ _ h => by have := h.even; omega)]
      have e1 : ((n : Int) % 2 != 0) = true := by rw [bne_iff_ne]; omega
      clear he
      go_enter Try.func52, Try.ntmps52
      go_wp2_with (go_at_call 62; refine (in_is HI.out _).mono ?_; rintro e w' ⟨rfl, rfl⟩)
      go_ret
      exact ⟨rfl, Below.refl _ _⟩
theorem okP_is {w : World} {A : Option Addr} {n c : Nat} {f : Nat → Int} {v : Bool} (h : paB n f = v) (hr : Row .i64 w A n c f) :
    Calls Try.prog 52 #[.slice A n c] w (Gives (.bool v) w) := by rw [← h]; exact spec_okP w A n c f hr
theorem spec_isPairing (w : World) (A : Option Addr) (n c : Nat) (f : Nat → Int) (hr : Row .i64 w A n c f) :
    Calls Try.prog 13 #[.slice A n c] w (Gives (.bool (paB n f)) w) := by
  have HC := Lib.hid (spec_okP w A n c f hr)
  clear hr
  go_enter Try.func13, Try.ntmps13
  go_wp2_with fail
  refine HC.out.mono ?_
  rintro e w1 ⟨rfl, b1⟩
  go_wp2
  go_ret
  exact ⟨rfl, b1⟩
set_option maxHeartbeats 2000000 in
theorem impl_isPairing (w : World) (A : Option Addr) (n c : Nat) (f : Nat → Int) (hr : Row .i64 w A n c f) :
    Calls Try.prog 15 #[.slice A n c] w (Gives (.bool (paB n f)) w) := by
  have hcm := hr.2.1
  have hnc := hr.1
  unfold maxLen at hcm
  have HR := Lib.hid hr
  clear hr
  by_cases n1 : 2 ≤ n
  · by_cases n2 : n ≤ 16
    · go_enter Try.func15, Try.ntmps15
      go_wp2
      go_loopw [16] (fun i wr => ∃ k : Nat, k ≤ n ∧ i = .int .i64 k ∧ Hid (Below w.heap.size w wr) ∧ Hid (∀ i, i < k → 0 ≤ f i ∧ f i < n ∧ f i ≠ i ∧ f (f i).toNat = i)) (fun i _ => n - (intOf i).toNat)
      case atStart => exact ⟨0, Nat.zero_le _, rfl, Lib.hid (Below.refl _ _), Lib.hid (fun i hi => absurd hi (Nat.not_lt_zero _))⟩
      case round =>
        obtain ⟨k, hk, rfl, HB, HG⟩ := hrel
        by_cases hlt : k < n
        · obtain ⟨b, o, rfl, hbl, hc⟩ := (HR.out.below HB.out (Nat.le_refl _)).2.2.2 (by omega)
          have hck := hc k hlt
          by_cases h0 : 0 ≤ f k
          · by_cases h1 : f k < n
            · obtain ⟨z, hz⟩ : ∃ z : Nat, f k = z := ⟨(f k).toNat, by omega⟩
              rw [hz] at hck h0 h1
              have hzn : z < n := by omega
              have hcz := hc z hzn
              have HZ := Lib.hid hz
              clear hz hc
              by_cases hzk : z = k
              · rw [pa_no (fun _ _ h => (h.pars k hlt).2.2.1 (by rw [HZ.out, hzk]))]
                subst hzk
                clear hcz
                go_wp2
                go_ret
                exact ⟨rfl, HB.out⟩
              · have e1 : ((z : Int) == (k : Int)) = false := beq_eq_false_iff_ne.2 (by omega)
                by_cases hfz : f z = k
                · have e2 : (f z != (k : Int)) = false := by rw [bne_eq_false_iff_eq]; exact hfz
                  have HFZ := Lib.hid hfz
                  clear hfz
                  go_wp2
                  go_roundw
                  case rel =>
                    refine ⟨k + 1, by omega, by go_num, HB, Lib.hid (fun i hi => ?_)⟩
                    rcases Nat.lt_succ_iff_lt_or_eq.1 hi with h | rfl
                    · exact HG.out i h
                    · rw [HZ.out, Int.toNat_natCast]
                      exact ⟨by omega, by omega, by omega, HFZ.out⟩
                  case measure => simp [intOf]; omega
                · rw [pa_no (fun _ _ h => hfz (by have := (h.pars k hlt).2.2.2; rw [HZ.out, Int.toNat_natCast] at this; exact this))]
                  have e2 : (f z != (k : Int)) = true := bne_iff_ne.2 hfz
                  clear hfz
                  go_wp2
                  go_ret
                  exact ⟨rfl, HB.out⟩
            · rw [pa_no (fun _ _ h => h1 (h.pars k hlt).2.1)]
              clear hc
              go_wp2
              go_ret
              exact ⟨rfl, HB.out⟩
          · rw [pa_no (fun _ _ h => h0 (h.pars k hlt).1)]
            clear hc
            go_wp2
            go_ret
            exact ⟨rfl, HB.out⟩
        · obtain rfl : k = n := by omega
          have HV := Lib.hid (pa_mk (n := k) (f := f) (by omega) (by omega) ⟨HG.out⟩)
          go_wp2
          go_ret
          exact ⟨ret_bool HV.out.symm, HB.out⟩
    · rw [pa_no (fun _ h _ => n2 h)]
      go_enter Try.func15, Try.ntmps15
      go_wp2
      go_ret
      exact ⟨rfl, Below.refl _ _⟩
  · rw [pa_no (fun h _ _ => n1 h)]
    go_enter Try.func15, Try.ntmps15
    go_wp2
    go_ret
    exact ⟨rfl, Below.refl _ _⟩
theorem isPairing_is {w : World} {A : Option Addr} {n c : Nat} {f : Nat → Int} {v : Bool} (h : paB n f = v) (hr : Row .i64 w A n c f) :
    Calls Try.prog 15 #[.slice A n c] w (Gives (.bool v) w) := by rw [← h]; exact impl_isPairing w A n c f hr

/-- the pairs do not cross -/
noncomputable def neB (n : Nat) (f : Nat → Int) : Bool := open Classical in decide (paB n f = true ∧ ∀ i j : Nat, i < n → i < j → (j : Int) < f i → f j ≤ f i)
theorem ne_no {n : Nat} {f : Nat → Int} (h : paB n f = true → (∀ i j : Nat, i < n → i < j → (j : Int) < f i → f j ≤ f i) → False) : neB n f = false := by classical exact decide_eq_false fun ⟨a, b⟩ => h a b
theorem ne_mk {n : Nat} {f : Nat → Int} (h : paB n f = true) (h' : ∀ i j : Nat, i < n → i < j → (j : Int) < f i → f j ≤ f i) : neB n f = true := by classical exact decide_eq_true ⟨h, h'⟩
set_option maxHeartbeats 2000000 in
theorem spec_isNested (w : World) (A : Option Addr) (n c : Nat) (f : Nat → Int) (hr : Row .i64 w A n c f) :
    Calls Try.prog 41 #[.slice A n c] w (Gives (.bool (neB n f)) w) := by
  have HR := Lib.hid hr
  cases hv : paB n f
  · rw [ne_no (fun h _ => by rw [hv] at h; cases h)]
    have HC := Lib.hid (okP_is hv hr)
    clear hr hv
    go_enter Try.func41, Try.ntmps41
    go_wp2_with fail
    refine HC.out.mono ?_
    rintro e w1 ⟨rfl, b1⟩
    go_wp2
    go_ret
    exact ⟨rfl, b1⟩
  · have HC := Lib.hid (okP_is hv hr)
    obtain ⟨n1, n2, hp⟩ := pa_yes hv
    have HV := Lib.hid hv
    have HP := Lib.hid hp
    clear hr hv hp
    go_enter Try.func41, Try.ntmps41
    go_wp2_with fail
    refine HC.out.mono ?_
    rintro e w1 ⟨rfl, b1⟩
    have HB1 := Lib.hid b1
    clear b1 HC
    go_wp2
    go_loopw [3] (fun iv wr => ∃ i : Nat, i ≤ n ∧ iv = .int .i64 i ∧ Hid (Below w.heap.size w wr) ∧ Hid (∀ i' j : Nat, i' < i → i' < j → (j : Int) < f i' → f j ≤ f i')) (fun i _ => n - (intOf i).toNat)
    case atStart => exact ⟨0, Nat.zero_le _, rfl, HB1, Lib.hid (fun i j hi => absurd hi (Nat.not_lt_zero _))⟩
    case round =>
      obtain ⟨i, hi, rfl, HB, HG⟩ := hrel
      by_cases hlt : i < n
      · obtain ⟨f1, f2, -, -⟩ := HP.out.pars i hlt
        obtain ⟨z, hz⟩ : ∃ z : Nat, f i = z := ⟨(f i).toNat, by omega⟩
        rw [hz] at f1 f2
        have HZ := Lib.hid hz
        clear hz
        go_wp2
        clear HB1
        generalize hwo : wr = wo at *
        clear hwo wr
        go_loopw [4] (fun jv wr => ∃ j : Nat, i < j ∧ j ≤ n ∧ (j ≤ z ∨ j = i + 1) ∧ jv = .int .i64 j ∧ Hid (Below w.heap.size w wr) ∧ Hid (∀ j' : Nat, i < j' → j' < j → (j' : Int) < f i → f j' ≤ f i)) (fun j _ => n - (intOf j).toNat)
        case atStart => exact ⟨i + 1, by omega, by omega, .inr rfl, by go_num, HB, Lib.hid (fun j h1 h2 _ => by omega)⟩
        case round =>
          clear HB
          obtain ⟨j, h1, h2, h3, rfl, HB, HJ⟩ := hrel
          obtain ⟨b, o, rfl, hbl, hc⟩ := (HR.out.below HB.out (Nat.le_refl _)).2.2.2 (by omega)
          have hci := hc i hlt
          rw [HZ.out] at hci
          by_cases hjz : j < z
          · have hcj := hc j (by omega)
            clear hc
            by_cases hgt : f j ≤ z
            · go_wp2
              go_quiet (fail)
              go_wp2
              go_roundw
              case rel =>
                refine ⟨j + 1, by omega, by omega, by omega, by go_num, Lib.hid (below_drewN HB.out _), Lib.hid (fun j' a b hc => ?_)⟩
                rcases Nat.lt_succ_iff_lt_or_eq.1 b with h | rfl
                · exact HJ.out j' a h hc
                · rw [HZ.out]; exact hgt
              case measure => simp [intOf]; omega
            · have HNO := Lib.hid (ne_no (n := n) (f := f) (fun _ h => hgt (by rw [← HZ.out]; exact h i j hlt h1 (by rw [HZ.out]; omega))))
              go_wp2
              go_quiet (fail)
              go_wp2
              go_ret
              exact ⟨ret_bool HNO.out.symm, below_drewN HB.out _⟩
          · clear hc
            go_wp2
            go_roundw
            case rel =>
              refine ⟨i + 1, by omega, by go_num, HB, Lib.hid (fun i' j' a b hc => ?_)⟩
              rcases Nat.lt_succ_iff_lt_or_eq.1 a with h | rfl
              · exact HG.out i' j' h b hc
              · exact HJ.out j' b (by rw [HZ.out] at hc; omega) hc
            case measure => simp [intOf]; omega
      · obtain rfl : i = n := by omega
        have HV2 := Lib.hid (ne_mk HV.out (fun a b c => HG.out a b c))
        go_wp2
        go_ret
        exact ⟨ret_bool HV2.out.symm, HB.out⟩
set_option maxHeartbeats 2000000 in
theorem impl_isNested (w : World) (A : Option Addr) (n c : Nat) (f : Nat → Int) (hr : Row .i64 w A n c f) :
    Calls Try.prog 42 #[.slice A n c] w (Gives (.bool (neB n f)) w) := by
  have HR := Lib.hid hr
  cases hv : paB n f
  · rw [ne_no (fun h _ => by rw [hv] at h; cases h)]
    have HC := Lib.hid (isPairing_is hv hr)
    clear hr hv
    go_enter Try.func42, Try.ntmps42
    go_wp2_with fail
    refine HC.out.mono ?_
    rintro e w1 ⟨rfl, b1⟩
    go_wp2
    go_ret
    exact ⟨rfl, b1⟩
  · have HC := Lib.hid (isPairing_is hv hr)
    obtain ⟨n1, n2, hp⟩ := pa_yes hv
    have HV := Lib.hid hv
    have HP := Lib.hid hp
    clear hr hv hp
    go_enter Try.func42, Try.ntmps42
    go_wp2_with fail
    refine HC.out.mono ?_
    rintro e w1 ⟨rfl, b1⟩
    have HB1 := Lib.hid b1
    clear b1 HC
    go_wp2
    go_loopw [11] (fun iv wr => ∃ i : Nat, i ≤ n ∧ iv = .int .i64 i ∧ Hid (Below w.heap.size w wr) ∧ Hid (∀ i' j : Nat, i' < i → i' < j → (j : Int) < f i' → f j ≤ f i')) (fun i _ => n - (intOf i).toNat)
    case atStart => exact ⟨0, Nat.zero_le _, rfl, HB1, Lib.hid (fun i j hi => absurd hi (Nat.not_lt_zero _))⟩
    case round =>
      obtain ⟨i, hi, rfl, HB, HG⟩ := hrel
      by_cases hlt : i < n
      · obtain ⟨f1, f2, -, -⟩ := HP.out.pars i hlt
        obtain ⟨z, hz⟩ : ∃ z : Nat, f i = z := ⟨(f i).toNat, by omega⟩
        rw [hz] at f1 f2
        have HZ := Lib.hid hz
        clear hz
        obtain ⟨b, o, rfl, hbl, hc⟩ := (HR.out.below HB.out (Nat.le_refl _)).2.2.2 (by omega)
        have hci := hc i hlt
        rw [HZ.out] at hci
        clear hc
        go_wp2
        clear HB1 hci
        generalize hwo : wr = wo at *
        clear hwo wr
        go_loopw [5] (fun jv wr => ∃ j : Nat, i < j ∧ j ≤ n ∧ (j ≤ z ∨ j = i + 1) ∧ jv = .int .i64 j ∧ Hid (Below w.heap.size w wr) ∧ Hid (∀ j' : Nat, i < j' → j' < j → (j' : Int) < f i → f j' ≤ f i)) (fun j _ => n - (intOf j).toNat)
        case atStart => exact ⟨i + 1, by omega, by omega, .inr rfl, by go_num, HB, Lib.hid (fun j h1 h2 _ => by omega)⟩
        case round =>
          clear HB
          obtain ⟨j, h1, h2, h3, rfl, HB, HJ⟩ := hrel
          by_cases hjz : j < z
          · obtain ⟨b', o', e', hbl, hc⟩ := (HR.out.below HB.out (Nat.le_refl _)).2.2.2 (by omega)
            obtain ⟨rfl, rfl⟩ : b' = b ∧ o' = o := by injection e' with e'; injection e' with e1 e2; exact ⟨e1.symm, e2.symm⟩
            have hcj := hc j (by omega)
            clear hc e'
            by_cases hgt : f j ≤ z
            · go_wp2
              go_roundw
              case rel =>
                refine ⟨j + 1, by omega, by omega, by omega, by go_num, HB, Lib.hid (fun j' a b hc => ?_)⟩
                rcases Nat.lt_succ_iff_lt_or_eq.1 b with h | rfl
                · exact HJ.out j' a h hc
                · rw [HZ.out]; exact hgt
              case measure => simp [intOf]; omega
            · have HNO := Lib.hid (ne_no (n := n) (f := f) (fun _ h => hgt (by rw [← HZ.out]; exact h i j hlt h1 (by rw [HZ.out]; omega))))
              go_wp2
              go_ret
              exact ⟨ret_bool HNO.out.symm, HB.out⟩
          · go_wp2
            go_roundw
            case rel =>
              refine ⟨i + 1, by omega, by go_num, HB, Lib.hid (fun i' j' a b hc => ?_)⟩
              rcases Nat.lt_succ_iff_lt_or_eq.1 a with h | rfl
              · exact HG.out i' j' h b hc
              · exact HJ.out j' b (by rw [HZ.out] at hc; omega) hc
            case measure => simp [intOf]; omega
      · obtain rfl : i = n := by omega
        have HV2 := Lib.hid (ne_mk HV.out (fun a b c => HG.out a b c))
        go_wp2
        go_ret
        exact ⟨ret_bool HV2.out.symm, HB.out⟩
end Go.Proofs.Ytpkajonnopmciaa.Base
