/-
  Whether a list of edits is valid: the specification's test, the program's.
-/
import Derived.Test.YtgdmojkfpghmnaaEdm
import Derived.Test.YtgdmojkfpghmnaaEds
import Derived.Test.YtgdmojkfpghmnaaPan
import Derived.Test.YtgdmojkfpghmnaaShape
import Derived.BigQuiet
namespace Go.Proofs.Ytgdmojkfpghmnaa.Base
open Go Go.RowKit
set_option linter.unusedVariables false
set_option linter.unusedSimpArgs false

theorem edAt_of {n : Nat} {f g : Nat → Int} {i : Nat} {v : Bool} (h : decide ((0 ≤ g (i * 2) ∧ g (i * 2) < n ∧ (0 < i → g ((i - 1) * 2) < g (i * 2))) ∧ (0 ≤ g (i * 2 + 1) ∧ g (i * 2 + 1) ≤ 2) ∧ g (i * 2 + 1) ≠ f (g (i * 2)).toNat) = v) : edAt n f g i = v := h
set_option maxHeartbeats 4000000 in
theorem spec_edList (w : World) (p : Nat) (W H : Int) (A : Option Addr) (n c : Nat) (f : Nat → Int) (E : Option Addr) (m d : Nat) (g : Nat → Int) (hb : Box w p W H A n c) (hr : Row .i64 w A n c f) (hE : RowS 2 w E m d g) :
    Calls Try.prog 27 #[.pointer (some ⟨p, 0, none⟩), .slice E m d] w (Gives (.bool (edB n f g m)) w) := by
  have hmd := hE.1
  have hmc := hE.2.1
  have hnc := hr.1
  have hcm := hr.2.1
  unfold maxLen at hmc hcm
  have HX := Lib.hid hb
  have HR := Lib.hid hr
  have HE := Lib.hid hE
  have HWF := Lib.hid hE.2.2.1
  clear hb hr hE
  go_enter Try.func27, Try.ntmps27
  go_wp2
  go_loopw [5] (fun iv wr => ∃ k : Nat, k ≤ m ∧ iv = .int .i64 k ∧ Hid (∀ i, i < k → edAt n f g i = true) ∧ Hid (Below w.heap.size w wr)) (fun iv _ => m - (intOf iv).toNat)
  case atStart => exact ⟨0, Nat.zero_le _, rfl, Lib.hid (fun i hi => absurd hi (Nat.not_lt_zero _)), Lib.hid (Below.refl _ _)⟩
  case round =>
    obtain ⟨k, hk, rfl, HO, HB⟩ := hrel
    by_cases hlt : k < m
    · obtain ⟨b, o, rfl, hbl, hc⟩ := (HE.out.below HB.out (Nat.le_refl _)).2.2.2 (by omega)
      obtain ⟨hp', k0, k1, k2⟩ := HX.out.below HB.out HX.out.1
      have c0 := hc (k * 2) (by omega)
      have c1 := hc (k * 2 + 1) (by omega)
      have cp := fun h : 0 < k => hc ((k - 1) * 2) (by omega)
      obtain ⟨a0, a1⟩ := i64_bd (HWF.out (k * 2) (by omega))
      have PR := Lib.hid (show ∀ h : 0 < k, _ from fun h => i64_bd (HWF.out ((k - 1) * 2) (by omega)))
      simp only [← Nat.add_assoc] at c1
      clear hc k0 k1
      obtain ⟨a, ha⟩ : ∃ a, g (k * 2) = a := ⟨_, rfl⟩
      obtain ⟨z, hz⟩ : ∃ z, g (k * 2 + 1) = z := ⟨_, rfl⟩
      have HA := Lib.hid ha
      have HZ := Lib.hid hz
      rw [ha] at c0 a0 a1
      rw [hz] at c1
      clear ha hz
      cases h1 : inB a 0 ((n : Int) - 1)
      · have hx : ¬ (0 ≤ a ∧ a ≤ (n : Int) - 1) := of_decide_eq_false h1
        have HF := Lib.hid (show edB n f g m = false from edB_no hlt (edAt_of (decide_eq_false (by rw [HA.out]; omega))))
        have H1 := Lib.hid h1
        clear h1 hx
        go_wp2_with (go_at_call 44; refine (in_is H1.out _).mono ?_; rintro e w' ⟨rfl, rfl⟩)
        go_ret
        exact ⟨ret_bool HF.out.symm, HB.out⟩
      · have hx : 0 ≤ a ∧ a ≤ (n : Int) - 1 := of_decide_eq_true h1
        have H1 := Lib.hid h1
        clear h1
        by_cases hpr : 0 < k ∧ a ≤ g ((k - 1) * 2)
        · obtain ⟨hk0, hpa⟩ := hpr
          have HF := Lib.hid (show edB n f g m = false from edB_no hlt (edAt_of (decide_eq_false (by rw [HA.out]; omega))))
          have cp1 := cp hk0
          obtain ⟨j, rfl⟩ : ∃ j, k = j + 1 := ⟨k - 1, by omega⟩
          simp only [Nat.add_sub_cancel] at cp1 hpa
          clear cp
          go_wp2_with (go_at_call 44; refine (in_is H1.out _).mono ?_; rintro e w' ⟨rfl, rfl⟩)
          go_ret
          exact ⟨ret_bool HF.out.symm, HB.out⟩
        · obtain ⟨qq, hqq⟩ : ∃ q, f a.toNat = q := ⟨_, rfl⟩
          have HQ := Lib.hid hqq
          obtain ⟨b2, o2, rfl, hbl2, hc2⟩ := (HR.out.below HB.out (Nat.le_refl _)).2.2.2 (by omega)
          have e2 := hc2 a.toNat (by omega)
          rw [hqq] at e2
          clear hc2 hqq
          have HPR := Lib.hid hpr
          cases h3 : inB z 0 2
          · have hz3 : ¬ (0 ≤ z ∧ z ≤ 2) := of_decide_eq_false h3
            have HF := Lib.hid (show edB n f g m = false from edB_no hlt (edAt_of (decide_eq_false (by rw [HZ.out]; omega))))
            have H3 := Lib.hid h3
            clear h3 hz3 e2
            rcases Nat.eq_zero_or_pos k with rfl | hk0
            · clear cp
              simp only [Nat.zero_mul, Nat.add_zero] at c0 c1
              go_wp2_with (go_at_call 44; refine (in_is H1.out _).mono ?_; rintro e w' ⟨rfl, rfl⟩)
              go_quiet ((go_at_call 45; exact quiet_left (kind_is H3.out _)))
              go_wp2
              go_ret
              exact ⟨ret_bool HF.out.symm, below_drewN HB.out _⟩
            · have cp1 := cp hk0
              have hpa : g ((k - 1) * 2) < a := by have := HPR.out; omega
              obtain ⟨j, rfl⟩ : ∃ j, k = j + 1 := ⟨k - 1, by omega⟩
              simp only [Nat.add_sub_cancel] at cp1 hpa
              clear cp
              go_wp2_with (go_at_call 44; refine (in_is H1.out _).mono ?_; rintro e w' ⟨rfl, rfl⟩)
              clear cp1
              go_quiet ((go_at_call 45; exact quiet_left (kind_is H3.out _)))
              go_wp2
              go_ret
              exact ⟨ret_bool HF.out.symm, below_drewN HB.out _⟩
          · have H3 := Lib.hid h3
            have hz3 : 0 ≤ z ∧ z ≤ 2 := of_decide_eq_true h3
            clear h3
            cases h4 : (z == qq)
            · have hne : z ≠ qq := by simpa using h4
              have HT := Lib.hid (show edAt n f g k = true from edAt_of (decide_eq_true (by rw [HA.out, HZ.out, HQ.out]; have := HPR.out; refine ⟨⟨hx.1, by omega, fun h => by omega⟩, hz3, hne⟩)))
              clear hne
              rcases Nat.eq_zero_or_pos k with rfl | hk0
              · clear cp
                simp only [Nat.zero_mul, Nat.add_zero] at c0 c1
                go_wp2_with (go_at_call 44; refine (in_is H1.out _).mono ?_; rintro e w' ⟨rfl, rfl⟩)
                go_quiet ((go_at_call 45; exact quiet_left (kind_is H3.out _)))
                go_wp2
                go_roundw
                case rel => exact ⟨1, by omega, by go_num, Lib.hid (fun i hi => by obtain rfl : i = 0 := by omega
                                                                                   exact HT.out), Lib.hid (below_drewN HB.out nq)⟩
                case measure => simp [intOf]; omega
              · have cp1 := cp hk0
                have hpa : g ((k - 1) * 2) < a := by have := HPR.out; omega
                obtain ⟨j, rfl⟩ : ∃ j, k = j + 1 := ⟨k - 1, by omega⟩
                simp only [Nat.add_sub_cancel] at cp1 hpa
                clear cp
                go_wp2_with (go_at_call 44; refine (in_is H1.out _).mono ?_; rintro e w' ⟨rfl, rfl⟩)
                clear cp1
                go_quiet ((go_at_call 45; exact quiet_left (kind_is H3.out _)))
                go_wp2
                go_roundw
                case rel => exact ⟨j + 1 + 1, by omega, by go_num, Lib.hid (fun i hi => by rcases Nat.lt_succ_iff_lt_or_eq.1 hi with h | rfl; exact HO.out i h; exact HT.out), Lib.hid (below_drewN HB.out nq)⟩
                case measure => simp [intOf]; omega
            · have heq : z = qq := by simpa using h4
              have HF := Lib.hid (show edB n f g m = false from edB_no hlt (edAt_of (decide_eq_false (by rw [HA.out, HZ.out, HQ.out]; exact fun h => h.2.2 heq))))
              clear heq
              rcases Nat.eq_zero_or_pos k with rfl | hk0
              · clear cp
                simp only [Nat.zero_mul, Nat.add_zero] at c0 c1
                go_wp2_with (go_at_call 44; refine (in_is H1.out _).mono ?_; rintro e w' ⟨rfl, rfl⟩)
                go_quiet ((go_at_call 45; exact quiet_left (kind_is H3.out _)))
                go_wp2
                go_ret
                exact ⟨ret_bool HF.out.symm, below_drewN HB.out _⟩
              · have cp1 := cp hk0
                have hpa : g ((k - 1) * 2) < a := by have := HPR.out; omega
                obtain ⟨j, rfl⟩ : ∃ j, k = j + 1 := ⟨k - 1, by omega⟩
                simp only [Nat.add_sub_cancel] at cp1 hpa
                clear cp
                go_wp2_with (go_at_call 44; refine (in_is H1.out _).mono ?_; rintro e w' ⟨rfl, rfl⟩)
                clear cp1
                go_quiet ((go_at_call 45; exact quiet_left (kind_is H3.out _)))
                go_wp2
                go_ret
                exact ⟨ret_bool HF.out.symm, below_drewN HB.out _⟩
    · have HF := Lib.hid (show edB n f g m = true from edB_iff.2 fun i hi => HO.out i (by omega))
      go_wp2
      go_ret
      exact ⟨ret_bool HF.out.symm, HB.out⟩
theorem edList_is {w : World} {p : Nat} {W H : Int} {A : Option Addr} {n c : Nat} {f : Nat → Int} {E : Option Addr} {m d : Nat} {g : Nat → Int} {v : Bool} (h : edB n f g m = v) (hb : Box w p W H A n c) (hr : Row .i64 w A n c f) (hE : RowS 2 w E m d g) :
    Calls Try.prog 27 #[.pointer (some ⟨p, 0, none⟩), .slice E m d] w (Gives (.bool v) w) := by rw [← h]; exact spec_edList w p W H A n c f E m d g hb hr hE
theorem spec_validEdits (w : World) (W H : Int) (A : Option Addr) (n c : Nat) (f : Nat → Int) (E : Option Addr) (m d : Nat) (g : Nat → Int) (hr : Row .i64 w A n c f) (hE : RowS 2 w E m d g) :
    Calls Try.prog 9 #[.agg #[.int .i64 W, .int .i64 H, .slice A n c], .slice E m d] w (Gives (.bool (edV W H n f g m)) w) := by
  have HL := Lib.hid (show Below w.heap.size w (w.alloc (.cells #[.int .i64 W, .int .i64 H, .slice A n c] 29)) from (Below.refl _ _).alloc (Nat.le_refl _) _)
  have HX := Lib.hid (Box.new w 29 W H A n c)
  have HR := Lib.hid (hr.below HL.out (Nat.le_refl _))
  have HE := Lib.hid (hE.below HL.out (Nat.le_refl _))
  clear hr hE
  cases hv : validB W H n f
  · have e : edV W H n f g m = false := by simp [edV, hv]
    rw [e]
    have HV := Lib.hid hv
    clear e hv
    go_enter Try.func9, Try.ntmps9
    go_wp2_with fail
    refine (specOk_is HV.out HX.out HR.out).mono ?_
    rintro e w1 ⟨m1, rfl, rfl⟩
    go_wp2
    go_ret
    exact ⟨rfl, below_drewN HL.out m1⟩
  · have e : edV W H n f g m = edB n f g m := by simp [edV, hv]
    rw [e]
    have HV := Lib.hid hv
    clear e hv
    go_enter Try.func9, Try.ntmps9
    go_wp2_with fail
    refine (specOk_is HV.out HX.out HR.out).mono ?_
    rintro e w1 ⟨m1, rfl, rfl⟩
    have bm := below_drewN (Below.refl (w.alloc (.cells #[.int .i64 W, .int .i64 H, .slice A n c] 29)).heap.size (w.alloc (.cells #[.int .i64 W, .int .i64 H, .slice A n c] 29))) m1
    have HX1 := Lib.hid (HX.out.below bm HX.out.1)
    have HR1 := Lib.hid (HR.out.below bm (Nat.le_refl _))
    have HE1 := Lib.hid (HE.out.below bm (Nat.le_refl _))
    have HL1 := Lib.hid (below_drewN HL.out m1)
    clear bm HX HR HE HL
    go_wp2_with fail
    refine (spec_edList _ _ W H A n c f E m d g HX1.out HR1.out HE1.out).mono ?_
    rintro e w2 ⟨rfl, b2⟩
    go_wp2
    go_ret
    exact ⟨rfl, HL1.out.trans (b2.mono HL1.out.size)⟩
theorem edV_no {W H : Int} {n m : Nat} {f g : Nat → Int} (h : validB W H n f = false) : edV W H n f g m = false := by simp [edV, h]
theorem edV_yes {W H : Int} {n m : Nat} {f g : Nat → Int} (h : validB W H n f = true) : edV W H n f g m = edB n f g m := by simp [edV, h]
set_option maxHeartbeats 4000000 in
theorem impl_validEdits (w : World) (W H : Int) (A : Option Addr) (n c : Nat) (f : Nat → Int) (E : Option Addr) (m d : Nat) (g : Nat → Int) (hr : Row .i64 w A n c f) (hE : RowS 2 w E m d g) :
    Calls Try.prog 12 #[.agg #[.int .i64 W, .int .i64 H, .slice A n c], .slice E m d] w (Gives (.bool (edV W H n f g m)) w) := by
  have hmd := hE.1
  have hmc := hE.2.1
  have hnc := hr.1
  have hcm := hr.2.1
  unfold maxLen at hmc hcm
  have HL := Lib.hid (show Below w.heap.size w (w.alloc (.cells #[.int .i64 W, .int .i64 H, .slice A n c] 29)) from (Below.refl _ _).alloc (Nat.le_refl _) _)
  have HX := Lib.hid (Box.new w 29 W H A n c)
  have HR := Lib.hid (hr.below HL.out (Nat.le_refl _))
  have HE := Lib.hid (hE.below HL.out (Nat.le_refl _))
  have HWF := Lib.hid hE.2.2.1
  clear hr hE
  cases hv : validB W H n f
  · rw [edV_no hv]
    have HV := Lib.hid hv
    clear hv
    go_enter Try.func12, Try.ntmps12
    go_wp2_with fail
    refine (implOk_is HV.out HR.out).mono ?_
    rintro e w1 ⟨rfl, b1⟩
    go_wp2
    go_ret
    exact ⟨rfl, HL.out.trans (b1.mono HL.out.size)⟩
  · rw [edV_yes hv]
    have HV := Lib.hid hv
    obtain ⟨hW, hH, hin, -⟩ := validB_yes hv
    have HWs := Lib.hid hW
    have HHs := Lib.hid hH
    have HIN := Lib.hid hin
    clear hv hW hH hin
    go_enter Try.func12, Try.ntmps12
    go_wp2_with fail
    refine (implOk_is HV.out HR.out).mono ?_
    rintro e w1 ⟨rfl, b1⟩
    have HX1 := Lib.hid (HX.out.below b1 HX.out.1)
    have HR1 := Lib.hid (HR.out.below b1 (Nat.le_refl _))
    have HE1 := Lib.hid (HE.out.below b1 (Nat.le_refl _))
    have HL1 := Lib.hid (HL.out.trans (b1.mono HL.out.size))
    clear b1 HX HR HE HL
    go_wp2
    go_loopw [5, 13] (fun bv iv wr => ∃ (k : Nat) (t : Int), k ≤ m ∧ bv = .int .i64 t ∧ iv = .int .i64 k ∧ -1 ≤ t ∧ Hid ((k = 0 ∧ t = -1) ∨ (0 < k ∧ t = g ((k - 1) * 2) ∧ 0 ≤ t)) ∧ Hid (∀ i, i < k → edAt n f g i = true) ∧ Hid (Below w1.heap.size w1 wr)) (fun _ iv _ => m - (intOf iv).toNat)
    case atStart => exact ⟨0, -1, Nat.zero_le _, rfl, rfl, Int.le_refl _, Lib.hid (.inl ⟨rfl, rfl⟩), Lib.hid (fun i hi => absurd hi (Nat.not_lt_zero _)), Lib.hid (Below.refl _ _)⟩
    case round =>
      obtain ⟨k, t, hk, rfl, rfl, ht, HT, HO, HB⟩ := hrel
      by_cases hlt : k < m
      · obtain ⟨b, o, rfl, hbl, hc⟩ := (HE1.out.below HB.out (Nat.le_refl _)).2.2.2 (by omega)
        have c0 := hc (k * 2) (by omega)
        have c1 := hc (k * 2 + 1) (by omega)
        obtain ⟨a0, a1⟩ := i64_bd (HWF.out (k * 2) (by omega))
        simp only [← Nat.add_assoc] at c1
        clear hc
        obtain ⟨a, ha⟩ : ∃ a, g (k * 2) = a := ⟨_, rfl⟩
        obtain ⟨z, hz⟩ : ∃ z, g (k * 2 + 1) = z := ⟨_, rfl⟩
        have HA := Lib.hid ha
        have HZ := Lib.hid hz
        rw [ha] at c0 a0 a1
        rw [hz] at c1
        clear ha hz
        have HX2 := Lib.hid (HX1.out.below HB.out HX1.out.1)
        have HR2 := Lib.hid (HR1.out.below HB.out (Nat.le_refl _))
        have xz := HX2.out.1
        go_wp2_with fail
        clear c0 c1
        have bN := (Below.refl wr.heap.size wr).alloc (Nat.le_refl _) (.cells #[.int .i64 a, .int .i64 z] 50)
        have HK3 := Lib.hid (Cel.new wr [.int .i64 a, .int .i64 z] 50)
        have HX3 := Lib.hid (HX2.out.below bN HX2.out.1)
        have HR3 := Lib.hid (HR2.out.below bN (Nat.le_refl _))
        have HB3 := Lib.hid (HB.out.trans (bN.mono HB.out.size))
        clear bN HX2 HR2 HB
        generalize wr.alloc (.cells #[.int .i64 a, .int .i64 z] 50) = w3 at *
        generalize wr.heap.size = be at *
        have kz := HK3.out.1
        have k0 := HK3.out.2 0 _ rfl
        have k1 := HK3.out.2 1 _ rfl
        obtain ⟨xz, x0, x1, x2⟩ := id HX3.out
        by_cases h1 : a ≤ t
        · have HF := Lib.hid (show edB n f g m = false from edB_no hlt (edAt_of (decide_eq_false (by rw [HA.out]; have := HT.out; omega))))
          have hd : decide (a ≤ t) = true := decide_eq_true h1
          clear h1
          go_wp2_with fail
          go_quiet (fail)
          go_wp2
          go_ret
          exact ⟨ret_bool HF.out.symm, HL1.out.trans ((below_drewN HB3.out nq).mono HL1.out.size)⟩
        · have hd : decide (a ≤ t) = false := decide_eq_false h1
          have OL := Lib.hid (Old.mk_ (Below.refl w3.heap.size w3).drew)
          by_cases h2 : (n : Int) ≤ a
          · have HF := Lib.hid (show edB n f g m = false from edB_no hlt (edAt_of (decide_eq_false (by rw [HA.out]; omega))))
            have hd2 : decide (inner W H ≤ a) = true := decide_eq_true (by rw [← HIN.out]; exact h2)
            clear h2 h1
            go_wp2_with fail
            go_region_held3 (fun w' => (∀ b o, b < (w3).heap.size → w'.cell? ⟨b, o, none⟩ = (w3).cell? ⟨b, o, none⟩) ∧ Below (w3).heap.size (w3) w') (first | assumption | exact OL.out | exact Old.trans (by assumption) (by assumption))
              (first | (go_at_call 31; refine (sizeOf_any _ _ _ _ _ _).mono ?_; rintro e wa ⟨rfl, ba⟩) | (go_at_call 32; refine (innerPts_any _ _ HWs.out HHs.out _).mono ?_; rintro e wb ⟨rfl, bb⟩))
            all_goals
              rename_i hS
              have HB4 := Lib.hid (HB3.out.trans (hS.2.mono HB3.out.size))
              clear hS OL k0 k1 x0 x1 x2
              go_wp2
              go_ret
              exact ⟨ret_bool HF.out.symm, HL1.out.trans (HB4.out.mono HL1.out.size)⟩
          · have hd2 : decide (inner W H ≤ a) = false := decide_eq_false (by rw [← HIN.out]; exact h2)
            obtain ⟨qq, hqq⟩ : ∃ q, f a.toNat = q := ⟨_, rfl⟩
            have HQ := Lib.hid hqq
            clear hqq
            go_wp2_with fail
            go_region_held3 (fun w' => (∀ b o, b < (w3).heap.size → w'.cell? ⟨b, o, none⟩ = (w3).cell? ⟨b, o, none⟩) ∧ Below (w3).heap.size (w3) w') (first | assumption | exact OL.out | exact Old.trans (by assumption) (by assumption))
              (first | (go_at_call 31; refine (sizeOf_any _ _ _ _ _ _).mono ?_; rintro e wa ⟨rfl, ba⟩) | (go_at_call 32; refine (innerPts_any _ _ HWs.out HHs.out _).mono ?_; rintro e wb ⟨rfl, bb⟩))
            rename_i hS
            have HX4 := Lib.hid (HX3.out.below hS.2 xz)
            have HK4 := Lib.hid (HK3.out.below hS.2 kz)
            have HR4 := Lib.hid (HR3.out.below hS.2 (Nat.le_refl _))
            have HB4 := Lib.hid (HB3.out.trans (hS.2.mono HB3.out.size))
            clear hS OL k0 k1 x0 x1 x2 ba bb HX3 HK3 HR3 HB3 kz xz hd2
            have kz := HK4.out.1
            have k0 := HK4.out.2 0 _ rfl
            have k1 := HK4.out.2 1 _ rfl
            obtain ⟨xz, x0, x1, x2⟩ := id HX4.out
            obtain ⟨b2, o2, rfl, hbl2, hc2⟩ := HR4.out.2.2.2 (by omega)
            have e2 := hc2 a.toNat (by omega)
            rw [HQ.out] at e2
            clear hc2
            cases h3 : inB z 0 2
            · have hz3 : ¬ (0 ≤ z ∧ z ≤ 2) := of_decide_eq_false h3
              have HF := Lib.hid (show edB n f g m = false from edB_no hlt (edAt_of (decide_eq_false (by rw [HZ.out]; omega))))
              have H3 := Lib.hid h3
              clear h3 hz3 e2
              go_wp2_with fail
              go_quiet ((go_at_call 33; exact quiet_left (isBreak_is H3.out _)))
              go_wp2
              go_ret
              exact ⟨ret_bool HF.out.symm, HL1.out.trans ((below_drewN HB4.out nq).mono HL1.out.size)⟩
            · have H3 := Lib.hid h3
              have hz3 : 0 ≤ z ∧ z ≤ 2 := of_decide_eq_true h3
              clear h3
              cases h4 : (z == qq)
              · have hne : z ≠ qq := by simpa using h4
                have HTT := Lib.hid (show edAt n f g k = true from edAt_of (decide_eq_true (by rw [HA.out, HZ.out, HQ.out]; have := HT.out; refine ⟨⟨by omega, by omega, fun h => by omega⟩, hz3, hne⟩)))
                clear hne
                go_wp2_with fail
                go_quiet ((go_at_call 33; exact quiet_left (isBreak_is H3.out _)))
                have k0' := (HK4.out.below (below_drewN (Below.refl wb.heap.size wb) nq) kz).2 0 _ rfl
                have kz' := (HK4.out.below (below_drewN (Below.refl wb.heap.size wb) nq) kz).1
                clear k0 k1 x0 x1 x2 e2
                go_wp2
                go_roundw
                case rel => exact ⟨k + 1, a, by omega, rfl, by go_num, by omega, Lib.hid (.inr ⟨by omega, by rw [Nat.add_sub_cancel, HA.out], by omega⟩), Lib.hid (fun i hi => by rcases Nat.lt_succ_iff_lt_or_eq.1 hi with h | rfl; exact HO.out i h; exact HTT.out), Lib.hid (below_drewN HB4.out nq)⟩
                case measure => simp [intOf]; omega
              · have heq : z = qq := by simpa using h4
                have HF := Lib.hid (show edB n f g m = false from edB_no hlt (edAt_of (decide_eq_false (by rw [HA.out, HZ.out, HQ.out]; exact fun h => h.2.2 heq))))
                clear heq
                go_wp2_with fail
                go_quiet ((go_at_call 33; exact quiet_left (isBreak_is H3.out _)))
                go_wp2
                go_ret
                exact ⟨ret_bool HF.out.symm, HL1.out.trans ((below_drewN HB4.out nq).mono HL1.out.size)⟩
      · have HF := Lib.hid (show edB n f g m = true from edB_iff.2 fun i hi => HO.out i (by omega))
        go_wp2
        go_ret
        exact ⟨ret_bool HF.out.symm, HL1.out.trans (HB.out.mono HL1.out.size)⟩
theorem validEdits_is {w : World} {W H : Int} {A : Option Addr} {n c : Nat} {f : Nat → Int} {E : Option Addr} {m d : Nat} {g : Nat → Int} {v : Bool} (h : edV W H n f g m = v) (hr : Row .i64 w A n c f) (hE : RowS 2 w E m d g) :
    Calls Try.prog 12 #[.agg #[.int .i64 W, .int .i64 H, .slice A n c], .slice E m d] w (Gives (.bool v) w) := by rw [← h]; exact impl_validEdits w W H A n c f E m d g hr hE
theorem specValidEdits_is {w : World} {W H : Int} {A : Option Addr} {n c : Nat} {f : Nat → Int} {E : Option Addr} {m d : Nat} {g : Nat → Int} {v : Bool} (h : edV W H n f g m = v) (hr : Row .i64 w A n c f) (hE : RowS 2 w E m d g) :
    Calls Try.prog 9 #[.agg #[.int .i64 W, .int .i64 H, .slice A n c], .slice E m d] w (Gives (.bool v) w) := by rw [← h]; exact spec_validEdits w W H A n c f E m d g hr hE
end Go.Proofs.Ytgdmojkfpghmnaa.Base
