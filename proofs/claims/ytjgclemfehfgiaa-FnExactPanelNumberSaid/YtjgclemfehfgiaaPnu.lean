/-
  The number of a panel, the model's and the program's.
-/
import Derived.Test.YtjgclemfehfgiaaPcn
import Derived.Test.YtjgclemfehfgiaaPan
namespace Go.Proofs.Ytjgclemfehfgiaa.Base
open Go.RowKit
set_option linter.unusedVariables false
set_option linter.unusedSimpArgs false

/-- the number that the first k digits make -/
def nmN (f : Nat → Int) : Nat → Int
  | 0 => 0
  | k + 1 => 3 * nmN f k + f k
theorem mn3_pow {n : Nat} (h : mn3 n ≤ 2500) {k : Nat} (hk : k < n) : mn3 (k + 1) = 3 * mn3 k ∧ 3 * mn3 k ≤ 2500 := by
  have h1 : 3 * mn3 k ≤ 2500 := by
    rcases Int.lt_or_le 2500 (3 * mn3 k) with e | e
    · have := mn3_full e (n - (k + 1))
      rw [show k + 1 + (n - (k + 1)) = n by omega] at this
      omega
    · exact e
  exact ⟨mn3_next h1, h1⟩
/-- the code of a panel whose number is asked for, and the number -/
def pnC (W H : Int) (n : Nat) (f : Nat → Int) : Int := if validB W H n f then pcC W H else 1
def pnV (W H : Int) (n : Nat) (f : Nat → Int) : Int := if pnC W H n f = 0 then nmN f n else 0
section
variable (w : World) (W H : Int) (A : Option Addr) (n c : Nat) (f : Nat → Int)
theorem spec_panelNumber (hr : Row .i64 w A n c f) :
    Calls Try.prog 9 #[.agg #[.int .i64 W, .int .i64 H, .slice A n c]] w (Gives (.tuple #[.int .i64 (pnV W H n f), .int .i64 (pnC W H n f)]) w) := by
  have HR := Lib.hid hr
  clear hr
  have hbel : Below w.heap.size w (w.alloc (.cells #[.int .i64 W, .int .i64 H, .slice A n c] 30)) := by go_grown
  have HL := Lib.hid hbel
  have HX := Lib.hid (Box.new w 30 W H A n c)
  clear hbel
  cases hv : validB W H n f
  · have e1 : pnC W H n f = 1 := by simp [pnC, hv]
    have e2 : pnV W H n f = 0 := by simp [pnV, e1]
    rw [e1, e2]
    have HV := Lib.hid hv
    clear hv e1 e2
    go_enter Try.func9, Try.ntmps9
    go_wp2_with fail
    refine (specOk_is HV.out HX.out (HR.out.below HL.out (Nat.le_refl _))).mono ?_
    rintro e w1 ⟨m, rfl, rfl⟩
    go_wp2
    go_ret2
    exact ⟨rfl, below_drewN HL.out m⟩
  · have HV := Lib.hid hv
    have e1 : pnC W H n f = pcC W H := by simp [pnC, hv]
    have HC := Lib.hid (fun w' : World => spec_code12 W H w')
    by_cases hc : pcC W H = 0
    · have e2 : pnV W H n f = nmN f n := by simp [pnV, e1, hc]
      obtain ⟨hW, hH, hm, -⟩ := pc_zero hc
      obtain ⟨-, -, hn, hK⟩ := validB_yes hv
      have hmn : mn3 n ≤ 2500 := by unfold mnP at hm; rw [← hn, Int.toNat_natCast] at hm; exact hm
      have HMN := Lib.hid hmn
      have HK := Lib.hid (kinds_iff.1 hK)
      rw [e1, e2, hc]
      rw [hc] at HC
      have hcm := HR.out.2.1
      have hnc := HR.out.1
      unfold maxLen at hcm
      clear hv e1 e2 hc hW hH hm hn hK hmn
      go_enter Try.func9, Try.ntmps9
      go_wp2_with fail
      refine (specOk_is HV.out HX.out (HR.out.below HL.out (Nat.le_refl _))).mono ?_
      rintro e w1 ⟨m, rfl, rfl⟩
      have hB := below_drewN HL.out m
      obtain ⟨-, -, -, hcell⟩ := HR.out.below hB (Nat.le_refl _)
      obtain ⟨hz, k0, k1, k2⟩ := HX.out.below (below_of_drew (m := m) rfl) HX.out.1
      generalize (w.alloc (.cells #[.int .i64 W, .int .i64 H, .slice A n c] 30)).drewN m = w2 at *
      go_wp2_with fail
      refine (HC.out _).mono ?_
      rintro e w3 ⟨rfl, rfl⟩
      go_wp2
      go_loop [5, 6] (fun s i => ∃ (k : Nat) (r m : Int), k ≤ n ∧ 0 ≤ r ∧ r + 1 ≤ m ∧ m ≤ 2500 ∧ Hid (m = mn3 k) ∧ i = .int .i64 k ∧ s = .int .i64 r ∧ Hid (r = nmN f k)) (fun _ i => n - (intOf i).toNat)
      case atStart => exact ⟨0, 0, 1, Nat.zero_le _, by omega, by omega, by omega, Lib.hid rfl, rfl, rfl, Lib.hid rfl⟩
      case round =>
        obtain ⟨k, r, mm, hk, hr1, hr2, hr3, HM, rfl, rfl, HC⟩ := hrel
        by_cases hlt : k < n
        · obtain ⟨b, o, rfl, hbl, hc⟩ := hcell (by omega)
          have hck := hc k hlt
          clear hc hcell
          obtain ⟨t, ht⟩ : ∃ t, f k = t := ⟨_, rfl⟩
          have hb := HK.out k hlt
          obtain ⟨p1, p2⟩ := mn3_pow HMN.out hlt
          have HS := Lib.hid (show 3 * r + t = nmN f (k + 1) by rw [HC.out, ← ht]; rfl)
          have HM2 := Lib.hid (show 3 * mm = mn3 (k + 1) by rw [p1, HM.out])
          have hm3 : 3 * mm ≤ 2500 := by rw [HM.out]; exact p2
          rw [ht] at hck hb
          clear ht p1 p2
          go_wp2
          go_round
          case rel => exact ⟨k + 1, 3 * r + t, 3 * mm, by omega, by omega, by omega, hm3, HM2, by go_num, rfl, HS⟩
          case measure => simp [intOf]; omega
        · have e : k = n := by omega
          have HS := Lib.hid (show r = nmN f n by rw [HC.out, e])
          clear hcell e
          go_wp2
          go_ret2
          exact ⟨ret_ints HS.out rfl, hB⟩
    · have e2 : pnV W H n f = 0 := by simp [pnV, e1, hc]
      rw [e1, e2]
      obtain ⟨q, hq⟩ : ∃ q, pcC W H = q := ⟨_, rfl⟩
      rw [hq] at HC hc ⊢
      clear hv e1 e2 hq
      go_enter Try.func9, Try.ntmps9
      go_wp2_with fail
      refine (specOk_is HV.out HX.out (HR.out.below HL.out (Nat.le_refl _))).mono ?_
      rintro e w1 ⟨m, rfl, rfl⟩
      have hB := below_drewN HL.out m
      obtain ⟨hz, k0, k1, k2⟩ := HX.out.below (below_of_drew (m := m) rfl) HX.out.1
      generalize (w.alloc (.cells #[.int .i64 W, .int .i64 H, .slice A n c] 30)).drewN m = w2 at *
      go_wp2_with fail
      refine (HC.out _).mono ?_
      rintro e w3 ⟨rfl, rfl⟩
      go_wp2
      go_ret2
      exact ⟨rfl, hB⟩
theorem impl_panelNumber (hr : Row .i64 w A n c f) :
    Calls Try.prog 11 #[.agg #[.int .i64 W, .int .i64 H, .slice A n c]] w (Gives (.tuple #[.int .i64 (pnV W H n f), .int .i64 (pnC W H n f)]) w) := by
  have HR := Lib.hid hr
  clear hr
  have hbel : Below w.heap.size w (w.alloc (.cells #[.int .i64 W, .int .i64 H, .slice A n c] 30)) := by go_grown
  have HL := Lib.hid hbel
  have HX := Lib.hid (Box.new w 30 W H A n c)
  clear hbel
  cases hv : validB W H n f
  · have e1 : pnC W H n f = 1 := by simp [pnC, hv]
    have e2 : pnV W H n f = 0 := by simp [pnV, e1]
    rw [e1, e2]
    have HV := Lib.hid hv
    clear hv e1 e2
    go_enter Try.func11, Try.ntmps11
    go_wp2_with fail
    refine (implOk_is HV.out (HR.out.below HL.out (Nat.le_refl _))).mono ?_
    rintro e w1 ⟨rfl, b1⟩
    go_wp2
    go_ret2
    exact ⟨rfl, HL.out.trans (b1.mono (by simp))⟩
  · have HV := Lib.hid hv
    have e1 : pnC W H n f = pcC W H := by simp [pnC, hv]
    have HC := Lib.hid (fun w' : World => impl_panelCount W H w')
    by_cases hc : pcC W H = 0
    · have e2 : pnV W H n f = nmN f n := by simp [pnV, e1, hc]
      obtain ⟨hW, hH, hm, hpv⟩ := pc_zero hc
      obtain ⟨-, -, hn, hK⟩ := validB_yes hv
      have hmn : mn3 n ≤ 2500 := by unfold mnP at hm; rw [← hn, Int.toNat_natCast] at hm; exact hm
      have HMN := Lib.hid hmn
      have HK := Lib.hid (kinds_iff.1 hK)
      rw [e1, e2, hc]
      rw [hc] at HC
      obtain ⟨pv, hpv2⟩ : ∃ pv, pcV W H = pv := ⟨_, rfl⟩
      rw [hpv2] at HC
      have hcm := HR.out.2.1
      have hnc := HR.out.1
      unfold maxLen at hcm
      clear hv e1 e2 hc hW hH hm hn hK hmn hpv hpv2
      go_enter Try.func11, Try.ntmps11
      go_wp2_with fail
      refine (implOk_is HV.out (HR.out.below HL.out (Nat.le_refl _))).mono ?_
      rintro e w2 ⟨rfl, b1⟩
      have HB := Lib.hid (HL.out.trans (b1.mono (by simp)))
      have HX1 := Lib.hid (HX.out.below b1 HX.out.1)
      obtain ⟨hz, k0, k1, k2⟩ := HX1.out
      clear b1
      go_wp2_with fail
      refine (HC.out _).mono ?_
      rintro e w3 ⟨rfl, b3⟩
      have hB := HB.out.trans (b3.mono HB.out.size)
      obtain ⟨-, -, -, hcell⟩ := HR.out.below hB (Nat.le_refl _)
      clear hz k0 k1 k2
      obtain ⟨hz, k0, k1, k2⟩ := HX1.out.below b3 HX1.out.1
      clear b3
      go_wp2
      go_loop [6, 26] (fun s i => ∃ (k : Nat) (r m : Int), k ≤ n ∧ 0 ≤ r ∧ r + 1 ≤ m ∧ m ≤ 2500 ∧ Hid (m = mn3 k) ∧ i = .int .i64 k ∧ s = .int .i64 r ∧ Hid (r = nmN f k)) (fun _ i => n - (intOf i).toNat)
      case atStart => exact ⟨0, 0, 1, Nat.zero_le _, by omega, by omega, by omega, Lib.hid rfl, rfl, rfl, Lib.hid rfl⟩
      case round =>
        obtain ⟨k, r, mm, hk, hr1, hr2, hr3, HM, rfl, rfl, HC⟩ := hrel
        by_cases hlt : k < n
        · obtain ⟨b, o, rfl, hbl, hc⟩ := hcell (by omega)
          have hck := hc k hlt
          clear hc hcell
          obtain ⟨t, ht⟩ : ∃ t, f k = t := ⟨_, rfl⟩
          have hb := HK.out k hlt
          obtain ⟨p1, p2⟩ := mn3_pow HMN.out hlt
          have HS := Lib.hid (show r * 3 + t = nmN f (k + 1) by rw [HC.out, ← ht]; show _ = 3 * nmN f k + f k; omega)
          have HM2 := Lib.hid (show 3 * mm = mn3 (k + 1) by rw [p1, HM.out])
          have hm3 : 3 * mm ≤ 2500 := by rw [HM.out]; exact p2
          rw [ht] at hck hb
          clear ht p1 p2
          go_wp2
          go_round
          case rel => exact ⟨k + 1, r * 3 + t, 3 * mm, by omega, by omega, by omega, hm3, HM2, by go_num, rfl, HS⟩
          case measure => simp [intOf]; omega
        · have e : k = n := by omega
          have HS := Lib.hid (show r = nmN f n by rw [HC.out, e])
          clear hcell e
          go_wp2
          go_ret2
          exact ⟨ret_ints HS.out rfl, hB⟩
    · have e2 : pnV W H n f = 0 := by simp [pnV, e1, hc]
      rw [e1, e2]
      obtain ⟨q, hq⟩ : ∃ q, pcC W H = q := ⟨_, rfl⟩
      obtain ⟨pv, hpv2⟩ : ∃ pv, pcV W H = pv := ⟨_, rfl⟩
      rw [hq, hpv2] at HC
      rw [hq] at hc ⊢
      clear hv e1 e2 hq hpv2
      go_enter Try.func11, Try.ntmps11
      go_wp2_with fail
      refine (implOk_is HV.out (HR.out.below HL.out (Nat.le_refl _))).mono ?_
      rintro e w2 ⟨rfl, b1⟩
      have HB := Lib.hid (HL.out.trans (b1.mono (by simp)))
      obtain ⟨hz, k0, k1, k2⟩ := HX.out.below b1 HX.out.1
      clear b1
      go_wp2_with fail
      refine (HC.out _).mono ?_
      rintro e w3 ⟨rfl, b3⟩
      have hB := HB.out.trans (b3.mono HB.out.size)
      clear b3
      go_wp2
      go_ret2
      exact ⟨rfl, hB⟩
end
end Go.Proofs.Ytjgclemfehfgiaa.Base
