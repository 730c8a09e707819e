/-
  Reading numerals: the model's contract.
-/
import Derived.Test.YtocnocchliihhaaDoorRdm
import Derived.Test.YtocnocchliihhaaDoorDcs
import Derived.Deep.Cut
import Derived.Deep.DeepCutAuto
namespace Go.Proofs.YtocnocchliihhaaDoor.Base
open Go Go.RowKit
open Go.PlainAid (bt get_bt bt_nonneg bt_le)
set_option linter.unusedVariables false
set_option linter.unusedSimpArgs false

theorem eq_bytes {a b : ByteArray} (h : a = b) : (a.toList == b.toList) = true := by rw [h]; exact beq_self_eq_true _
theorem ne_bytes {a b : ByteArray} (h : ¬ a = b) : (a.toList == b.toList) = false := by
  rw [beq_eq_false_iff_ne]
  intro e
  rw [Lib.toList_data, Lib.toList_data] at e
  exact h (ByteArray.ext (Array.toList_inj.1 e))
def RDp (s : ByteArray) (w : World) (e : Ending) (w' : World) : Prop := ∃ (v : Int) (b : Bool), e = .returned (.tuple #[.int .i64 v, .bool b]) ∧ RDans s v b ∧ Below w.heap.size w w'
theorem list_at (t : ByteArray) {k : Nat} (h : k < t.size) : t.data.toList[k]? = some t[k] := by
  rw [List.getElem?_eq_getElem (by simpa using h)]
  rfl
theorem digit_at {t : ByteArray} {k : Nat} (h : k < t.size) (hd : digB (bt t k) = true) : Lib.digitVal t[k] = some (bt t k - 48).toNat := by
  have e := get_bt t k h
  have h2 := of_decide_eq_true hd
  unfold Lib.digitVal
  rw [if_pos ⟨by omega, by omega⟩]
  congr 1
  omega
theorem digit_no {t : ByteArray} {k m : Nat} (h : k < t.size) (hd : digB (bt t k) = false) : Lib.decFrom 0 t.data.toList ≠ some m := by
  intro e
  obtain ⟨d, hk⟩ := Lib.digit_of_decFrom _ _ _ e k _ (list_at t h)
  have e2 := get_bt t k h
  have h2 := of_decide_eq_false hd
  unfold Lib.digitVal at hk
  split at hk
  · omega
  · cases hk
theorem pow_18 {k m : Nat} (h : m < 10 ^ k) (hk : k ≤ 17) : m < 100000000000000000 := Nat.lt_of_lt_of_le h (Nat.pow_le_pow_right (by omega) hk)
theorem pow_19 {k m : Nat} (h : m < 10 ^ k) (hk : k ≤ 18) : m < 1000000000000000000 := Nat.lt_of_lt_of_le h (Nat.pow_le_pow_right (by omega) hk)

set_option maxHeartbeats 4000000 in
set_option maxRecDepth 100000 in
theorem spec_l01Number (s : ByteArray) (w : World) (hs : s.size ≤ 1048576) : Calls Tryd.prog 112 #[.string s] w (RDp s w) := by
  by_cases h0 : s.size = 0
  · have he := size_empty h0
    have HN := Lib.hid (show ∀ n, ¬ RDok s n from fun n h => by
      have e : s.data.toList = [] := by rw [List.eq_nil_iff_length_eq_zero, Array.length_toList]; exact h0
      have := (rd_pos h (fun r hr => by rw [e] at hr; cases hr)).2
      rw [e] at this
      exact dec_ne _ this.symm)
    go_enter Tryd.func112, Tryd.ntmps112
    go_wp2
    go_ret2
    exact ⟨0, false, rfl, .inr ⟨rfl, rfl, HN.out⟩, Below.refl _ _⟩
  · have he := size_full h0
    have hp : 0 < s.size := by omega
    have hb := get_bt s
    by_cases hm : bt s 0 = 45
    · have hmb : (bt s 0 == 45) = true := beq_iff_eq.2 hm
      have HM := Lib.hid hm
      obtain ⟨r, hr⟩ : ∃ r, s.data.toList = 45 :: r := by
        have h1 := list_at s hp
        have h2 : s[0] = 45 := by have := get_bt s 0 hp; apply UInt8.toNat_inj.1; show _ = 45; omega
        rw [h2] at h1
        cases hl : s.data.toList with
        | nil => rw [hl] at h1; cases h1
        | cons c r => rw [hl] at h1; simp at h1; exact ⟨r, by rw [h1]⟩
      have ht : (s.extract 1 s.size).data.toList = r := by
        have hl : r.length = s.size - 1 := by
          have h := congrArg List.length hr
          rw [Array.length_toList] at h
          simp at h
          have h2 : s.size = s.data.size := rfl
          omega
        simp [ByteArray.data_extract, hr]
        exact List.take_of_length_le (by omega)
      have hz : (s.extract 1 s.size).size = s.size - 1 := by simp
      have HG := Lib.hid (show ∀ n, RDok s n → n < 0 ∧ (s.extract 1 s.size).data.toList = Lib.decDigits n.natAbs from fun n h => by rw [ht]; exact rd_neg h hr)
      clear hm hr ht r
      go_enter Tryd.func112, Tryd.ntmps112
      go_upto_region 4 with (fail)
      generalize s.extract 1 s.size = t at *
      clear hb hmb he
      have hb := get_bt t
      have hlt : t.size < s.size := by omega
      by_cases hlen : 1 ≤ t.size ∧ t.size ≤ 18
      · obtain ⟨hl1, hl2⟩ := hlen
        have HH := Lib.hid hb
        go_wp2
        go_loop [5, 6] (fun nv iv => ∃ k m : Nat, k ≤ t.size ∧ iv = .int .i64 k ∧ nv = .int .i64 m ∧ Hid (Lib.decFrom 0 (t.data.toList.take k) = some m) ∧ Hid (m < 10 ^ k)) (fun _ iv => t.size - (intOf iv).toNat)
        case atStart => exact ⟨0, 0, Nat.zero_le _, rfl, rfl, Lib.hid rfl, Lib.hid (by simp)⟩
        case round =>
          obtain ⟨k, m, hk, rfl, rfl, HD, HP⟩ := hrel
          by_cases hkt : k < t.size
          · have hm17 := pow_18 HP.out (by omega)
            have q1 := bt_nonneg t k
            have q2 := bt_le t k
            cases hd : digB (bt t k)
            · have HX := Lib.hid hd
              clear hd
              go_wp2_with (go_at_call 134; refine (specDigit HX.out _).mono ?_; rintro e w' ⟨rfl, rfl⟩)
              go_ret2
              refine ⟨0, false, rfl, .inr ⟨rfl, rfl, fun n h => ?_⟩, Below.refl _ _⟩
              have e := (HG.out n h).2
              exact digit_no hkt HX.out (by rw [e]; exact decFrom_dec _)
            · have h2 := of_decide_eq_true hd
              obtain ⟨h3, h4⟩ := h2
              have HX := Lib.hid hd
              obtain ⟨u, hu⟩ : ∃ u : Nat, bt t k = 48 + u := ⟨(bt t k - 48).toNat, by omega⟩
              have hu9 : u ≤ 9 := by omega
              have HS : Hid (Lib.decFrom 0 (t.data.toList.take (k + 1)) = some (m * 10 + u)) := Lib.hid (Lib.decFrom_take _ _ _ _ _ _ HD.out (list_at t hkt) (by rw [digit_at hkt hd]; congr 1; omega))
              have HQ : Hid (m * 10 + u < 10 ^ (k + 1)) := Lib.hid (by have := HP.out; rw [Nat.pow_succ]; omega)
              have HU := Lib.hid hu
              clear hd hu
              go_wp2_with (go_at_call 134; refine (specDigit HX.out _).mono ?_; rintro e w' ⟨rfl, rfl⟩)
              go_round
              case rel => exact ⟨k + 1, m * 10 + u, by omega, by go_num, by rw [HU.out]; congr 1; omega, HS, HQ⟩
              case measure => simp [intOf]; omega
          · have ek : k = t.size := by omega
            have HA := Lib.hid (show Lib.decFrom 0 t.data.toList = some m by have h := HD.out; rwa [ek, List.take_of_length_le (by simp)] at h)
            have hm18 := pow_19 HP.out (by omega)
            have HUN := Lib.hid (show ∀ n, RDok s n → n = (-(m : Int)) from fun n h => by
              obtain ⟨g1, g2⟩ := HG.out n h
              have e := HA.out
              rw [g2, decFrom_dec] at e
              have := Option.some.inj e
              omega)
            subst ek
            by_cases hq : decS (-(m : Int)) = s
            · have hqb := eq_bytes hq
              have HQ := Lib.hid hq
              clear hq
              go_wp2_with (go_at_call 108; refine (spec_l01Dec (-(m : Int)) (by omega) (by omega) _).mono ?_; rintro e w1 ⟨rfl, hb1⟩)
              go_ret2
              exact ⟨(-(m : Int)), true, rfl, .inl ⟨rfl, by omega, by omega, HQ.out⟩, hb1⟩
            · have hqb := ne_bytes hq
              have HQ := Lib.hid hq
              clear hq
              go_wp2_with (go_at_call 108; refine (spec_l01Dec (-(m : Int)) (by omega) (by omega) _).mono ?_; rintro e w1 ⟨rfl, hb1⟩)
              go_ret2
              exact ⟨0, false, rfl, .inr ⟨rfl, rfl, fun n h => HQ.out (by rw [← HUN.out n h]; exact h.2.2)⟩, hb1⟩
      · have HN := Lib.hid (show ∀ n, ¬ RDok s n from fun n h => hlen (by
          have h2 := (HG.out n h).2
          have h3 := dec_len (m := n.natAbs) (by have := h.1; have := h.2.1; omega)
          rw [← h2, Array.length_toList] at h3
          exact h3))
        by_cases h1 : t.size < 1
        · go_wp2
          all_goals go_ret2
          all_goals exact ⟨0, false, rfl, .inr ⟨rfl, rfl, HN.out⟩, Below.refl _ _⟩
        · have h18 : 18 < t.size := by omega
          go_wp2
          go_ret2
          exact ⟨0, false, rfl, .inr ⟨rfl, rfl, HN.out⟩, Below.refl _ _⟩
    · have hmb : (bt s 0 == 45) = false := beq_eq_false_iff_ne.2 hm
      have HM := Lib.hid hm
      have HG := Lib.hid (show ∀ n, RDok s n → 0 ≤ n ∧ s.data.toList = Lib.decDigits n.natAbs from fun n h => rd_pos h (fun r hr => hm (by
        have h1 := list_at s hp
        rw [hr] at h1
        have h2 : s[0] = 45 := by simpa using h1.symm
        have := get_bt s 0 hp
        rw [h2] at this
        exact this.symm)))
      clear hm
      go_enter Tryd.func112, Tryd.ntmps112
      go_upto_region 4 with (fail)
      clear hmb he
      by_cases hlen : 1 ≤ s.size ∧ s.size ≤ 18
      · obtain ⟨hl1, hl2⟩ := hlen
        have HH := Lib.hid hb
        go_wp2
        go_loop [5, 6] (fun nv iv => ∃ k m : Nat, k ≤ s.size ∧ iv = .int .i64 k ∧ nv = .int .i64 m ∧ Hid (Lib.decFrom 0 (s.data.toList.take k) = some m) ∧ Hid (m < 10 ^ k)) (fun _ iv => s.size - (intOf iv).toNat)
        case atStart => exact ⟨0, 0, Nat.zero_le _, rfl, rfl, Lib.hid rfl, Lib.hid (by simp)⟩
        case round =>
          obtain ⟨k, m, hk, rfl, rfl, HD, HP⟩ := hrel
          by_cases hkt : k < s.size
          · have hm17 := pow_18 HP.out (by omega)
            have q1 := bt_nonneg s k
            have q2 := bt_le s k
            cases hd : digB (bt s k)
            · have HX := Lib.hid hd
              clear hd
              go_wp2_with (go_at_call 134; refine (specDigit HX.out _).mono ?_; rintro e w' ⟨rfl, rfl⟩)
              go_ret2
              refine ⟨0, false, rfl, .inr ⟨rfl, rfl, fun n h => ?_⟩, Below.refl _ _⟩
              have e := (HG.out n h).2
              exact digit_no hkt HX.out (by rw [e]; exact decFrom_dec _)
            · have h2 := of_decide_eq_true hd
              obtain ⟨h3, h4⟩ := h2
              have HX := Lib.hid hd
              obtain ⟨u, hu⟩ : ∃ u : Nat, bt s k = 48 + u := ⟨(bt s k - 48).toNat, by omega⟩
              have hu9 : u ≤ 9 := by omega
              have HS : Hid (Lib.decFrom 0 (s.data.toList.take (k + 1)) = some (m * 10 + u)) := Lib.hid (Lib.decFrom_take _ _ _ _ _ _ HD.out (list_at s hkt) (by rw [digit_at hkt hd]; congr 1; omega))
              have HQ : Hid (m * 10 + u < 10 ^ (k + 1)) := Lib.hid (by have := HP.out; rw [Nat.pow_succ]; omega)
              have HU := Lib.hid hu
              clear hd hu
              go_wp2_with (go_at_call 134; refine (specDigit HX.out _).mono ?_; rintro e w' ⟨rfl, rfl⟩)
              go_round
              case rel => exact ⟨k + 1, m * 10 + u, by omega, by go_num, by rw [HU.out]; congr 1; omega, HS, HQ⟩
              case measure => simp [intOf]; omega
          · have ek : k = s.size := by omega
            have HA := Lib.hid (show Lib.decFrom 0 s.data.toList = some m by have h := HD.out; rwa [ek, List.take_of_length_le (by simp)] at h)
            have hm18 := pow_19 HP.out (by omega)
            have HUN := Lib.hid (show ∀ n, RDok s n → n = (m : Int) from fun n h => by
              obtain ⟨g1, g2⟩ := HG.out n h
              have e := HA.out
              rw [g2, decFrom_dec] at e
              have := Option.some.inj e
              omega)
            subst ek
            by_cases hq : decS (m : Int) = s
            · have hqb := eq_bytes hq
              have HQ := Lib.hid hq
              clear hq
              go_wp2_with (go_at_call 108; refine (spec_l01Dec (m : Int) (by omega) (by omega) _).mono ?_; rintro e w1 ⟨rfl, hb1⟩)
              go_ret2
              exact ⟨(m : Int), true, rfl, .inl ⟨rfl, by omega, by omega, HQ.out⟩, hb1⟩
            · have hqb := ne_bytes hq
              have HQ := Lib.hid hq
              clear hq
              go_wp2_with (go_at_call 108; refine (spec_l01Dec (m : Int) (by omega) (by omega) _).mono ?_; rintro e w1 ⟨rfl, hb1⟩)
              go_ret2
              exact ⟨0, false, rfl, .inr ⟨rfl, rfl, fun n h => HQ.out (by rw [← HUN.out n h]; exact h.2.2)⟩, hb1⟩
      · have HN := Lib.hid (show ∀ n, ¬ RDok s n from fun n h => hlen (by
          have h2 := (HG.out n h).2
          have h3 := dec_len (m := n.natAbs) (by have := h.1; have := h.2.1; omega)
          rw [← h2, Array.length_toList] at h3
          exact h3))
        by_cases h1 : s.size < 1
        · go_wp2
          all_goals go_ret2
          all_goals exact ⟨0, false, rfl, .inr ⟨rfl, rfl, HN.out⟩, Below.refl _ _⟩
        · have h18 : 18 < s.size := by omega
          go_wp2
          go_ret2
          exact ⟨0, false, rfl, .inr ⟨rfl, rfl, HN.out⟩, Below.refl _ _⟩
end Go.Proofs.YtocnocchliihhaaDoor.Base
