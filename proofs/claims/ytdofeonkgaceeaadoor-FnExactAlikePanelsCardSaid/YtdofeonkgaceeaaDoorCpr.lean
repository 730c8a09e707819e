/-
  Panels compared: the model, the specification's, the program's.
-/
import Derived.Test.YtdofeonkgaceeaaDoorSame
import Derived.Test.YtdofeonkgaceeaaDoorShape
namespace Go.Proofs.YtdofeonkgaceeaaDoor.Base
open Go Go.RowKit
set_option linter.unusedVariables false
set_option linter.unusedSimpArgs false

def sgnI (a b : Int) : Int := if a < b then -1 else if b < a then 1 else 0
theorem sgn_lt {a b : Int} (h : a < b) : sgnI a b = -1 := if_pos h
theorem sgn_gt {a b : Int} (h : b < a) : sgnI a b = 1 := by unfold sgnI; rw [if_neg (by omega), if_pos h]
theorem sgn_eq (a : Int) : sgnI a a = 0 := by unfold sgnI; rw [if_neg (by omega), if_neg (by omega)]
theorem sgn_cases (a b : Int) : (a < b ∧ sgnI a b = -1) ∨ (b < a ∧ sgnI a b = 1) ∨ (a = b ∧ sgnI a b = 0) := by
  rcases Int.lt_trichotomy a b with h | h | h
  · exact .inl ⟨h, sgn_lt h⟩
  · exact .inr (.inr ⟨h, h ▸ sgn_eq a⟩)
  · exact .inr (.inl ⟨h, sgn_gt h⟩)
theorem sgn_neg (a b : Int) : sgnI b a = -sgnI a b := by
  rcases sgn_cases a b with ⟨h, e⟩ | ⟨h, e⟩ | ⟨rfl, e⟩
  · rw [e, sgn_gt h]; rfl
  · rw [e, sgn_lt h]
  · rw [e]; rfl
/-- two rows, number by number, from i on, k numbers left of both -/
def cmpK (f f' : Nat → Int) (i : Nat) : Nat → Int
  | 0 => 0
  | k + 1 => if sgnI (f i) (f' i) = 0 then cmpK f f' (i + 1) k else sgnI (f i) (f' i)
/-- two rows: the first difference, else the shorter one is less -/
def cmpR (n : Nat) (f : Nat → Int) (n' : Nat) (f' : Nat → Int) : Int := if cmpK f f' 0 (min n n') = 0 then sgnI n n' else cmpK f f' 0 (min n n')
theorem cmpK_at {f f' : Nat → Int} {m j : Nat} (hj : j < m) (hne : sgnI (f j) (f' j) ≠ 0) : ∀ i d, i + d = j → (∀ t, i ≤ t → t < j → f t = f' t) → cmpK f f' i (m - i) = sgnI (f j) (f' j)
  | i, 0, e, h => by
    obtain rfl : i = j := by omega
    obtain ⟨k, hk⟩ : ∃ k, m - i = k + 1 := ⟨m - i - 1, by omega⟩
    rw [hk]
    exact if_neg hne
  | i, d + 1, e, h => by
    obtain ⟨k, hk⟩ : ∃ k, m - i = k + 1 := ⟨m - i - 1, by omega⟩
    have ih := cmpK_at hj hne (i + 1) d (by omega) (fun t h1 h2 => h t (by omega) h2)
    rw [show m - (i + 1) = k by omega] at ih
    rw [hk]
    exact (if_pos (by rw [h i (Nat.le_refl _) (by omega)]; exact sgn_eq _)).trans ih
theorem cmpK_end {f f' : Nat → Int} : ∀ i k, (∀ t, i ≤ t → t < i + k → f t = f' t) → cmpK f f' i k = 0
  | i, 0, h => rfl
  | i, k + 1, h => (if_pos (by rw [h i (Nat.le_refl _) (by omega)]; exact sgn_eq _)).trans (cmpK_end (i + 1) k fun t h1 h2 => h t (by omega) (by omega))
theorem cmpR_at {n n' j : Nat} {f f' : Nat → Int} (h1 : j < n) (h2 : j < n') (h : ∀ t, t < j → f t = f' t) (hne : f j ≠ f' j) : cmpR n f n' f' = sgnI (f j) (f' j) := by
  have h0 : sgnI (f j) (f' j) ≠ 0 := by
    rcases sgn_cases (f j) (f' j) with ⟨-, e⟩ | ⟨-, e⟩ | ⟨e, -⟩
    · rw [e]; decide
    · rw [e]; decide
    · exact absurd e hne
  have e := cmpK_at (m := min n n') (by omega) h0 0 j (by omega) (fun t _ ht => h t ht)
  unfold cmpR
  rw [Nat.sub_zero] at e
  rw [e, if_neg h0]
theorem cmpR_end {n n' : Nat} {f f' : Nat → Int} (h : ∀ t, t < n → t < n' → f t = f' t) : cmpR n f n' f' = sgnI n n' := by
  unfold cmpR
  rw [cmpK_end 0 (min n n') (fun t _ ht => h t (by omega) (by omega)), if_pos rfl]
def pairF (W H : Int) : Nat → Int := fun i => if i = 0 then W else H
/-- two panels -/
def cmpP (W H : Int) (n : Nat) (f : Nat → Int) (W' H' : Int) (n' : Nat) (f' : Nat → Int) : Int :=
  if sgnI W W' = 0 then (if sgnI H H' = 0 then cmpR n f n' f' else sgnI H H') else sgnI W W'
theorem cmp_pair (W H W' H' : Int) : cmpR 2 (pairF W H) 2 (pairF W' H') = if sgnI W W' = 0 then sgnI H H' else sgnI W W' := by
  show (if cmpK (pairF W H) (pairF W' H') 0 2 = 0 then sgnI ((2 : Nat) : Int) ((2 : Nat) : Int) else cmpK (pairF W H) (pairF W' H') 0 2) = _
  have e : cmpK (pairF W H) (pairF W' H') 0 2 = if sgnI W W' = 0 then sgnI H H' else sgnI W W' := by
    show (if sgnI W W' = 0 then (if sgnI H H' = 0 then 0 else sgnI H H') else sgnI W W') = _
    by_cases h1 : sgnI W W' = 0
    · rw [if_pos h1, if_pos h1]
      by_cases h2 : sgnI H H' = 0
      · rw [if_pos h2, h2]
      · rw [if_neg h2]
    · rw [if_neg h1, if_neg h1]
  rw [e]
  by_cases h : (if sgnI W W' = 0 then sgnI H H' else sgnI W W') = 0
  · rw [if_pos h, h]; rfl
  · rw [if_neg h]
theorem cmpP_pair (W H : Int) (n : Nat) (f : Nat → Int) (W' H' : Int) (n' : Nat) (f' : Nat → Int) :
    cmpP W H n f W' H' n' f' = if cmpR 2 (pairF W H) 2 (pairF W' H') = 0 then cmpR n f n' f' else cmpR 2 (pairF W H) 2 (pairF W' H') := by
  rw [cmp_pair]
  unfold cmpP
  by_cases h1 : sgnI W W' = 0
  · simp only [if_pos h1]
  · simp only [if_neg h1]

theorem spec_numbers (w : World) (A A' : Option Addr) (n n' c c' : Nat) (f f' : Nat → Int) (hr : Row .i64 w A n c f) (hr' : Row .i64 w A' n' c' f') :
    Calls Tryd.prog 118 #[.slice A n c, .slice A' n' c'] w (Drew (.int .i64 (cmpR n f n' f')) w) := by
  obtain ⟨hnc, hcm, _, hcell⟩ := hr
  obtain ⟨hnc', hcm', _, hcell'⟩ := hr'
  unfold maxLen at hcm hcm'
  go_enter Tryd.func118, Tryd.ntmps118
  go_wp2
  go_loopw [5] (fun i wr => ∃ k m : Nat, k ≤ n ∧ k ≤ n' ∧ i = .int .i64 k ∧ wr = w.drewN m ∧ Hid (∀ j, j < k → f j = f' j)) (fun i _ => n - (intOf i).toNat)
  case atStart => exact ⟨0, 0, Nat.zero_le _, Nat.zero_le _, rfl, rfl, Lib.hid (fun j hj => absurd hj (Nat.not_lt_zero _))⟩
  case round =>
    obtain ⟨k, m, hk, hk', rfl, rfl, HE⟩ := hrel
    by_cases hlt : k < n
    · by_cases hlt' : k < n'
      · obtain ⟨b, o, rfl, hbl, hc⟩ := hcell (by omega)
        obtain ⟨b', o', rfl, hbl', hc'⟩ := hcell' (by omega)
        have hck := hc k hlt
        have hck' := hc' k hlt'
        clear hc hc' hcell hcell'
        rcases sgn_cases (f k) (f' k) with ⟨he, e⟩ | ⟨he, e⟩ | ⟨he, e⟩
        · have HS := Lib.hid ((cmpR_at hlt hlt' HE.out (by omega)).trans e)
          clear e
          go_wp2
          go_quiet (fail)
          go_wp2
          go_ret
          exact ⟨_, ret_int HS.out.symm, World.drewN_drewN _ _ _⟩
        · have HS := Lib.hid ((cmpR_at hlt hlt' HE.out (by omega)).trans e)
          have hn : ¬ f k < f' k := by omega
          clear e
          go_wp2
          go_quiet (fail)
          go_wp2
          go_quiet (fail)
          go_wp2
          go_ret
          exact ⟨_, ret_int HS.out.symm, by rw [World.drewN_drewN, World.drewN_drewN]⟩
        · have hn : ¬ f k < f' k := by omega
          have hn' : ¬ f' k < f k := by omega
          have HS := Lib.hid (show ∀ j, j < k + 1 → f j = f' j from fun j hj => by rcases Nat.lt_succ_iff_lt_or_eq.1 hj with h | rfl; exact HE.out j h; exact he)
          clear e he
          go_wp2
          go_quiet (fail)
          go_wp2
          go_quiet (fail)
          go_wp2
          go_roundw
          case rel => exact ⟨k + 1, _, by omega, by omega, by go_num, by first | rfl | (rw [World.drewN_drewN, World.drewN_drewN]), HS⟩
          case measure => simp [intOf]; omega
      · have e : k = n' := by omega
        subst e
        have HS := Lib.hid ((cmpR_end (f := f) (f' := f') (n := n) (n' := k) (fun t _ ht => HE.out t ht)).trans (sgn_gt (by omega)))
        have hn : ¬ (n : Int) < (k : Int) := by omega
        clear hcell hcell'
        go_wp2
        go_ret
        exact ⟨m, ret_int HS.out.symm, rfl⟩
    · have e : k = n := by omega
      subst e
      clear hcell hcell'
      by_cases hlt' : k < n'
      · have HS := Lib.hid ((cmpR_end (f := f) (f' := f') (n := k) (n' := n') (fun t ht _ => HE.out t ht)).trans (sgn_lt (by omega)))
        go_wp2
        go_ret
        exact ⟨m, ret_int HS.out.symm, rfl⟩
      · have e : k = n' := by omega
        subst e
        have HS := Lib.hid ((cmpR_end (f := f) (f' := f') (n := k) (n' := k) (fun t ht _ => HE.out t ht)).trans (sgn_eq _))
        go_wp2
        go_ret
        exact ⟨m, ret_int HS.out.symm, rfl⟩
theorem lib_isNaN (a : Int) (w : World) : Calls Tryd.prog 134 #[.int .i64 a] w fun e w' => e = .returned (.bool false) ∧ w = w' := by
  have h : (a != a) = false := by simp
  go_enter Tryd.func134, Tryd.ntmps134
  go_wp2
  go_ret
  exact ⟨rfl, rfl⟩
theorem lib_compare (a b : Int) (w : World) : Calls Tryd.prog 108 #[.int .i64 a, .int .i64 b] w fun e w' => e = .returned (.int .i64 (sgnI a b)) ∧ w = w' := by
  rcases sgn_cases a b with ⟨h, e⟩ | ⟨h, e⟩ | ⟨h, e⟩
  · rw [e]
    clear e
    go_enter Tryd.func108, Tryd.ntmps108
    go_wp2_with (go_at_call 134; refine (lib_isNaN _ _).mono ?_; rintro e w' ⟨rfl, rfl⟩)
    go_ret
    exact ⟨rfl, rfl⟩
  · rw [e]
    have h' : ¬ a < b := by omega
    clear e
    go_enter Tryd.func108, Tryd.ntmps108
    go_wp2_with (go_at_call 134; refine (lib_isNaN _ _).mono ?_; rintro e w' ⟨rfl, rfl⟩)
    go_ret
    exact ⟨rfl, rfl⟩
  · rw [e]
    have h' : ¬ a < b := by omega
    have h2 : ¬ b < a := by omega
    clear e h
    go_enter Tryd.func108, Tryd.ntmps108
    go_wp2_with (go_at_call 134; refine (lib_isNaN _ _).mono ?_; rintro e w' ⟨rfl, rfl⟩)
    go_ret
    exact ⟨rfl, rfl⟩
theorem lib_compareRows (w : World) (A A' : Option Addr) (n n' c c' : Nat) (f f' : Nat → Int) (hr : Row .i64 w A n c f) (hr' : Row .i64 w A' n' c' f') :
    Calls Tryd.prog 109 #[.slice A n c, .slice A' n' c'] w (Drew (.int .i64 (cmpR n f n' f')) w) := by
  obtain ⟨hnc, hcm, _, hcell⟩ := hr
  obtain ⟨hnc', hcm', _, hcell'⟩ := hr'
  unfold maxLen at hcm hcm'
  go_enter Tryd.func109, Tryd.ntmps109
  go_wp2
  go_loopw [11] (fun i wr => ∃ k m : Nat, k ≤ n ∧ k ≤ n' ∧ i = .int .i64 k ∧ wr = w.drewN m ∧ Hid (∀ j, j < k → f j = f' j)) (fun i _ => n - (intOf i).toNat)
  case atStart => exact ⟨0, 0, Nat.zero_le _, Nat.zero_le _, rfl, rfl, Lib.hid (fun j hj => absurd hj (Nat.not_lt_zero _))⟩
  case round =>
    obtain ⟨k, m, hk, hk', rfl, rfl, HE⟩ := hrel
    by_cases hlt : k < n
    · by_cases hlt' : k < n'
      · obtain ⟨b, o, rfl, hbl, hc⟩ := hcell (by omega)
        obtain ⟨b', o', rfl, hbl', hc'⟩ := hcell' (by omega)
        have hck := hc k hlt
        have hck' := hc' k hlt'
        have hlt2 : ¬ (n' : Int) ≤ (k : Int) := by omega
        clear hc hc' hcell hcell'
        obtain ⟨v, hvv⟩ : ∃ v, sgnI (f k) (f' k) = v := ⟨_, rfl⟩
        have HC := Lib.hid (fun w => hvv ▸ lib_compare (f k) (f' k) w)
        by_cases h0 : v = 0
        · have he : f k = f' k := by
            rcases sgn_cases (f k) (f' k) with ⟨-, e⟩ | ⟨-, e⟩ | ⟨e, -⟩
            · omega
            · omega
            · exact e
          have HS := Lib.hid (show ∀ j, j < k + 1 → f j = f' j from fun j hj => by rcases Nat.lt_succ_iff_lt_or_eq.1 hj with h | rfl; exact HE.out j h; exact he)
          subst h0
          clear he hvv
          go_wp2_with (go_at_call 108; refine (HC.out _).mono ?_; rintro e w' ⟨rfl, rfl⟩)
          go_roundw
          case rel => exact ⟨k + 1, _, by omega, by omega, by go_num, rfl, HS⟩
          case measure => simp [intOf]; omega
        · have HS := Lib.hid ((cmpR_at hlt hlt' HE.out (fun e => h0 (by rw [← hvv, e]; exact sgn_eq _))).trans hvv)
          have hb : (v != 0) = true := bne_iff_ne.2 h0
          clear hvv h0
          go_wp2_with (go_at_call 108; refine (HC.out _).mono ?_; rintro e w' ⟨rfl, rfl⟩)
          go_ret
          exact ⟨_, ret_int HS.out.symm, rfl⟩
      · have e : k = n' := by omega
        subst e
        have HS := Lib.hid ((cmpR_end (f := f) (f' := f') (n := n) (n' := k) (fun t _ ht => HE.out t ht)).trans (sgn_gt (by omega)))
        obtain ⟨b, o, rfl, hbl, hc⟩ := hcell (by omega)
        have hck := hc k hlt
        clear hcell hcell' hc
        go_wp2
        go_ret
        exact ⟨m, ret_int HS.out.symm, rfl⟩
    · have e : k = n := by omega
      subst e
      clear hcell hcell'
      by_cases hlt' : k < n'
      · have HS := Lib.hid ((cmpR_end (f := f) (f' := f') (n := k) (n' := n') (fun t ht _ => HE.out t ht)).trans (sgn_lt (by omega)))
        go_wp2
        go_ret
        exact ⟨m, ret_int HS.out.symm, rfl⟩
      · have e : k = n' := by omega
        subst e
        have HS := Lib.hid ((cmpR_end (f := f) (f' := f') (n := k) (n' := k) (fun t ht _ => HE.out t ht)).trans (sgn_eq _))
        go_wp2
        go_ret
        exact ⟨m, ret_int HS.out.symm, rfl⟩
end Go.Proofs.YtdofeonkgaceeaaDoor.Base
