/-
  Edits as mathematics: which lists are valid, the panel behind them, the edits between two panels, those that lead back.
-/
import Derived.Test.YtgdmojkfpghmnaaSet
import Derived.Test.YtgdmojkfpghmnaaWls
namespace Go.Proofs.Ytgdmojkfpghmnaa.Base
open Go Go.RowKit
set_option linter.unusedVariables false
set_option linter.unusedSimpArgs false

/-- the i-th edit may stand behind those before it -/
def edAt (n : Nat) (f g : Nat → Int) (i : Nat) : Bool := decide ((0 ≤ g (i * 2) ∧ g (i * 2) < n ∧ (0 < i → g ((i - 1) * 2) < g (i * 2))) ∧ (0 ≤ g (i * 2 + 1) ∧ g (i * 2 + 1) ≤ 2) ∧ g (i * 2 + 1) ≠ f (g (i * 2)).toNat)
def edB (n : Nat) (f g : Nat → Int) (m : Nat) : Bool := (List.range m).all (edAt n f g)
def edV (W H : Int) (n : Nat) (f g : Nat → Int) (m : Nat) : Bool := validB W H n f && edB n f g m
theorem edB_iff {n m : Nat} {f g : Nat → Int} : edB n f g m = true ↔ ∀ i, i < m → edAt n f g i = true := by simp [edB]
theorem edB_no {n m i : Nat} {f g : Nat → Int} (hi : i < m) (h : edAt n f g i = false) : edB n f g m = false := by
  cases e : edB n f g m
  · rfl
  · rw [edB_iff.1 e i hi] at h; cases h
theorem ed_num {n m : Nat} {f g : Nat → Int} (h : edB n f g m = true) {i : Nat} (hi : i < m) : 0 ≤ g (i * 2) ∧ g (i * 2) < n := by
  have := of_decide_eq_true (edB_iff.1 h i hi); exact ⟨this.1.1, this.1.2.1⟩
theorem ed_kind {n m : Nat} {f g : Nat → Int} (h : edB n f g m = true) {i : Nat} (hi : i < m) : 0 ≤ g (i * 2 + 1) ∧ g (i * 2 + 1) ≤ 2 ∧ g (i * 2 + 1) ≠ f (g (i * 2)).toNat := by
  have := of_decide_eq_true (edB_iff.1 h i hi); exact ⟨this.2.1.1, this.2.1.2, this.2.2⟩
theorem ed_lt {n m : Nat} {f g : Nat → Int} (h : edB n f g m = true) {i : Nat} : ∀ {j : Nat}, i < j → j < m → g (i * 2) < g (j * 2)
  | 0, h1, _ => absurd h1 (Nat.not_lt_zero _)
  | j + 1, h1, h2 => by
    have h3 : g (j * 2) < g ((j + 1) * 2) := (of_decide_eq_true (edB_iff.1 h (j + 1) h2)).1.2.2 (by omega)
    rcases Nat.lt_succ_iff_lt_or_eq.1 h1 with h4 | rfl
    · have := ed_lt h h4 (by omega : j < m)
      omega
    · exact h3

/-- the breaks behind the first m edits -/
def apF (f g : Nat → Int) : Nat → Nat → Int
  | 0 => f
  | m + 1 => putF (apF f g m) (g (m * 2)).toNat (g (m * 2 + 1))
theorem ap_other {f g : Nat → Int} {k : Nat} : ∀ {m : Nat}, (∀ i, i < m → (g (i * 2)).toNat ≠ k) → apF f g m k = f k
  | 0, _ => rfl
  | m + 1, h => by
    show (if k = (g (m * 2)).toNat then g (m * 2 + 1) else apF f g m k) = f k
    rw [if_neg (fun e => h m (by omega) e.symm)]
    exact ap_other fun i hi => h i (by omega)
theorem ap_at {n : Nat} {f g : Nat → Int} : ∀ {m : Nat}, edB n f g m = true → ∀ {i : Nat}, i < m → apF f g m (g (i * 2)).toNat = g (i * 2 + 1)
  | 0, _, i, hi => absurd hi (Nat.not_lt_zero _)
  | m + 1, h, i, hi => by
    show (if (g (i * 2)).toNat = (g (m * 2)).toNat then g (m * 2 + 1) else apF f g m (g (i * 2)).toNat) = _
    rcases Nat.lt_succ_iff_lt_or_eq.1 hi with h4 | rfl
    · have h1 := ed_lt h h4 (by omega : m < m + 1)
      have h2 := ed_num h hi
      have h3 := ed_num h (by omega : m < m + 1)
      rw [if_neg (by omega)]
      exact ap_at (edB_iff.2 fun j hj => edB_iff.1 h j (by omega)) h4
    · rw [if_pos rfl]
/-- the edits between two panels, up to the point k -/
def btL (f f' : Nat → Int) : Nat → List Int
  | 0 => []
  | k + 1 => btL f f' k ++ (if f k = f' k then [] else [(k : Int), f' k])
/-- at the numbers of a list, the breaks of a panel -/
def unL (g q : Nat → Int) : Nat → List Int
  | 0 => []
  | m + 1 => unL g q m ++ [g (m * 2), q (g (m * 2)).toNat]
theorem btL_same {f f' : Nat → Int} {k : Nat} (h : f k = f' k) : btL f f' (k + 1) = btL f f' k := by
  show btL f f' k ++ (if f k = f' k then [] else _) = _
  rw [if_pos h, List.append_nil]
theorem btL_other {f f' : Nat → Int} {k : Nat} (h : f k ≠ f' k) : btL f f' (k + 1) = btL f f' k ++ [(k : Int), f' k] := by
  show btL f f' k ++ (if f k = f' k then [] else _) = _
  rw [if_neg h]
theorem unL_len (g q : Nat → Int) : ∀ m, (unL g q m).length = m * 2
  | 0 => rfl
  | m + 1 => by show (unL g q m ++ _).length = _; rw [List.length_append, unL_len g q m]; simp; omega
theorem unL_at (g q : Nat → Int) {i : Nat} : ∀ {m : Nat}, i < m → (unL g q m).getD (i * 2) 0 = g (i * 2) ∧ (unL g q m).getD (i * 2 + 1) 0 = q (g (i * 2)).toNat
  | 0, h => absurd h (Nat.not_lt_zero _)
  | m + 1, h => by
    have hl := unL_len g q m
    show (unL g q m ++ _).getD _ _ = _ ∧ (unL g q m ++ _).getD _ _ = _
    rcases Nat.lt_succ_iff_lt_or_eq.1 h with h4 | rfl
    · have ih := unL_at g q h4
      simp only [List.getD_eq_getElem?_getD] at ih ⊢
      rw [List.getElem?_append_left (by omega), List.getElem?_append_left (by omega)]
      exact ih
    · simp only [List.getD_eq_getElem?_getD]
      rw [List.getElem?_append_right (by omega), List.getElem?_append_right (by omega), hl]
      simp
theorem btL_is {q1 q2 g : Nat → Int} {m n : Nat} (hb : ∀ i, i < m → 0 ≤ g (i * 2) ∧ g (i * 2) < n) (hlt : ∀ i j, i < j → j < m → g (i * 2) < g (j * 2)) (hne : ∀ i, i < m → q1 (g (i * 2)).toNat ≠ q2 (g (i * 2)).toNat)
    (heq : ∀ k : Nat, k < n → (∀ i, i < m → g (i * 2) ≠ k) → q1 k = q2 k) : btL q1 q2 n = unL g q2 m := by
  have key : ∀ k, k ≤ n → ∃ j, j ≤ m ∧ (∀ i, i < j → g (i * 2) < k) ∧ (∀ i, j ≤ i → i < m → (k : Int) ≤ g (i * 2)) ∧ btL q1 q2 k = unL g q2 j := by
    intro k
    induction k with
    | zero => intro _; exact ⟨0, Nat.zero_le _, fun i hi => absurd hi (Nat.not_lt_zero _), fun i _ hi => by have := (hb i hi).1; omega, rfl⟩
    | succ k ih =>
      intro hk
      obtain ⟨j, hj, h1, h2, h3⟩ := ih (by omega)
      by_cases hc : j < m ∧ g (j * 2) = k
      · obtain ⟨hjm, hgk⟩ := hc
        refine ⟨j + 1, hjm, fun i hi => ?_, fun i hi him => ?_, ?_⟩
        · rcases Nat.lt_succ_iff_lt_or_eq.1 hi with h4 | rfl
          · have := h1 i h4; omega
          · omega
        · have := hlt j i (by omega) him; omega
        · have hne' := hne j hjm
          have hn : (g (j * 2)).toNat = k := by omega
          rw [hn] at hne'
          rw [btL_other hne', h3]
          show _ = unL g q2 j ++ [g (j * 2), q2 (g (j * 2)).toNat]
          rw [hn, hgk]
      · have hno : ∀ i, i < m → g (i * 2) ≠ k := fun i hi e => by
          by_cases hij : i < j
          · have := h1 i hij; omega
          · by_cases hij2 : i = j
            · subst hij2; exact hc ⟨hi, e⟩
            · have h5 := hlt j i (by omega) hi
              have h6 := h2 j (Nat.le_refl _) (by omega)
              omega
        refine ⟨j, hj, fun i hi => ?_, fun i hi him => ?_, ?_⟩
        · have := h1 i hi; omega
        · have := h2 i hi him
          have := hno i him
          omega
        · rw [btL_same (heq k (by omega) hno), h3]
  obtain ⟨j, hj, h1, h2, h3⟩ := key n (Nat.le_refl _)
  have : j = m := by
    rcases Nat.lt_or_ge j m with h | h
    · have h5 := h2 j (Nat.le_refl _) h
      have h6 := (hb j h).2
      omega
    · omega
  rw [h3, this]
/-- the edits that lead back -/
theorem btL_back {n m : Nat} {f g : Nat → Int} (h : edB n f g m = true) : btL (apF f g m) f n = unL g f m :=
  btL_is (fun i hi => ed_num h hi) (fun i j h1 h2 => ed_lt h h1 h2) (fun i hi => by rw [ap_at h hi]; exact (ed_kind h hi).2.2)
    (fun k hk hno => ap_other fun i hi e => hno i hi (by have := (ed_num h hi).1; omega))
/-- the edits that lead there -/
theorem btL_there {n m : Nat} {f g : Nat → Int} (h : edB n f g m = true) : btL f (apF f g m) n = unL g (apF f g m) m :=
  btL_is (fun i hi => ed_num h hi) (fun i j h1 h2 => ed_lt h h1 h2) (fun i hi => by rw [ap_at h hi]; exact fun e => (ed_kind h hi).2.2 e.symm)
    (fun k hk hno => (ap_other fun i hi e => hno i hi (by have := (ed_num h hi).1; omega)).symm)
theorem btL_len_le (f f' : Nat → Int) : ∀ k, (btL f f' k).length ≤ k * 2 ∧ (btL f f' k).length % 2 = 0
  | 0 => ⟨Nat.le_refl _, rfl⟩
  | k + 1 => by
    obtain ⟨h1, h2⟩ := btL_len_le f f' k
    by_cases h : f k = f' k
    · rw [btL_same h]; exact ⟨by omega, h2⟩
    · rw [btL_other h, List.length_append]
      simp only [List.length_cons, List.length_nil]
      omega
theorem btL_mem {f f' : Nat → Int} {P : Int → Prop} : ∀ {k : Nat}, (∀ j, j < k → P (j : Int) ∧ P (f' j)) → ∀ z, z ∈ btL f f' k → P z
  | 0, _, z, hz => by cases hz
  | k + 1, h, z, hz => by
    by_cases e : f k = f' k
    · rw [btL_same e] at hz
      exact btL_mem (fun j hj => h j (by omega)) z hz
    · rw [btL_other e] at hz
      rcases List.mem_append.1 hz with h1 | h1
      · exact btL_mem (fun j hj => h j (by omega)) z h1
      · simp only [List.mem_cons, List.not_mem_nil, or_false] at h1
        rcases h1 with rfl | rfl
        · exact (h k (by omega)).1
        · exact (h k (by omega)).2
theorem unL_mem {g q : Nat → Int} {P : Int → Prop} : ∀ {k : Nat}, (∀ j, j < k → P (g (j * 2)) ∧ P (q (g (j * 2)).toNat)) → ∀ z, z ∈ unL g q k → P z
  | 0, _, z, hz => by cases hz
  | k + 1, h, z, hz => by
    rcases List.mem_append.1 (show z ∈ unL g q k ++ _ from hz) with h1 | h1
    · exact unL_mem (fun j hj => h j (by omega)) z h1
    · simp only [List.mem_cons, List.not_mem_nil, or_false] at h1
      rcases h1 with rfl | rfl
      · exact (h k (by omega)).1
      · exact (h k (by omega)).2
/-- kinds stay kinds -/
theorem ap_kinds {n m : Nat} {f g : Nat → Int} (hk : kindsB n f = true) (h : edB n f g m = true) : kindsB n (apF f g m) = true :=
  kinds_iff.2 fun j hj => by
    by_cases hno : ∃ i, i < m ∧ (g (i * 2)).toNat = j
    · obtain ⟨i, hi, rfl⟩ := hno
      rw [ap_at h hi]
      have := ed_kind h hi
      exact ⟨this.1, this.2.1⟩
    · rw [ap_other (fun i hi e => hno ⟨i, hi, e⟩)]
      exact kinds_iff.1 hk j hj

/-- a list of pairs of integers that the call owns, for the laws -/
theorem ownS_two {w : World} {base base' : Nat} {A : Option Addr} {n c : Nat} {T : TypeId} {l : List Int} (h : w.ownsRow base T 2 (.slice A n c) n (ivs l)) (hw : ∀ z, z ∈ l → (Lit.int .i64 z).wf = true) (hb : base' ≤ base) (hn : n ≤ maxLen) : OwnS 2 w base' A n c (fun i => l.getD i 0) := by
  have hl : l.length = n * 2 := by have := h.1; simpa [ivs] using this
  have hg : ∀ i, i < n * 2 → (ivs l)[i]? = some (.int .i64 (l.getD i 0)) := fun i hi => by
    have : i < l.length := by omega
    simp [ivs, List.getD, this]
  have hwf : ∀ i, i < n * 2 → (Lit.int .i64 (l.getD i 0)).wf = true := fun i hi => by
    have hi' : i < l.length := by omega
    have e : l.getD i 0 = l[i] := by simp [List.getD, hi']
    rw [e]
    exact hw _ (List.getElem_mem hi')
  rcases h.2 with ⟨e, rfl⟩ | ⟨b, cap, cur, e, hb', hgb, hnc, hcm, hcs, ht⟩
  · cases e
    exact ⟨Nat.le_refl _, Nat.zero_le _, fun i hi => by omega, fun h => absurd h (by omega)⟩
  · cases e
    refine ⟨hnc, hcm, hwf, fun hn' => ⟨b, 0, rfl, by omega, (Array.getElem?_eq_some_iff.1 hgb).1, fun i hi => ⟨?_, ?_⟩⟩⟩
    · rw [Nat.zero_add, h.cellAt i hi]
      exact hg i hi
    · rw [Nat.zero_add]
      exact h.frozenAt i
end Go.Proofs.Ytgdmojkfpghmnaa.Base
