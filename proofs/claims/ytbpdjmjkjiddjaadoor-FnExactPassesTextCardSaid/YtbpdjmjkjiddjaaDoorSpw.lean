/-
  SplitWords: the parts between blanks, by bytes and by runes.
-/
import Derived.Test.YtbpdjmjkjiddjaaDoorBase
import Derived.PlainAid
import Derived.Lib.FieldsP
import Derived.Laws.RangeAny
namespace Go.Proofs.YtbpdjmjkjiddjaaDoor.Base
open Go Go.RowKit
open Go.PlainAid (bt get_bt bt_nonneg bt_le)
set_option linter.unusedVariables false

/-- the parts between blanks among the first i bytes: those that are closed, and where the open one begins -/
def prt (s : ByteArray) : Nat → List (Nat × Nat) × Nat
  | 0 => ([], 0)
  | i + 1 => if bt s i = 32 then ((prt s i).1 ++ [((prt s i).2, i)], i + 1) else prt s i
theorem prt_blank {s : ByteArray} {i : Nat} (h : bt s i = 32) : prt s (i + 1) = ((prt s i).1 ++ [((prt s i).2, i)], i + 1) := if_pos h
theorem prt_same {s : ByteArray} {i : Nat} (h : bt s i ≠ 32) : prt s (i + 1) = prt s i := if_neg h
theorem prt_le (s : ByteArray) : ∀ i, (prt s i).2 ≤ i ∧ (prt s i).1.length ≤ i ∧ ∀ x ∈ (prt s i).1, x.1 ≤ x.2 ∧ x.2 ≤ i
  | 0 => ⟨Nat.le_refl _, Nat.le_refl _, fun x hx => by cases hx⟩
  | i + 1 => by
    obtain ⟨h1, h2, h3⟩ := prt_le s i
    by_cases h : bt s i = 32
    · rw [prt_blank h]
      refine ⟨Nat.le_refl _, by simp; omega, fun x hx => ?_⟩
      rcases List.mem_append.1 hx with hx | hx
      · have := h3 x hx; exact ⟨this.1, by omega⟩
      · obtain rfl := List.mem_singleton.1 hx
        exact ⟨h1, by show i ≤ i + 1; omega⟩
    · rw [prt_same h]
      exact ⟨by omega, by omega, fun x hx => by have := h3 x hx; exact ⟨this.1, by omega⟩⟩
theorem prt_far {s : ByteArray} {i : Nat} : ∀ {k : Nat}, (∀ j, i ≤ j → j < i + k → bt s j ≠ 32) → prt s (i + k) = prt s i
  | 0, _ => rfl
  | k + 1, h => by
    show prt s ((i + k) + 1) = _
    rw [prt_same (h (i + k) (by omega) (by omega)), prt_far (fun j h1 h2 => h j h1 (by omega))]
def neB (x : Nat × Nat) : Bool := decide (x.1 < x.2)
/-- all parts -/
def prtAll (s : ByteArray) : List (Nat × Nat) := (prt s s.size).1 ++ [((prt s s.size).2, s.size)]
/-- the words -/
def wrds (s : ByteArray) : List ByteArray := ((prtAll s).filter neB).map fun x => s.extract x.1 x.2
theorem decode_cont (s : ByteArray) (pos : Nat) (h : pos < s.size) : pos + (Utf8.decode s pos).2 ≤ s.size ∧ ∀ j, pos < j → j < pos + (Utf8.decode s pos).2 → bt s j ≠ 32 := by
  have hb : ∀ k, pos + k < s.size → bt s (pos + k) = ((s.get! (pos + k)).toNat : Int) := fun k hk => by
    rw [← get_bt s (pos + k) hk]
    simp [ByteArray.get!, hk]
    rfl
  have key : ∀ c : Nat, (decide (pos + c < s.size) && (s.get! (pos + c)).toNat / 64 == 2) = true → pos + c < s.size ∧ bt s (pos + c) ≠ 32 := fun c hc => by
    simp only [Bool.and_eq_true, decide_eq_true_eq, beq_iff_eq] at hc
    refine ⟨hc.1, ?_⟩
    rw [hb c hc.1]
    omega
  simp only [Utf8.decode]
  generalize hc1 : (decide (pos + 1 < s.size) && (s.get! (pos + 1)).toNat / 64 == 2) = c1
  generalize hc2 : (decide (pos + 2 < s.size) && (s.get! (pos + 2)).toNat / 64 == 2) = c2
  generalize hc3 : (decide (pos + 3 < s.size) && (s.get! (pos + 3)).toNat / 64 == 2) = c3
  have one : pos + 1 ≤ s.size ∧ ∀ j, pos < j → j < pos + 1 → bt s j ≠ 32 := ⟨h, fun j h1 h2 => by omega⟩
  split
  · exact one
  · split
    · rename_i hh
      simp only [Bool.and_eq_true] at hh
      obtain ⟨k1, k1'⟩ := key 1 (by rw [hc1]; exact hh.2)
      split
      · exact ⟨by show pos + 2 ≤ _; omega, fun j h1 h2 => by
          have : j < pos + 2 := h2
          obtain rfl : j = pos + 1 := by omega
          exact k1'⟩
      · exact one
    · split
      · rename_i hh
        simp only [Bool.and_eq_true] at hh
        obtain ⟨k1, k1'⟩ := key 1 (by rw [hc1]; exact hh.1.2)
        obtain ⟨k2, k2'⟩ := key 2 (by rw [hc2]; exact hh.2)
        split
        · exact ⟨by show pos + 3 ≤ _; omega, fun j h1 h2 => by
            have : j < pos + 3 := h2
            rcases (show j = pos + 1 ∨ j = pos + 2 by omega) with rfl | rfl
            · exact k1'
            · exact k2'⟩
        · exact one
      · split
        · rename_i hh
          simp only [Bool.and_eq_true] at hh
          obtain ⟨k1, k1'⟩ := key 1 (by rw [hc1]; exact hh.1.1.2)
          obtain ⟨k2, k2'⟩ := key 2 (by rw [hc2]; exact hh.1.2)
          obtain ⟨k3, k3'⟩ := key 3 (by rw [hc3]; exact hh.2)
          split
          · exact ⟨by show pos + 4 ≤ _; omega, fun j h1 h2 => by
              have : j < pos + 4 := h2
              rcases (show j = pos + 1 ∨ j = pos + 2 ∨ j = pos + 3 by omega) with rfl | rfl | rfl
              · exact k1'
              · exact k2'
              · exact k3'⟩
          · exact one
        · exact one
def blankR (r : Nat) : Bool := r == 32
/-- the state of the pass over the runes -/
def stO (s : ByteArray) (i : Nat) : Option Nat := if (prt s i).2 < i then some (prt s i).2 else none
theorem spans_prt (s : ByteArray) : ∀ (f pos : Nat), s.size ≤ pos + f → pos ≤ s.size →
    Lib.spansFromP blankR s f pos (stO s pos) ((prt s pos).1.filter neB) = ((prt s s.size).1.filter neB, stO s s.size)
  | 0, pos, h, hp => by
    obtain rfl : pos = s.size := by omega
    rfl
  | f + 1, pos, h, hp => by
    by_cases hlt : pos < s.size
    · have hbt := get_bt s pos hlt
      obtain ⟨a1, -, -⟩ := prt_le s pos
      unfold Lib.spansFromP
      rw [if_pos hlt]
      by_cases hsp : bt s pos = 32
      · have h32 : (s[pos]'hlt).toNat = 32 := by omega
        have hd := decode_ascii s pos hlt (by omega)
        rw [h32] at hd
        have ih := spans_prt s f (pos + 1) (by omega) (by omega)
        have e1 : stO s (pos + 1) = none := by unfold stO; rw [prt_blank hsp]; exact if_neg (Nat.lt_irrefl _)
        rw [e1, prt_blank hsp] at ih
        rw [hd]
        simp only [blankR, beq_self_eq_true, if_true]
        by_cases hop : (prt s pos).2 < pos
        · have e2 : stO s pos = some (prt s pos).2 := if_pos hop
          have e3 : ((prt s pos).1 ++ [((prt s pos).2, pos)]).filter neB = (prt s pos).1.filter neB ++ [((prt s pos).2, pos)] := by
            rw [List.filter_append]
            simp [neB, hop]
          simp only [e2]
          rw [e3] at ih
          exact ih
        · have e2 : stO s pos = none := if_neg hop
          have e3 : ((prt s pos).1 ++ [((prt s pos).2, pos)]).filter neB = (prt s pos).1.filter neB := by
            rw [List.filter_append]
            simp [neB, hop]
          simp only [e2]
          rw [e3] at ih
          exact ih
      · obtain ⟨c1, c2⟩ := decode_cont s pos hlt
        have hw : 1 ≤ (Utf8.decode s pos).2 ∧ blankR (Utf8.decode s pos).1 = false := by
          by_cases ha : (s[pos]'hlt).toNat < 128
          · rw [decode_ascii s pos hlt ha]
            exact ⟨Nat.le_refl _, beq_eq_false_iff_ne.2 (by show (s[pos]'hlt).toNat ≠ 32; omega)⟩
          · have hh := decode_high s pos hlt (by omega)
            exact ⟨hh.2, beq_eq_false_iff_ne.2 (by omega)⟩
        obtain ⟨w1, w2⟩ := hw
        generalize Utf8.decode s pos = d at *
        have ih := spans_prt s f (pos + d.2) (by omega) c1
        have e4 : prt s (pos + d.2) = prt s pos := prt_far (fun j h1 h2 => by
          rcases Nat.eq_or_lt_of_le h1 with e | e
          · rw [← e]; exact hsp
          · exact c2 j e h2)
        have e5 : stO s (pos + d.2) = some (prt s pos).2 := by unfold stO; rw [e4]; exact if_pos (by omega)
        rw [e5, e4] at ih
        simp only [w2, Bool.false_eq_true, if_false]
        by_cases hop : (prt s pos).2 < pos
        · have e2 : stO s pos = some (prt s pos).2 := if_pos hop
          simp only [e2]
          exact ih
        · have e2 : stO s pos = none := if_neg hop
          have e6 : (prt s pos).2 = pos := by omega
          simp only [e2]
          rw [e6] at ih
          exact ih
    · obtain rfl : pos = s.size := by omega
      rw [Lib.spansFromP_end _ _ _ _ _ _ hlt]
theorem fields_wrds (s : ByteArray) : Lib.goFieldsP blankR s = wrds s := by
  unfold Lib.goFieldsP wrds Lib.spansOfP
  have h := spans_prt s s.size 0 (by omega) (Nat.zero_le _)
  have e0 : stO s 0 = none := rfl
  rw [e0] at h
  have h' : Lib.spansFromP blankR s s.size 0 none [] = _ := h
  rw [h']
  unfold prtAll Lib.closeSpans
  rw [List.filter_append]
  unfold stO
  by_cases hop : (prt s s.size).2 < s.size
  · rw [if_pos hop]
    simp [neB, hop]
  · rw [if_neg hop]
    simp [neB, hop]
end Go.Proofs.YtbpdjmjkjiddjaaDoor.Base
