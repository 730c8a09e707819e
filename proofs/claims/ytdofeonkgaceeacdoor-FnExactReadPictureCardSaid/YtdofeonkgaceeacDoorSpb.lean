/-
  The parts of a text between bytes of one kind: the specification's split, for any byte.
-/
import Derived.Test.YtdofeonkgaceeacDoorSpt
import Derived.PlainAid
import Derived.WalkKit
import Derived.OwnWalk
import Derived.Laws.AppendOwn
import Derived.Deep.AppendLies
import Derived.Deep.DeepMust
import Derived.Lib.Strings
namespace Go.Proofs.YtdofeonkgaceeacDoor.Base
open Go Go.RowKit
open Go.PlainAid (bt get_bt bt_nonneg bt_le)
set_option linter.unusedVariables false
set_option linter.unusedSimpArgs false

/-- the parts ahead of place i (first, behind the last byte), and where the next one begins -/
def prtC (c : Int) (s : ByteArray) : Nat → List (Nat × Nat) × Nat
  | 0 => ([], 0)
  | i + 1 => if bt s i = c then ((prtC c s i).1 ++ [((prtC c s i).2, i)], i + 1) else prtC c s i
theorem prtC_hit {c : Int} {s : ByteArray} {i : Nat} (h : bt s i = c) : prtC c s (i + 1) = ((prtC c s i).1 ++ [((prtC c s i).2, i)], i + 1) := if_pos h
theorem prtC_same {c : Int} {s : ByteArray} {i : Nat} (h : bt s i ≠ c) : prtC c s (i + 1) = prtC c s i := if_neg h
theorem prtC_le (c : Int) (s : ByteArray) : ∀ i, (prtC c s i).2 ≤ i ∧ (prtC c s i).1.length ≤ i
  | 0 => ⟨Nat.le_refl _, Nat.le_refl _⟩
  | i + 1 => by
    obtain ⟨h1, h2⟩ := prtC_le c s i
    by_cases h : bt s i = c
    · rw [prtC_hit h]
      exact ⟨Nat.le_refl _, by simp; omega⟩
    · rw [prtC_same h]
      exact ⟨by omega, by omega⟩
theorem prtC_far {c : Int} {s : ByteArray} {i : Nat} : ∀ {k : Nat}, (∀ j, i ≤ j → j < i + k → bt s j ≠ c) → prtC c s (i + k) = prtC c s i
  | 0, _ => rfl
  | k + 1, h => by
    show prtC c s ((i + k) + 1) = _
    rw [prtC_same (h _ (by omega) (by omega)), prtC_far (fun j h1 h2 => h j h1 (by omega))]
theorem prtC_far' {c : Int} {s : ByteArray} {i n : Nat} (hin : i ≤ n) (h : ∀ j, i ≤ j → j < n → bt s j ≠ c) : prtC c s n = prtC c s i := by
  obtain ⟨k, rfl⟩ : ∃ k, n = i + k := ⟨n - i, by omega⟩
  exact prtC_far h
theorem prtC_mono {c : Int} {s : ByteArray} {i : Nat} : ∀ {k : Nat}, (prtC c s i).1.length ≤ (prtC c s (i + k)).1.length
  | 0 => Nat.le_refl _
  | k + 1 => by
    have h := prtC_mono (c := c) (s := s) (i := i) (k := k)
    show _ ≤ (prtC c s ((i + k) + 1)).1.length
    by_cases h' : bt s (i + k) = c
    · rw [prtC_hit h']; simp; omega
    · rw [prtC_same h']; exact h
/-- parts as values -/
def pcsC (s : ByteArray) (L : List (Nat × Nat)) : List Value := L.map fun x => .string (s.extract x.1 x.2)
theorem pcsC_snoc (s : ByteArray) (L : List (Nat × Nat)) (a b : Nat) : pcsC s (L ++ [(a, b)]) = pcsC s L ++ [.string (s.extract a b)] := by simp [pcsC]
/-- a list of parts, made from block base on -/
def PartsOutC (s : ByteArray) (L : List (Nat × Nat)) (base : Nat) (w : World) (e : Ending) (w' : World) : Prop :=
  ∃ v, e = .returned v ∧ w'.ownsRow base 9 1 v L.length (pcsC s L) ∧ Below base w w'
/-- all parts -/
def prtAllC (c : Int) (s : ByteArray) : List (Nat × Nat) := (prtC c s s.size).1 ++ [((prtC c s s.size).2, s.size)]
/-- none -/
theorem prtAllC_0 {c : Int} {s : ByteArray} (h : ∀ j, j < s.size → bt s j ≠ c) : prtAllC c s = [(0, s.size)] := by
  have e := prtC_far' (c := c) (s := s) (i := 0) (n := s.size) (Nat.zero_le _) (fun j _ hj => h j hj)
  unfold prtAllC
  rw [e]
  rfl
/-- one -/
theorem prtAllC_1 {c : Int} {s : ByteArray} {k : Nat} (hk : k < s.size) (hc : bt s k = c) (h1 : ∀ j, j < k → bt s j ≠ c) (h2 : ∀ j, k < j → j < s.size → bt s j ≠ c) : prtAllC c s = [(0, k), (k + 1, s.size)] := by
  have e0 := prtC_far' (c := c) (s := s) (i := 0) (n := k) (Nat.zero_le _) (fun j _ hj => h1 j hj)
  have e1 := prtC_far' (c := c) (s := s) (i := k + 1) (n := s.size) (by omega) (fun j hj hj2 => h2 j (by omega) hj2)
  unfold prtAllC
  rw [e1, prtC_hit hc, e0]
  rfl
/-- two or more -/
theorem prtAllC_2 {c : Int} {s : ByteArray} {k m : Nat} (hkm : k < m) (hm : m < s.size) (hc : bt s k = c) (hc2 : bt s m = c) : 3 ≤ (prtAllC c s).length := by
  have l1 : 1 ≤ (prtC c s (k + 1)).1.length := by rw [prtC_hit hc]; simp
  have l2 := prtC_mono (c := c) (s := s) (i := k + 1) (k := m - (k + 1))
  rw [show k + 1 + (m - (k + 1)) = m by omega] at l2
  have l3 : (prtC c s m).1.length + 1 ≤ (prtC c s (m + 1)).1.length := by rw [prtC_hit hc2]; simp
  have l4 := prtC_mono (c := c) (s := s) (i := m + 1) (k := s.size - (m + 1))
  rw [show m + 1 + (s.size - (m + 1)) = s.size by omega] at l4
  unfold prtAllC
  simp
  omega
end Go.Proofs.YtdofeonkgaceeacDoor.Base
