/-
  IsName, spec's and the program's.
-/
import Derived.Test.YtdofeonkgaceeacDoorBase
import Derived.PlainAid
import Derived.Lib.Strings
namespace Go.Proofs.YtdofeonkgaceeacDoor.Base
open Go.RowKit
open Go.PlainAid (bt get_bt bt_nonneg bt_le)
set_option linter.unusedVariables false

def smallB (c : Int) : Bool := decide (97 ≤ c ∧ c ≤ 122)
def digB (c : Int) : Bool := decide (48 ≤ c ∧ c ≤ 57)
def chB (c : Int) : Bool := smallB c || digB c || decide (c = 45)
def nameB (s : ByteArray) : Bool := decide (1 ≤ s.size ∧ s.size ≤ 12) && smallB (bt s 0) && (List.range s.size).all fun i => chB (bt s i)
theorem name_len {s : ByteArray} (h : ¬ (1 ≤ s.size ∧ s.size ≤ 12)) : nameB s = false := by simp [nameB, h]
theorem name_first {s : ByteArray} (h : smallB (bt s 0) = false) : nameB s = false := by simp [nameB, h]
theorem name_ch {s : ByteArray} {k : Nat} (hk : k < s.size) (h : chB (bt s k) = false) : nameB s = false := by
  cases e : nameB s
  · rfl
  · simp [nameB] at e
    rw [e.2 k hk] at h
    exact absurd h (by simp)
theorem name_yes {s : ByteArray} (h : 1 ≤ s.size ∧ s.size ≤ 12) (h1 : smallB (bt s 0) = true) (h2 : ∀ i, i < s.size → chB (bt s i) = true) : nameB s = true := by
  simp only [nameB, decide_eq_true h, h1, Bool.true_and, List.all_eq_true, List.mem_range]
  exact h2
theorem size_empty {s : ByteArray} (h : s.size = 0) : s.toList.isEmpty = true := by
  rw [Lib.toList_data, List.isEmpty_iff_length_eq_zero, Array.length_toList]
  exact h
theorem size_full {s : ByteArray} (h : s.size ≠ 0) : s.toList.isEmpty = false := by
  rw [Lib.toList_data, List.isEmpty_eq_false_iff]
  intro e
  have h1 := congrArg List.length e
  rw [Array.length_toList] at h1
  exact h h1
theorem small_high {c : Int} (h : 128 ≤ c) : chB c = false := by
  have h1 : smallB c = false := decide_eq_false (by omega)
  have h2 : digB c = false := decide_eq_false (by omega)
  have h3 : decide (c = 45) = false := decide_eq_false (by omega)
  simp [chB, h1, h2, h3]

end Go.Proofs.YtdofeonkgaceeacDoor.Base
