/-
  Reading numerals: the model's contract.
-/
import Derived.Test.YtdofeonkgaceeacDoorRdm
import Derived.Test.YtdofeonkgaceeacDoorDcs
import Derived.Deep.Cut
import Derived.Deep.DeepCutAuto
namespace Go.Proofs.YtdofeonkgaceeacDoor.Base
open Go Go.RowKit
open Go.PlainAid (bt get_bt bt_nonneg bt_le)
set_option linter.unusedVariables false
set_option linter.unusedSimpArgs false

theorem eq_bytes {a b : ByteArray} (h : a = b) : (a.toList == b.toList) = true := by rw [h]; exact beq_self_eq_true _
theorem ne_bytes {a b : ByteArray} (h : ¬ a = b) : (a.toList == b.toList) = false := by
  rw [beq_eq_false_iff_ne]
  intro e
  rw [Lib.toList_data, Lib.toList_data] at e
  exact h (ByteArray.ext (Array.toList_inj.1 e))
def RDp (s : ByteArray) (w : World) (e : Ending) (w' : World) : Prop := ∃ (v : Int) (b : Bool), e = .returned (.tuple #[.int .i64 v, .bool b]) ∧ RDans s v b ∧ Below w.heap.size w w'
theorem list_at (t : ByteArray) {k : Nat} (h : k < t.size) : t.data.toList[k]? = some t[k] := by
  rw [List.getElem?_eq_getElem (by simpa using h)]
  rfl
theorem digit_at {t : ByteArray} {k : Nat} (h : k < t.size) (hd : digB (bt t k) = true) : Lib.digitVal t[k] = some (bt t k - 48).toNat := by
  have e := get_bt t k h
  have h2 := of_decide_eq_true hd
  unfold Lib.digitVal
  rw [if_pos ⟨by omega, by omega⟩]
  congr 1
  omega
theorem digit_no {t : ByteArray} {k m : Nat} (h : k < t.size) (hd : digB (bt t k) = false) : Lib.decFrom 0 t.data.toList ≠ some m := by
  intro e
  obtain ⟨d, hk⟩ := Lib.digit_of_decFrom _ _ _ e k _ (list_at t h)
  have e2 := get_bt t k h
  have h2 := of_decide_eq_false hd
  unfold Lib.digitVal at hk
  split at hk
  · omega
  · cases hk
theorem pow_18 {k m : Nat} (h : m < 10 ^ k) (hk : k ≤ 17) : m < 100000000000000000 := Nat.lt_of_lt_of_le h (Nat.pow_le_pow_right (by omega) hk)
theorem pow_19 {k m : Nat} (h : m < 10 ^ k) (hk : k ≤ 18) : m < 1000000000000000000 := Nat.lt_of_lt_of_le h (Nat.pow_le_pow_right (by omega) hk)

end Go.Proofs.YtdofeonkgaceeacDoor.Base
