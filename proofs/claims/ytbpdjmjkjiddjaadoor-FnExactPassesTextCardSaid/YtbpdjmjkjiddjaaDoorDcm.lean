/-
  Numerals: the model's l01Dec gives what the library's FormatInt gives.
-/
import Derived.Test.YtbpdjmjkjiddjaaDoorBase
import Derived.Test.YtbpdjmjkjiddjaaDoorPan
import Derived.Lib.ItoaLen
import Derived.Lib.UnsafeStr
import Derived.Lib.Slices
import Derived.RangeFuncBox
import Derived.Laws.AppendOwn
import Derived.Laws.IdiomStrings
import Derived.PlainAid
namespace Go.Proofs.YtbpdjmjkjiddjaaDoor.Base
open Go Go.RowKit
set_option linter.unusedVariables false
set_option linter.unusedSimpArgs false

/-- the digits of a number, none for 0 -/
def dg0 (m : Nat) : List UInt8 := if m = 0 then [] else Lib.decDigits m
theorem dg0_zero : dg0 0 = [] := rfl
theorem dg0_step {m : Nat} (h : m ≠ 0) : dg0 m = dg0 (m / 10) ++ [UInt8.ofNat (48 + m % 10)] := by
  unfold dg0
  rw [if_neg h]
  by_cases h1 : m < 10
  · rw [if_pos (by omega), Lib.decDigits_one h1, Nat.mod_eq_of_lt h1]; rfl
  · rw [if_neg (by omega)]
    conv => lhs; rw [Lib.decDigits, dif_neg h1]
theorem itoa_dg0 (n : Int) : Lib.itoa n = if n = 0 then [48] else if n < 0 then 45 :: dg0 n.natAbs else dg0 n.natAbs := by
  unfold Lib.itoa dg0
  by_cases h : n = 0
  · subst h; simp [Lib.decDigits_one]
  · rw [if_neg h]
    by_cases h1 : n < 0
    · rw [if_pos h1, if_pos h1, if_neg (by omega)]
    · rw [if_neg h1, if_neg h1, if_neg (by omega), show n.toNat = n.natAbs by omega]
theorem dg0_len {n : Int} (h0 : -9223372036854775808 ≤ n) (h1 : n ≤ 9223372036854775807) : (dg0 n.natAbs).length ≤ 21 := by
  have h := Lib.itoa_length_le n h0 h1
  rw [itoa_dg0] at h
  by_cases hn : n = 0
  · subst hn; simp [dg0]
  · rw [if_neg hn] at h
    split at h
    · simp at h; omega
    · exact h
def decS (n : Int) : ByteArray := ⟨(Lib.itoa n).toArray⟩
theorem digit_cell (m : Nat) : Value.int .u8 (48 + ((m % 10 : Nat) : Int)) = Value.int .u8 ((UInt8.ofNat (48 + m % 10)).toNat : Int) := by
  have : (UInt8.ofNat (48 + m % 10)).toNat = 48 + m % 10 := by simp; omega
  rw [this]; simp
theorem own_one (w : World) (base : Nat) (e : TypeId) (v : Value) (hb : base ≤ w.heap.size) : (w.alloc (.cells #[v] e)).ownsRow base e 1 (.slice (some ⟨w.heap.size, 0, none⟩) 1 1) 1 [v] :=
  ⟨by simp, .inr ⟨w.heap.size, 1, #[v], rfl, hb, heap_alloc_new w _, Nat.le_refl _, by unfold maxLen; omega, rfl, rfl⟩⟩
theorem Tryd.u8info : (Tryd.prog.info? 5).map (fun i => (i.zero, i.size, i.bytes)) = some (some (.int .u8 0), 1, 1) := by kernel_rfl
end Go.Proofs.YtbpdjmjkjiddjaaDoor.Base
