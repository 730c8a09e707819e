/-
  Numerals: the model's contract.
-/
import Derived.Test.YtdofeonkgaceeacDoorDcm
namespace Go.Proofs.YtdofeonkgaceeacDoor.Base
open Go Go.RowKit
set_option linter.unusedVariables false
set_option linter.unusedSimpArgs false

/-- between two rounds: k is still to be written, l has been -/
def DRel (n : Int) (w : World) (k : Int) (ov : Value) (wr : World) : Prop :=
  ∃ (l : List UInt8) (g cap : Nat), ov = .slice (some ⟨g, 0, none⟩) l.length cap ∧ dg0 k.natAbs ++ l = dg0 n.natAbs ∧ wr.ownsRow w.heap.size 5 1 (.slice (some ⟨g, 0, none⟩) l.length cap) l.length (Lib.byteCells l) ∧ Below w.heap.size w wr
theorem drel_step {n : Int} {w w1 : World} {m : Nat} (hm : m ≠ 0) {k k' : Int} (hk : k.natAbs = m) (hk' : k'.natAbs = m / 10) {l : List UInt8} {v' : Value} (he : dg0 k.natAbs ++ l = dg0 n.natAbs)
    (hown : w1.ownsRow w.heap.size 5 1 v' (1 + l.length) ([.int .u8 (48 + ((m % 10 : Nat) : Int))] ++ Lib.byteCells l)) (hb : Below w.heap.size w w1) : DRel n w k' v' w1 := by
  rw [show 1 + l.length = l.length + 1 from Nat.add_comm _ _] at hown
  obtain ⟨g, cap, rfl⟩ := ownsRow_succ hown
  refine ⟨UInt8.ofNat (48 + m % 10) :: l, g, cap, rfl, ?_, ?_, hb⟩
  · rw [hk', ← he, hk, dg0_step hm, List.append_assoc]; rfl
  · rw [digit_cell] at hown; exact hown
theorem bytes_cons (c : UInt8) (l : List UInt8) : (⟨#[c]⟩ : ByteArray) ++ ⟨l.toArray⟩ = ⟨(c :: l).toArray⟩ := by
  apply ByteArray.ext
  simp [ByteArray.data_append]
theorem neg_tmod_nat (m : Nat) : (-(m : Int)).tmod 10 = -((m % 10 : Nat) : Int) := by rw [Int.neg_tmod]; rfl
theorem neg_tdiv_nat (m : Nat) : (-(m : Int)).tdiv 10 = -((m / 10 : Nat) : Int) := by rw [Int.neg_tdiv]; rfl

end Go.Proofs.YtdofeonkgaceeacDoor.Base
