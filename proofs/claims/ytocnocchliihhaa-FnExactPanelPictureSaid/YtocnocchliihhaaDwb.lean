/-
  Lines of characters, each told by a function of its place.
-/
import Derived.Test.YtocnocchliihhaaBld
namespace Go.Proofs.Ytocnocchliihhaa.Base
open Go Go.RowKit
set_option linter.unusedVariables false
set_option linter.unusedSimpArgs false

def chr (ch : Nat → Nat → UInt8) (y k : Nat) : List UInt8 := (List.range k).map fun x => ch x y
theorem chr_succ (ch : Nat → Nat → UInt8) (y k : Nat) : chr ch y (k + 1) = chr ch y k ++ [ch k y] := by simp [chr, List.range_succ]
theorem chr_len (ch : Nat → Nat → UInt8) (y k : Nat) : (chr ch y k).length = k := by simp [chr]
def dtx (ch : Nat → Nat → UInt8) (a k : Nat) : List Value := (List.range k).map fun y => .string ⟨(chr ch y a).toArray⟩
theorem dtx_succ (ch : Nat → Nat → UInt8) (a k : Nat) : dtx ch a (k + 1) = dtx ch a k ++ [.string ⟨(chr ch k a).toArray⟩] := by simp [dtx, List.range_succ]
theorem dtx_len (ch : Nat → Nat → UInt8) (a k : Nat) : (dtx ch a k).length = k := by simp [dtx]
/-- the lines, made from block base on -/
def DrawnL (ch : Nat → Nat → UInt8) (a b : Nat) (w : World) (e : Ending) (w' : World) : Prop :=
  ∃ A c, e = .returned (.slice A b c) ∧ VOwn w' w.heap.size A b c (fun i => .string ⟨(chr ch i a).toArray⟩) ∧ Below w.heap.size w w'
theorem drawn_own {ch : Nat → Nat → UInt8} {a b : Nat} {w : World} {base : Nat} {A : Option Addr} {c : Nat} (h : w.ownsRow base 9 1 (.slice A b c) b (dtx ch a b)) (hb : b ≤ maxLen) : VOwn w base A b c (fun i => .string ⟨(chr ch i a).toArray⟩) := by
  have ht : dtx ch a b = ((List.range b).map fun y => (⟨(chr ch y a).toArray⟩ : ByteArray)).map Value.string := by simp [dtx]
  rw [ht] at h
  have hv := vown_of h (Nat.le_refl _) hb
  refine ⟨hv.1, hv.2.1, fun hn => ?_⟩
  obtain ⟨b', o', e1, e2, e3, e4⟩ := hv.2.2 hn
  refine ⟨b', o', e1, e2, e3, fun i hi => ⟨(e4 i hi).1.trans ?_, (e4 i hi).2⟩⟩
  have hg : ((List.range b).map fun y => (⟨(chr ch y a).toArray⟩ : ByteArray)).getD i ⟨#[]⟩ = ⟨(chr ch i a).toArray⟩ := by
    simp [List.getD_eq_getElem?_getD, hi]
  show some (Value.string _) = _
  rw [hg]
end Go.Proofs.Ytocnocchliihhaa.Base
