/-
  LinesPicture: the specification's.
-/
import Derived.Test.YtdofeonkgaceeacDoorRws
import Derived.Test.YtdofeonkgaceeacDoorPan
import Derived.Test.YtdofeonkgaceeacDoorShape
namespace Go.Proofs.YtdofeonkgaceeacDoor.Base
open Go Go.RowKit
set_option linter.unusedVariables false
set_option linter.unusedSimpArgs false

/-- the segment's character -/
def lnc (x y : Nat) : UInt8 := if (x + y) % 2 = 0 then 47 else 92
def lnr (y k : Nat) : List UInt8 := (List.range k).map fun x => lnc x y
def lns (m k : Nat) : List (List UInt8) := (List.range k).map fun y => lnr y m
theorem lnr_succ (y k : Nat) : lnr y (k + 1) = lnr y k ++ [lnc k y] := by simp [lnr, List.range_succ]
theorem lns_succ (m k : Nat) : lns m (k + 1) = lns m k ++ [lnr k m] := by simp [lns, List.range_succ]
theorem lnr_len (y k : Nat) : (lnr y k).length = k := by simp [lnr]
theorem lns_len (m k : Nat) : (lns m k).length = k := by simp [lns]
/-- texts and a code -/
def TextsC (N : Nat) (g : Nat → ByteArray) (code : Int) (base : Nat) (w : World) (e : Ending) (w' : World) : Prop :=
  ∃ A c, e = .returned (.tuple #[.slice A N c, .int .i64 code]) ∧ VOwn w' base A N c (fun i => .string (g i)) ∧ Below base w w'
def lpN (W H : Int) (n : Nat) (f : Nat → Int) : Nat := if validB W H n f then (2 * H).toNat else 0
def lpG (W H : Int) (i : Nat) : ByteArray := ⟨(lnr i (2 * W).toNat).toArray⟩
def lpC (W H : Int) (n : Nat) (f : Nat → Int) : Int := if validB W H n f then 0 else 1
theorem lpN_le (W H : Int) (n : Nat) (f : Nat → Int) : lpN W H n f ≤ 16 := by
  unfold lpN
  cases hv : validB W H n f
  · simp
  · obtain ⟨-, hH, -, -⟩ := validB_yes hv
    obtain ⟨b1, b2⟩ := side_mk hH
    simp
    omega
end Go.Proofs.YtdofeonkgaceeacDoor.Base
