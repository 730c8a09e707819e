/-
  PanelPicture: the specification's.
-/
import Derived.Test.YtdofeonkgaceeacDoorLpc
import Derived.Test.YtdofeonkgaceeacDoorPan
import Derived.Test.YtdofeonkgaceeacDoorNum
namespace Go.Proofs.YtdofeonkgaceeacDoor.Base
open Go Go.RowKit
set_option linter.unusedVariables false
set_option linter.unusedSimpArgs false

/-- the character of a kind of break -/
def sgU (k : Int) : UInt8 := if k = 1 then 124 else if k = 2 then 45 else 43
/-- the picture's character at a place -/
def pch (W H : Int) (f : Nat → Int) (x y : Nat) : UInt8 := if hasB W H x y then (if edgeB W H x y then 46 else sgU (f (numN W x y).toNat)) else 32
def pcr (W H : Int) (f : Nat → Int) (y k : Nat) : List UInt8 := (List.range k).map fun x => pch W H f x y
def pcl (W H : Int) (f : Nat → Int) (m k : Nat) : List (List UInt8) := (List.range k).map fun y => pcr W H f y m
theorem pcr_succ (W H : Int) (f : Nat → Int) (y k : Nat) : pcr W H f y (k + 1) = pcr W H f y k ++ [pch W H f k y] := by simp [pcr, List.range_succ]
theorem pcl_succ (W H : Int) (f : Nat → Int) (m k : Nat) : pcl W H f m (k + 1) = pcl W H f m k ++ [pcr W H f k m] := by simp [pcl, List.range_succ]
theorem pcr_len (W H : Int) (f : Nat → Int) (y k : Nat) : (pcr W H f y k).length = k := by simp [pcr]
theorem pcl_len (W H : Int) (f : Nat → Int) (m k : Nat) : (pcl W H f m k).length = k := by simp [pcl]
theorem cell_al {w : World} {a : Addr} {v : Value} {o : Obj} (h : w.cell? a = some v) : (w.alloc o).cell? a = some v := by
  rw [World.cell?_alloc_lt _ _ _ (World.block_lt_of_cell? w a h)]
  exact h
theorem cell_gr {X w1 : World} {b o : Nat} {v : Value} {r : Option Nat} (h : X.cell? ⟨b, o, none⟩ = some v) (hg : X.grownBy w1 r) (hne : r = some b → False) : w1.cell? ⟨b, o, none⟩ = some v :=
  (World.cell?_of_block (a := ⟨b, o, none⟩) (hg.block b (World.block_lt_of_cell? X _ h) (fun e => hne e.symm))).trans h
theorem cell_be {B : Nat} {w w' : World} {b o : Nat} {v : Value} (h : w.cell? ⟨b, o, none⟩ = some v) (hb : Below B w w') (hB : b < B) : w'.cell? ⟨b, o, none⟩ = some v := (hb.cell (p := ⟨b, o, none⟩) hB).trans h
def ppN (W H : Int) (n : Nat) (f : Nat → Int) : Nat := if validB W H n f then (2 * H + 1).toNat else 0
theorem ppN_le (W H : Int) (n : Nat) (f : Nat → Int) : ppN W H n f ≤ 17 := by
  unfold ppN
  cases hv : validB W H n f
  · simp
  · obtain ⟨-, hH, -, -⟩ := validB_yes hv
    obtain ⟨b1, b2⟩ := side_mk hH
    simp
    omega
def ppG (W H : Int) (f : Nat → Int) (i : Nat) : ByteArray := ⟨(pcr W H f i (2 * W + 1).toNat).toArray⟩
end Go.Proofs.YtdofeonkgaceeacDoor.Base
