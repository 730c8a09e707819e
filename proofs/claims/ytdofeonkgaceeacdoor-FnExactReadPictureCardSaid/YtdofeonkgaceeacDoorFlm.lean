/-
  Faults of a picture: the first one, its line and its column.
-/
import Derived.Test.YtdofeonkgaceeacDoorRpm
import Derived.Test.YtdofeonkgaceeacDoorPan
namespace Go.Proofs.YtdofeonkgaceeacDoor.Base
open Go Go.RowKit
open Go.PlainAid (bt get_bt bt_nonneg bt_le)
set_option linter.unusedVariables false
set_option linter.unusedSimpArgs false

/-- the fault of a character at a place -/
def chF (W H : Int) (x y : Nat) (c : Int) : Int := if hasB W H x y then (if edgeB W H x y then (if c = 46 then 0 else 4) else (if kindI c < 0 then 3 else 0)) else (if c = 32 then 0 else 5)
/-- the lines have the size of a picture -/
def szB (n : Nat) (g : Nat → ByteArray) : Bool := decide (n % 2 = 1) && sideB ((n / 2 : Nat) : Int) && decide ((g 0).size % 2 = 1) && sideB (((g 0).size / 2 : Nat) : Int)
def ltF (W H : Int) (g : Nat → ByteArray) (y x : Nat) : Int := chF W H x y (bt (g y) x)
/-- the line y has no fault -/
def GoodL (W H : Int) (m : Nat) (g : Nat → ByteArray) (y : Nat) : Prop := (g y).size = m ∧ ∀ x, x < m → ltF W H g y x = 0
def FltIn (n : Nat) (g : Nat → ByteArray) (W H : Int) (m : Nat) (q y x : Int) : Prop :=
  ((∀ j, j < n → GoodL W H m g j) ∧ q = 0 ∧ y = 0 ∧ x = 0) ∨
  ∃ j, j < n ∧ (∀ i, i < j → GoodL W H m g i) ∧ y = j ∧ (((g j).size ≠ m ∧ q = 2 ∧ x = 0) ∨ ((g j).size = m ∧ ∃ k, k < m ∧ (∀ i, i < k → ltF W H g j i = 0) ∧ ltF W H g j k = q ∧ q ≠ 0 ∧ x = k))
def FltIs (n : Nat) (g : Nat → ByteArray) (q y x : Int) : Prop :=
  (szB n g = false ∧ q = 1 ∧ y = 0 ∧ x = 0) ∨ (szB n g = true ∧ FltIn n g (((g 0).size / 2 : Nat) : Int) ((n / 2 : Nat) : Int) (g 0).size q y x)
theorem goodL_no {W H : Int} {m : Nat} {g : Nat → ByteArray} {j : Nat} (h : GoodL W H m g j) {q x : Int} (k : ((g j).size ≠ m ∧ q = 2 ∧ x = 0) ∨ ((g j).size = m ∧ ∃ k, k < m ∧ (∀ i, i < k → ltF W H g j i = 0) ∧ ltF W H g j k = q ∧ q ≠ 0 ∧ x = k)) : False := by
  rcases k with ⟨h1, -⟩ | ⟨-, k, h1, -, h2, h3, -⟩
  · exact h1 h.1
  · exact h3 (by rw [← h2]; exact h.2 k h1)
theorem fltIn_uniq {n : Nat} {g : Nat → ByteArray} {W H : Int} {m : Nat} {q y x q' y' x' : Int} (h : FltIn n g W H m q y x) (k : FltIn n g W H m q' y' x') : q = q' ∧ y = y' ∧ x = x' := by
  rcases h with ⟨h1, rfl, rfl, rfl⟩ | ⟨j, j1, j2, rfl, j3⟩ <;> rcases k with ⟨k1, rfl, rfl, rfl⟩ | ⟨j', k1, k2, rfl, k3⟩
  · exact ⟨rfl, rfl, rfl⟩
  · exact (goodL_no (h1 j' k1) k3).elim
  · exact (goodL_no (k1 j j1) j3).elim
  · have ej : j = j' := by
      rcases Nat.lt_trichotomy j j' with e | e | e
      · exact (goodL_no (k2 j e) j3).elim
      · exact e
      · exact (goodL_no (j2 j' e) k3).elim
    subst ej
    rcases j3 with ⟨a1, rfl, rfl⟩ | ⟨a1, a, a2, a3, a4, a5, rfl⟩ <;> rcases k3 with ⟨b1, rfl, rfl⟩ | ⟨b1, b, b2, b3, b4, b5, rfl⟩
    · exact ⟨rfl, rfl, rfl⟩
    · exact absurd b1 a1
    · exact absurd a1 b1
    · have eb : a = b := by
        rcases Nat.lt_trichotomy a b with e | e | e
        · exact absurd ((b3 a e).symm.trans a4) (fun e' => a5 e'.symm)
        · exact e
        · exact absurd ((a3 b e).symm.trans b4) (fun e' => b5 e'.symm)
      subst eb
      exact ⟨a4.symm.trans b4, rfl, rfl⟩
theorem flt_uniq {n : Nat} {g : Nat → ByteArray} {q y x q' y' x' : Int} (h : FltIs n g q y x) (k : FltIs n g q' y' x') : q = q' ∧ y = y' ∧ x = x' := by
  rcases h with ⟨h1, rfl, rfl, rfl⟩ | ⟨h1, h2⟩ <;> rcases k with ⟨k1, rfl, rfl, rfl⟩ | ⟨k1, k2⟩
  · exact ⟨rfl, rfl, rfl⟩
  · rw [h1] at k1; cases k1
  · rw [h1] at k1; cases k1
  · exact fltIn_uniq h2 k2
theorem chF_bd (W H : Int) (x y : Nat) (c : Int) : 0 ≤ chF W H x y c ∧ chF W H x y c ≤ 5 := by
  unfold chF
  repeat' split <;> omega
/-- a post: three numbers -/
def Flt3 (n : Nat) (g : Nat → ByteArray) (w : World) (e : Ending) (w' : World) : Prop :=
  ∃ q y x : Int, e = .returned (.tuple #[.int .i64 q, .int .i64 y, .int .i64 x]) ∧ FltIs n g q y x ∧ Below w.heap.size w w'
end Go.Proofs.YtdofeonkgaceeacDoor.Base
