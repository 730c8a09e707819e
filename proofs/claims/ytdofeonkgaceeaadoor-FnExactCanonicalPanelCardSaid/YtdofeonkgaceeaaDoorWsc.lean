/-
  WalkSteps: the program's.
-/
import Derived.Test.YtdofeonkgaceeaaDoorWsi
import Derived.Shelf.Abstract
namespace Go.Proofs.YtdofeonkgaceeaaDoor.Base
open Go Go.RowKit Go.Shelf
set_option linter.unusedVariables false
set_option linter.unusedSimpArgs false
attribute [local go_sem] Oper.semAt_some

theorem at_put {A : World} {p : Nat} {cs : Array Value} {T : TypeId} (h : At A p cs T) {l : Nat} {o' : Obj} (ho : ∃ o : Obj, A.heap[l]? = some o ∧ o.isCells = false) : At (A.putObj l o') p cs T := by
  refine h.of_block (World.putObj_heap_other ?_)
  rintro rfl
  obtain ⟨o, h1, h2⟩ := ho
  unfold At at h
  rw [h] at h1
  cases h1
  cases h2

theorem holds_false (B V : Nat) : Holds B V (fun _ _ => False) := ⟨fun _ _ _ h _ => h, fun _ _ _ _ h _ _ => h, fun _ _ _ _ h => h⟩

/-! both, in one word -/
def wsR (W H : Int) (n : Nat) (f : Nat → Int) (x y dx dy s : Int) : W4 := if wkB W H n f x y dx dy = true ∧ inB s 0 10000 = true then stps W H f s.toNat (x, y, dx, dy) else (0, 0, 0, 0)
def wsC (W H : Int) (n : Nat) (f : Nat → Int) (x y dx dy s : Int) : Int := if wkB W H n f x y dx dy = true then if inB s 0 10000 = true then 0 else 2 else 1
section
variable (w : World) (W H : Int) (A : Option Addr) (n c : Nat) (f : Nat → Int) (x y dx dy s : Int)
end
end Go.Proofs.YtdofeonkgaceeaaDoor.Base
