/-
  WalkSteps: the program's.
-/
import Derived.Test.YtbpdjmjkjiddjaaDoorWsi
import Derived.Shelf.Abstract
namespace Go.Proofs.YtbpdjmjkjiddjaaDoor.Base
open Go Go.RowKit Go.Shelf
set_option linter.unusedVariables false
set_option linter.unusedSimpArgs false
attribute [local go_sem] Oper.semAt_some

/-- between two rounds: the box of the last walker, the box of the result, and what lay before -/
def IStp (W H : Int) (f : Nat → Int) (v : W4) (pL pZ : Nat) (w : World) (k : Nat) (X : World) : Prop :=
  At X pL (cs4 (stps W H f k v)).toArray 131 ∧ At X pZ #[.int .i64 0, .int .i64 0, .int .i64 0, .int .i64 0] 131 ∧ Below w.heap.size w X

theorem at_put {A : World} {p : Nat} {cs : Array Value} {T : TypeId} (h : At A p cs T) {l : Nat} {o' : Obj} (ho : ∃ o : Obj, A.heap[l]? = some o ∧ o.isCells = false) : At (A.putObj l o') p cs T := by
  refine h.of_block (World.putObj_heap_other ?_)
  rintro rfl
  obtain ⟨o, h1, h2⟩ := ho
  unfold At at h
  rw [h] at h1
  cases h1
  cases h2

theorem holds_istp {W H : Int} {f : Nat → Int} {v : W4} {pL pZ B V : Nat} {w : World} (hL : pL < B) (hZ : pZ < B) (hw : w.heap.size ≤ B) (hV : B ≤ V) : Holds B V (IStp W H f v pL pZ w) where
  below := fun k A A' h hb => ⟨h.1.below hb h.1.lt, h.2.1.below hb h.2.1.lt, h.2.2.trans (hb.mono h.2.2.size)⟩
  put := fun k A l o' h hl ho => ⟨at_put h.1 ho, at_put h.2.1 ho, h.2.2.grown (grownBy_putObj' _ _ _) h.2.2.size (fun j e => by cases e; omega)⟩
  box := fun k A i u h => ⟨h.1.setOther (a := ⟨V, i, none⟩) (show V ≠ pL by omega) u, h.2.1.setOther (a := ⟨V, i, none⟩) (show V ≠ pZ by omega) u, h.2.2.setCell (p := ⟨V, i, none⟩) (show w.heap.size ≤ V by omega) u⟩

theorem holds_false (B V : Nat) : Holds B V (fun _ _ => False) := ⟨fun _ _ _ h _ => h, fun _ _ _ _ h _ _ => h, fun _ _ _ _ h => h⟩

/-! both, in one word -/
def wsR (W H : Int) (n : Nat) (f : Nat → Int) (x y dx dy s : Int) : W4 := if wkB W H n f x y dx dy = true ∧ inB s 0 10000 = true then stps W H f s.toNat (x, y, dx, dy) else (0, 0, 0, 0)
def wsC (W H : Int) (n : Nat) (f : Nat → Int) (x y dx dy s : Int) : Int := if wkB W H n f x y dx dy = true then if inB s 0 10000 = true then 0 else 2 else 1
section
variable (w : World) (W H : Int) (A : Option Addr) (n c : Nat) (f : Nat → Int) (x y dx dy s : Int)
end
end Go.Proofs.YtbpdjmjkjiddjaaDoor.Base
