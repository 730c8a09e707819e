/-
  impl's set of segments or curves: a map from numbers to bools; has and add.
-/
import Derived.Test.YtbpdjmjkjiddjaaDoorShape
import Derived.Maps.OwnIn
import Derived.Maps.OwnSet
import Derived.Maps.Views
namespace Go.Proofs.YtbpdjmjkjiddjaaDoor.Base
open Go.RowKit
set_option linter.unusedVariables false

/-- block b is a map of at most n entries that has the numbers of S -/
def SetIs (w : World) (b n : Nat) (S : Nat → Bool) : Prop :=
  ∃ D : DataW Nat, w.ownsMap Tryd.prog 2 (plainElem Tryd.prog 4) b n D ∧ ∀ s : Nat, D.atKey (.int .i64 s) (.lit (.bool false)) = .lit (.bool (S s))
section
variable {w w' : World} {b n : Nat} {S : Nat → Bool}
theorem SetIs.lt (h : SetIs w b n S) : b < w.heap.size := by
  obtain ⟨D, ⟨es, cl, hb, _⟩, _⟩ := h
  exact (Array.getElem?_eq_some_iff.1 hb).1
theorem SetIs.of_block (h : SetIs w b n S) (e : w'.heap[b]? = w.heap[b]?) : SetIs w' b n S := by
  obtain ⟨D, ⟨es, cl, hb, h1, h2, h3⟩, h4⟩ := h
  exact ⟨D, ⟨es, cl, e.trans hb, h1, h2, h3⟩, h4⟩
theorem SetIs.below {B : Nat} (h : SetIs w b n S) (hb : Below B w w') (hB : b < B) : SetIs w' b n S := h.of_block (hb.block b hB)
theorem SetIs.ext {X : List Nat} (h : SetIs w b n S) (he : Ext X w w') (hx : b ∉ X) : SetIs w' b n S := h.of_block (he.block b h.lt hx)
theorem SetIs.grown {r : Option Nat} (h : SetIs w b n S) (hg : w.grownBy w' r) (hne : some b ≠ r) : SetIs w' b n S := h.of_block (hg.block b h.lt hne)
theorem SetIs.congr {S' : Nat → Bool} (h : SetIs w b n S) (e : ∀ s, S s = S' s) : SetIs w b n S' := by
  obtain ⟨D, h1, h2⟩ := h
  exact ⟨D, h1, fun s => by rw [← e]; exact h2 s⟩
theorem SetIs.new (w : World) : SetIs (w.alloc (.map #[] 0)) w.heap.size 0 (fun _ => false) :=
  ⟨.map [], World.ownsMap_made w Tryd.prog 2 (plainElem Tryd.prog 4), fun s => rfl⟩
theorem bool_inv {P : Program} {e : TypeId} (he : P.underlying e = some .bool) {v : Value} {ps : List MemPlace} {d : Bool} (h : plainElem (H := Nat) P e v = some (.lit (.bool d), ps)) : v = .bool d := by
  unfold plainElem at h
  rw [he] at h
  cases v <;> simp at h
  next x => rw [h.1]
theorem SetIs.look (h : SetIs w b n S) (z : Nat) (hz : (Lit.int .i64 z).wf = true) :
    (Instr.lookup 153 (.map (some b)) (.int .i64 z) false).run Tryd.prog w = .ok (.bool (S z)) w := by
  obtain ⟨D, h1, h2⟩ := h
  obtain ⟨v, ps, hrun, hv⟩ := h1.lookup (t := 153) (Maps.int_keyed Tryd.underlying2) Tryd.underlying153 (Tryd.zeroValue4 w) (plainElem_bool Tryd.underlying4 false) (Maps.keyOf_int_mk Tryd.underlying2 hz)
  rw [h2 z] at hv
  rw [hrun, bool_inv Tryd.underlying4 hv]
theorem SetIs.put (h : SetIs w b n S) (z : Nat) (hz : (Lit.int .i64 z).wf = true) (hn : n < maxLen) :
    ∃ w', (Instr.mapUpdate 153 (.map (some b)) (.int .i64 z) (.bool true)).run Tryd.prog w = .ok () w' ∧ SetIs w' b (n + 1) (fun s => s == z || S s) ∧ w.grownBy w' (some b) := by
  obtain ⟨D, h1, h2⟩ := h
  obtain ⟨w', hrun, r1, r2⟩ := h1.update (t := 153) (Maps.int_keyed Tryd.underlying2) Tryd.underlying153 hn (Maps.keyOf_int_mk Tryd.underlying2 hz) (plainElem_bool Tryd.underlying4 true)
  refine ⟨w', hrun, ⟨_, r1, fun s => ?_⟩, r2⟩
  by_cases e : s = z
  · subst e
    rw [Maps.atKey_put_same h1.isMap (by trivial)]
    simp
  · have hne : Lit.int .i64 (s : Int) ≠ Lit.int .i64 (z : Int) := fun e' => e (Int.ofNat.inj (Lit.int.inj e').2)
    rw [Maps.atKey_put_other hne, h2 s]
    simp [e]
end
theorem set_has (w : World) (b n : Nat) (S : Nat → Bool) (h : SetIs w b n S) (z : Nat) (hz : (Lit.int .i64 z).wf = true) :
    Calls Tryd.prog 107 #[.map (some b), .int .i64 z] w fun e w' => e = .returned (.bool (S z)) ∧ w = w' := by
  have hl := h.look z hz
  go_enter Tryd.func107, Tryd.ntmps107
  go_wp2
  go_ret
  exact ⟨rfl, rfl⟩
/-- what add leaves -/
def Added (b n : Nat) (S : Nat → Bool) (z : Nat) (w : World) (e : Ending) (w' : World) : Prop := (∃ v, e = .returned v) ∧ SetIs w' b (n + 1) (fun s => s == z || S s) ∧ w.grownBy w' (some b)
theorem set_add (w : World) (b n : Nat) (S : Nat → Bool) (h : SetIs w b n S) (z : Nat) (hz : (Lit.int .i64 z).wf = true) (hn : n < maxLen) :
    Calls Tryd.prog 140 #[.map (some b), .int .i64 z] w (Added b n S z w) := by
  obtain ⟨w1, hl, h1, h2⟩ := h.put z hz hn
  have H1 := Lib.hid h1
  have H2 := Lib.hid h2
  clear h1 h2
  go_enter Tryd.func140, Tryd.ntmps140
  go_wp2
  go_end0
  exact ⟨⟨_, rfl⟩, H1.out, H2.out⟩
end Go.Proofs.YtbpdjmjkjiddjaaDoor.Base
