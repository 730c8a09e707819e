/-
  Whole blocks: a variable's box; rows that an operation made.
-/
import Derived.Test.YtbpdjmjkjiddjaaDoorStab
import Derived.Test.YtbpdjmjkjiddjaaDoorNew
namespace Go.Proofs.YtbpdjmjkjiddjaaDoor.Base
open Go.RowKit
set_option linter.unusedVariables false

/-- block p holds these cells, none frozen -/
def At (w : World) (p : Nat) (cs : Array Value) (T : TypeId) : Prop := w.heap[p]? = some (.cells cs T (0, 0))
section
variable {w w' : World} {p : Nat} {cs : Array Value} {T : TypeId}
theorem At.lt (h : At w p cs T) : p < w.heap.size := by
  rcases Nat.lt_or_ge p w.heap.size with h' | h'
  · exact h'
  · unfold At at h; rw [Array.getElem?_eq_none h'] at h; cases h
theorem At.cell (h : At w p cs T) (i : Nat) : w.cell? ⟨p, i, none⟩ = cs[i]? := by
  unfold At at h
  simp [World.cell?, h]
theorem At.cellv (h : At w p cs T) {i : Nat} {v : Value} (hv : cs[i]? = some v) : w.cell? ⟨p, i, none⟩ = some v := (h.cell i).trans hv
theorem At.frozen (h : At w p cs T) (i : Nat) : w.frozen? ⟨p, i, none⟩ = false := by
  unfold At at h
  simp [World.frozen?, h]
theorem At.of_block (h : At w p cs T) (e : w'.heap[p]? = w.heap[p]?) : At w' p cs T := by
  unfold At at h ⊢
  rw [e, h]
theorem At.ext {X : List Nat} (h : At w p cs T) (e : Ext X w w') (hx : p ∉ X) : At w' p cs T := h.of_block (e.block p h.lt hx)
theorem At.ext0 (h : At w p cs T) (e : Ext [] w w') : At w' p cs T := h.ext e (by simp)
theorem At.below {B : Nat} (h : At w p cs T) (e : Below B w w') (hp : p < B) : At w' p cs T := h.of_block (e.block p hp)
theorem At.same {B : Nat} {X : List Nat} {lo hi : Nat} (h : At w p cs T) (e : Same B X lo hi w w') (hp : p < B ∧ p ∉ X ∨ lo ≤ p ∧ p < hi) : At w' p cs T := h.of_block (e.block p h.lt hp)
theorem At.new (w : World) (cs : Array Value) (T : TypeId) : At (w.alloc (.cells cs T)) w.heap.size cs T := heap_alloc_new w _
theorem At.drew (h : At w p cs T) : At w.drew p cs T := h
theorem At.set (h : At w p cs T) (i : Nat) (v : Value) : At (w.setCell ⟨p, i, none⟩ v) p (cs.setIfInBounds i v) T := by
  unfold At at h ⊢
  simp [World.setCell, Array.getElem?_modify, h]
theorem At.setOther (h : At w p cs T) {a : Addr} (ha : a.block ≠ p) (v : Value) : At (w.setCell a v) p cs T := h.of_block (Below.heap_setCell w a v p (fun e => ha e.symm))
theorem At.grown {r : Option Nat} (h : At w p cs T) (hg : w.grownBy w' r) (hne : some p ≠ r) : At w' p cs T := h.of_block (hg.block p h.lt hne)
end

/-- a row that lies in the blocks lo .. hi, none frozen -/
def OwnIn (w : World) (lo hi : Nat) (A : Option Addr) (n c : Nat) (f : Nat → Int) : Prop :=
  n ≤ c ∧ c ≤ maxLen ∧ (∀ i, i < n → (Lit.int .i64 (f i)).wf = true) ∧
  (0 < n → ∃ b o, A = some ⟨b, o, none⟩ ∧ lo ≤ b ∧ b < hi ∧ b < w.heap.size ∧ ∀ i, i < n → w.cell? ⟨b, o + i, none⟩ = some (.int .i64 (f i)) ∧ w.frozen? ⟨b, o + i, none⟩ = false)
section
variable {w w' : World} {lo hi : Nat} {A : Option Addr} {n c : Nat} {f : Nat → Int}
theorem OwnIn.of_own (h : OwnRow w lo A n c f) (hh : w.heap.size ≤ hi) : OwnIn w lo hi A n c f :=
  ⟨h.1, h.2.1, h.2.2.1, fun hn => by obtain ⟨b, o, e, h1, h2, h3⟩ := h.2.2.2 hn; exact ⟨b, o, e, h1, by omega, h2, h3⟩⟩
theorem OwnIn.own (h : OwnIn w lo hi A n c f) : OwnRow w lo A n c f :=
  ⟨h.1, h.2.1, h.2.2.1, fun hn => by obtain ⟨b, o, e, h1, _, h2, h3⟩ := h.2.2.2 hn; exact ⟨b, o, e, h1, h2, h3⟩⟩
theorem OwnIn.same {B : Nat} {X : List Nat} (h : OwnIn w lo hi A n c f) (e : Same B X lo hi w w') : OwnIn w' lo hi A n c f :=
  ⟨h.1, h.2.1, h.2.2.1, fun hn => by
    obtain ⟨b, o, ea, h1, h2, h3, h4⟩ := h.2.2.2 hn
    have hb := e.block b h3 (.inr ⟨h1, h2⟩)
    exact ⟨b, o, ea, h1, h2, Nat.lt_of_lt_of_le h3 e.size, fun i hi => ⟨(World.cell?_of_block (a := ⟨b, o + i, none⟩) hb).trans (h4 i hi).1, (World.frozen?_of_block (a := ⟨b, o + i, none⟩) hb).trans (h4 i hi).2⟩⟩⟩
theorem OwnIn.row (h : OwnIn w lo hi A n c f) : Row .i64 w A n c f := h.own.row
end
theorem Row.ext0 {k : IntKind} {w w' : World} {A : Option Addr} {n c : Nat} {f : Nat → Int} (h : Row k w A n c f) (e : Ext [] w w') : Row k w' A n c f := h.below e.nil (Nat.le_refl _)
theorem OwnRow.ext0 {w w' : World} {base : Nat} {A : Option Addr} {n c : Nat} {f : Nat → Int} (h : OwnRow w base A n c f) (e : Ext [] w w') : OwnRow w' base A n c f := h.below e.nil (Nat.le_refl _)
theorem below_ext {w w1 w2 : World} (h : Below w.heap.size w w1) (e : Ext [] w1 w2) : Below w.heap.size w w2 := h.trans (e.nil.mono h.size)
/-- a row in old blocks, of whatever is old -/
theorem Row.same {k : IntKind} {w w' : World} {B : Nat} {lo hi : Nat} {A : Option Addr} {n c : Nat} {f : Nat → Int} (h : Row k w A n c f) (hA : ∀ b, blk A = some b → 0 < n → b < B) (e : Same B [] lo hi w w') : Row k w' A n c f :=
  ⟨h.1, h.2.1, h.2.2.1, fun hn => by
    obtain ⟨b, o, ea, h1, h2⟩ := h.2.2.2 hn
    have hb := e.block b h1 (.inl ⟨hA b (by rw [ea]; rfl) hn, by simp⟩)
    exact ⟨b, o, ea, Nat.lt_of_lt_of_le h1 e.size, fun i hi => (World.cell?_of_block (a := ⟨b, o + i, none⟩) hb).trans (h2 i hi)⟩⟩
theorem toPanel_own (w : World) (W H : Int) (A : Option Addr) (n c : Nat) (f : Nat → Int) (hr : Row .i64 w A n c f) (hn : n ≤ 1048576) :
    Calls Tryd.prog 16 #[.agg #[.int .i64 W, .int .i64 H, .slice A n c]] w (PanelMade W H n f w) :=
  (toPanel_any w W H A n c f hr hn).mono fun e w' ⟨b, he, hb, hrow, hbel⟩ => ⟨_, _, he, ownRow_of hrow (by unfold maxLen; omega) hr.2.2.1 hb, hbel⟩
end Go.Proofs.YtbpdjmjkjiddjaaDoor.Base
