/-
  A list of values that grows in the rounds of a range over a function: the caller's invariant; the passes of a curve as a list.
-/
import Derived.Test.YtbpdjmjkjiddjaaDoorCof
import Derived.Test.YtbpdjmjkjiddjaaDoorCnu
import Derived.Test.YtbpdjmjkjiddjaaDoorPao
import Derived.Test.YtbpdjmjkjiddjaaDoorRnd
namespace Go.Proofs.YtbpdjmjkjiddjaaDoor.Base
open Go Go.RowKit
set_option linter.unusedVariables false
set_option linter.unusedSimpArgs false

/-- what stands while a list grows: pl: the list's variable, u: the list, xs: its cells, m: its length -/
structure CoV (wL : World) (pl base : Nat) (T TL : TypeId) (es : Nat) (w0 : World) (m : Nat) (xs : List Value) (u : Value) (A : World) : Prop where
  sz : wL.heap.size ≤ A.heap.size
  old : ∀ b, b < base → A.heap[b]? = wL.heap[b]?
  box : At A pl #[u] TL
  own : A.ownsRow base T es u m xs
  far : u.ownBlock ≠ some pl
  bel : Below w0.heap.size w0 A
section
variable {wL w0 : World} {pl base : Nat} {T TL : TypeId} {es m : Nat} {xs : List Value} {u : Value} {A A' : World}
theorem CoV.stand (h : CoV wL pl base T TL es w0 m xs u A) (hs : A.heap.size ≤ A'.heap.size) (ho : ∀ b, b < base → A'.heap[b]? = A.heap[b]?) (hX : ∀ b, b ∈ pl :: ownB u → A'.heap[b]? = A.heap[b]?) (hb : Below w0.heap.size w0 A') : CoV wL pl base T TL es w0 m xs u A' :=
  ⟨Nat.le_trans h.sz hs, fun b hb => (ho b hb).trans (h.old b hb), h.box.of_block (hX pl (by simp)), owns_blk h.own (fun g hg => hX g (List.mem_cons_of_mem _ (ownB_mem.2 hg))), h.far, hb⟩
theorem CoV.below (h : CoV wL pl base T TL es w0 m xs u A) (hbw : base ≤ wL.heap.size) (hb : Below A.heap.size A A') : CoV wL pl base T TL es w0 m xs u A' :=
  h.stand hb.size (fun b h1 => hb.block b (by have := h.sz; omega)) (fun b h1 => hb.block b (by
    rcases List.mem_cons.1 h1 with rfl | h2
    · exact h.box.lt
    · exact (h.own.lt b (ownB_mem.1 h2)).2)) (h.bel.trans (hb.mono h.bel.size))
theorem holds_cov {cnt : Nat → Nat} {xf : Nat → List Value} (hb0 : base ≤ wL.heap.size) (hw : w0.heap.size ≤ wL.heap.size) : HoldsY wL.heap.size (fun X j A => ∃ u, X = pl :: ownB u ∧ CoV wL pl base T TL es w0 (cnt j) (xf j) u A) where
  below := fun X k A A' ⟨u, e, h⟩ hb => ⟨u, e, h.below hb0 hb⟩
  put := fun X k A l o' ⟨u, e, h⟩ hl hX ho => ⟨u, e, h.stand (by simp) (fun b h1 => World.putObj_heap_other (by omega)) (fun b h1 => World.putObj_heap_other (by rintro rfl; exact hX (e ▸ h1))) (h.bel.grown (grownBy_putObj' _ _ _) h.bel.size (fun j e => by cases e; omega))⟩
  set := fun X k A b i v ⟨u, e, h⟩ hl hX => ⟨u, e, h.stand (by simp [World.setCell]) (fun b' h1 => Below.heap_setCell A ⟨b, i, none⟩ v b' (by show b' ≠ b; omega)) (fun b' h1 => Below.heap_setCell A ⟨b, i, none⟩ v b' (by show b' ≠ b; rintro rfl; exact hX (e ▸ h1))) (h.bel.setCell (p := ⟨b, i, none⟩) (show w0.heap.size ≤ b by omega) v)⟩
/-- one round in which the list grows by one element, and the variable holds it -/
theorem CoV.next {Y w6 : World} {news : List Value} {g cap : Nat} (h : CoV wL pl base T TL es w0 m xs u A) (hpl : base ≤ pl) (hwb : w0.heap.size ≤ base) (hbw : base ≤ wL.heap.size)
    (b3 : Below A.heap.size A Y) (ho : w6.ownsRow base T es (.slice (some ⟨g, 0, none⟩) (m + 1) cap) (m + 1) (xs ++ news)) (hg : Y.grownBy w6 u.ownBlock) (hat : u.ownBlock = some g ∨ g = Y.heap.size) (hlt : g < w6.heap.size) :
    (w6.cell? ⟨pl, 0, none⟩ = some u ∧ w6.frozen? ⟨pl, 0, none⟩ = false ∧ pl < w6.heap.size) ∧
    CoV wL pl base T TL es w0 (m + 1) (xs ++ news) (.slice (some ⟨g, 0, none⟩) (m + 1) cap) (w6.setCell ⟨pl, 0, none⟩ (.slice (some ⟨g, 0, none⟩) (m + 1) cap)) ∧ Ext (pl :: ownB u) A (w6.setCell ⟨pl, 0, none⟩ (.slice (some ⟨g, 0, none⟩) (m + 1) cap)) ∧
      ∀ b ∈ pl :: ownB (.slice (some ⟨g, 0, none⟩) (m + 1) cap), (b ∈ pl :: ownB u ∨ A.heap.size ≤ b) ∧ b < (w6.setCell ⟨pl, 0, none⟩ (.slice (some ⟨g, 0, none⟩) (m + 1) cap)).heap.size := by
  have z3 := b3.size
  have zg := hg.size
  have hpA := h.box.lt
  have hgpl : g ≠ pl := by
    rintro rfl
    rcases hat with h1 | h1
    · exact h.far h1
    · omega
  have hup : ∀ b, some b = u.ownBlock → base ≤ b ∧ b < A.heap.size := fun b e => h.own.lt b e.symm
  have keep : ∀ b, b < A.heap.size → some b ≠ u.ownBlock → w6.heap[b]? = A.heap[b]? := fun b h1 h2 =>
    (hg.block b (by omega) h2).trans (b3.block b h1)
  have hbox6 : At w6 pl #[u] TL := h.box.of_block (keep pl hpA (fun e => h.far e.symm))
  have hsz : (w6.setCell ⟨pl, 0, none⟩ (.slice (some ⟨g, 0, none⟩) (m + 1) cap)).heap.size = w6.heap.size := by simp [World.setCell]
  have oth : ∀ b, b ≠ pl → (w6.setCell ⟨pl, 0, none⟩ (.slice (some ⟨g, 0, none⟩) (m + 1) cap)).heap[b]? = w6.heap[b]? := fun b hb => Below.heap_setCell _ _ _ _ hb
  refine ⟨⟨hbox6.cellv (i := 0) rfl, hbox6.frozen 0, hbox6.lt⟩, ⟨by rw [hsz]; have := h.sz; omega, fun b hb => ?_, ?_, ?_, ?_, ?_⟩, ?_, ?_⟩
  · rw [oth b (by omega), keep b (by have := h.sz; omega) (fun e => by have := (hup b e).1; omega)]
    exact h.old b hb
  · have := hbox6.set 0 (.slice (some ⟨g, 0, none⟩) (m + 1) cap)
    simpa using this
  · exact owns_blk ho (fun g' hg' => by
      have : g = g' := by simpa [Value.ownBlock] using hg'
      exact oth g' (by omega))
  · simpa [Value.ownBlock] using hgpl
  · exact ((h.bel.trans (b3.mono h.bel.size)).grown hg (by have := h.bel.size; omega) (fun b e => by have := (hup b e.symm).1; omega)).setCell (p := ⟨pl, 0, none⟩) (show w0.heap.size ≤ pl by omega) _
  · refine ((Ext.of_below b3).trans ⟨hg.os, hg.tape, hg.output, hg.size, fun k hk hx => hg.block k hk (fun e => hx (List.mem_cons_of_mem _ (ownB_mem.2 e.symm)))⟩).trans (Ext.set _ _ _ (by simp))
  · intro b hb
    rw [hsz]
    rcases List.mem_cons.1 hb with rfl | h2
    · exact ⟨.inl (by simp), by omega⟩
    · have h3 : g = b := by simpa [Value.ownBlock] using ownB_mem.1 h2
      subst h3
      refine ⟨?_, hlt⟩
      rcases hat with h1 | h1
      · exact .inl (List.mem_cons_of_mem _ (ownB_mem.2 h1))
      · right; omega
end
/-- does a walker meet a crossing at its next point? how does it pass it? -/
def pcX (W H : Int) (f : Nat → Int) (v : W4) : Bool := isX W H f (v.1 + v.2.2.1) (v.2.1 + v.2.2.2)
def pcE (W H : Int) (f : Nat → Int) (v : W4) : Int × Bool := (((zl f (numN W (v.1 + v.2.2.1) (v.2.1 + v.2.2.2)).toNat).length : Int), ovW v.1 v.2.2.1 v.2.2.2)
/-- the passes of the first j steps -/
def pcL (W H : Int) (f : Nat → Int) (v : W4) : Nat → List (Int × Bool)
  | 0 => []
  | j + 1 => if pcX W H f (stps W H f j v) then pcL W H f v j ++ [pcE W H f (stps W H f j v)] else pcL W H f v j
theorem pcL_yes {W H : Int} {f : Nat → Int} {v : W4} {j : Nat} (h : pcX W H f (stps W H f j v) = true) : pcL W H f v (j + 1) = pcL W H f v j ++ [pcE W H f (stps W H f j v)] := if_pos h
theorem pcL_no {W H : Int} {f : Nat → Int} {v : W4} {j : Nat} (h : pcX W H f (stps W H f j v) = false) : pcL W H f v (j + 1) = pcL W H f v j := if_neg (by rw [h]; exact Bool.false_ne_true)
theorem pcL_len (W H : Int) (f : Nat → Int) (v : W4) : ∀ j, (pcL W H f v j).length ≤ j
  | 0 => Nat.le_refl _
  | j + 1 => by
    have := pcL_len W H f v j
    cases h : pcX W H f (stps W H f j v)
    · rw [pcL_no h]; omega
    · rw [pcL_yes h, List.length_append]; simp; omega
/-- their cells -/
def pcV (L : List (Int × Bool)) : List Value := L.flatMap fun e => [.int .i64 e.1, .bool e.2]
theorem pcV_snoc (L : List (Int × Bool)) (e : Int × Bool) : pcV (L ++ [e]) = pcV L ++ [.int .i64 e.1, .bool e.2] := by simp [pcV]
end Go.Proofs.YtbpdjmjkjiddjaaDoor.Base
