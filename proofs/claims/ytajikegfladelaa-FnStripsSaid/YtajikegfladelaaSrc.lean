/-
  The laws' source of numbers: next, pick.
-/
import Derived.Test.YtajikegfladelaaHeap
import Derived.Laws.Bits64b
namespace Go.Proofs.Ytajikegfladelaa.Base
open Go.RowKit
set_option linter.unusedVariables false
set_option linter.unusedSimpArgs false

/-- a source over a row of bytes, with k taken of them -/
def Src (w : World) (s : Nat) (A : Option Addr) (n c : Nat) (k : Int) : Prop :=
  s < w.heap.size ∧ w.cell? ⟨s, 0, none⟩ = some (.slice A n c) ∧ w.cell? ⟨s, 1, none⟩ = some (.int .i64 k) ∧ (∃ z, w.cell? ⟨s, 2, none⟩ = some (.int .u64 z)) ∧ w.frozen? ⟨s, 1, none⟩ = false ∧ w.frozen? ⟨s, 2, none⟩ = false
/-- what next and pick leave -/
def Took (s : Nat) (A : Option Addr) (n c : Nat) (k d m : Int) (w : World) (e : Ending) (w' : World) : Prop :=
  ∃ v k' : Int, e = .returned (.int .i64 v) ∧ 0 ≤ v ∧ v ≤ m ∧ Src w' s A n c k' ∧ k ≤ k' ∧ k' ≤ k + d ∧ Ext [s] w w'
theorem Src.ext {w w' : World} {X : List Nat} {s : Nat} {A : Option Addr} {n c : Nat} {k : Int} (h : Src w s A n c k) (e : Ext X w w') (hx : s ∉ X) : Src w' s A n c k := by
  obtain ⟨h1, h2, h3, ⟨z, h4⟩, h5, h6⟩ := h
  exact ⟨Nat.lt_of_lt_of_le h1 e.size, e.cell h2 hx, e.cell h3 hx, ⟨z, e.cell h4 hx⟩, (e.frozen h1 hx).trans h5, (e.frozen h1 hx).trans h6⟩
theorem Row.ext {w w' : World} {X : List Nat} {k : IntKind} {A : Option Addr} {n c : Nat} {f : Nat → Int} (h : Row k w A n c f) (e : Ext X w w') (hx : ∀ b, blk A = some b → 0 < n → b ∉ X) : Row k w' A n c f :=
  ⟨h.1, h.2.1, h.2.2.1, fun hn => by
    obtain ⟨b, o, ea, h1, h2⟩ := h.2.2.2 hn
    exact ⟨b, o, ea, Nat.lt_of_lt_of_le h1 e.size, fun i hi => e.cell (h2 i hi) (hx b (by rw [ea]; rfl) hn)⟩⟩
theorem u8_bd {z : Int} (h : (Lit.int .u8 z).wf = true) : 0 ≤ z ∧ z ≤ 255 := Go.bounds_u8 h

theorem wrap_bd (x : Int) : 0 ≤ IntKind.u64.wrap x / 1099511627776 ∧ IntKind.u64.wrap x / 1099511627776 ≤ 18446744073709551615 := by
  obtain ⟨h1, h2⟩ := Go.bounds_u64 (Go.wf_wrap .u64 x)
  omega
theorem and_bd (x : Int) : 0 ≤ bits BinOp.and IntKind.u64 (IntKind.u64.wrap x / 1099511627776) 255 ∧ bits BinOp.and IntKind.u64 (IntKind.u64.wrap x / 1099511627776) 255 ≤ 255 := by
  obtain ⟨h1, h2⟩ := wrap_bd x
  have h := bits_and_u64_nat (IntKind.u64.wrap x / 1099511627776).toNat 255 (by omega) (by omega)
  rw [Int.toNat_of_nonneg h1] at h
  have h3 : bits BinOp.and IntKind.u64 (IntKind.u64.wrap x / 1099511627776) 255 = (((IntKind.u64.wrap x / 1099511627776).toNat &&& 255 : Nat) : Int) := h
  have h4 : (IntKind.u64.wrap x / 1099511627776).toNat &&& 255 ≤ 255 := Nat.and_le_right
  rw [h3]
  omega
theorem and_low (x : Int) : wrap64 (bits BinOp.and IntKind.u64 (IntKind.u64.wrap x / 1099511627776) 255) = bits BinOp.and IntKind.u64 (IntKind.u64.wrap x / 1099511627776) 255 := by
  obtain ⟨h1, h2⟩ := and_bd x
  unfold wrap64
  omega
theorem src_set {w : World} {s : Nat} {A : Option Addr} {n c : Nat} {k : Int} (hs : Src w s A n c k) (a b : Nat) (k' z' : Int) :
    Src ((((w.drewN a).setCell ⟨s, 1, none⟩ (.int .i64 k')).setCell ⟨s, 2, none⟩ (.int .u64 z')).drewN b) s A n c k' ∧ Ext [s] w ((((w.drewN a).setCell ⟨s, 1, none⟩ (.int .i64 k')).setCell ⟨s, 2, none⟩ (.int .u64 z')).drewN b) := by
  obtain ⟨h1, h2, h3, ⟨z, h4⟩, h5, h6⟩ := hs
  have e2 : (w.drewN a).cell? ⟨s, 0, none⟩ = some (.slice A n c) := h2
  have e3 : (w.drewN a).cell? ⟨s, 1, none⟩ = some (.int .i64 k) := h3
  have e4 : (w.drewN a).cell? ⟨s, 2, none⟩ = some (.int .u64 z) := h4
  refine ⟨⟨?_, ?_, ?_, ⟨z', ?_⟩, ?_, ?_⟩, ?_⟩
  · simpa using h1
  · show (((w.drewN a).setCell ⟨s, 1, none⟩ (.int .i64 k')).setCell ⟨s, 2, none⟩ (.int .u64 z')).cell? _ = _
    rw [World.cell?_setCell_other _ _ _ _ (fun h => by injection h; omega), World.cell?_setCell_other _ _ _ _ (fun h => by injection h; omega)]
    exact h2
  · show (((w.drewN a).setCell ⟨s, 1, none⟩ (.int .i64 k')).setCell ⟨s, 2, none⟩ (.int .u64 z')).cell? _ = _
    rw [World.cell?_setCell_other _ _ _ _ (fun h => by injection h; omega), World.cell?_setCell_same _ _ _ e3]
  · show (((w.drewN a).setCell ⟨s, 1, none⟩ (.int .i64 k')).setCell ⟨s, 2, none⟩ (.int .u64 z')).cell? _ = _
    refine World.cell?_setCell_same _ _ _ (u := .int .u64 z) ?_
    rw [World.cell?_setCell_other _ _ _ _ (fun h => by injection h; omega)]
    exact e4
  · show (((w.drewN a).setCell ⟨s, 1, none⟩ (.int .i64 k')).setCell ⟨s, 2, none⟩ (.int .u64 z')).frozen? _ = _
    rw [World.frozen?_setCell, World.frozen?_setCell]
    exact h5
  · show (((w.drewN a).setCell ⟨s, 1, none⟩ (.int .i64 k')).setCell ⟨s, 2, none⟩ (.int .u64 z')).frozen? _ = _
    rw [World.frozen?_setCell, World.frozen?_setCell]
    exact h6
  · exact (((Ext.drewN w a).trans (Ext.set _ _ _ (by simp))).trans (Ext.set _ _ _ (by simp))).trans (Ext.drewN _ b)
/-- l00From -/
def Begun (A : Option Addr) (n c : Nat) (w : World) (e : Ending) (w' : World) : Prop :=
  ∃ s, e = .returned (.pointer (some ⟨s, 0, none⟩)) ∧ w.heap.size ≤ s ∧ Src w' s A n c 0 ∧ Below w.heap.size w w'
end Go.Proofs.Ytajikegfladelaa.Base
