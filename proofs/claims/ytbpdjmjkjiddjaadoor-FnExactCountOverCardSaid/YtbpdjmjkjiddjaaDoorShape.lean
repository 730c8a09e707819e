/-
  Opening a struct with a struct inside; the cells of a block; what stood reads as it did.
-/
import Derived.Test.YtbpdjmjkjiddjaaDoorPan
import Derived.Test.YtbpdjmjkjiddjaaDoorHeap
import Derived.Lib.SmallJoins
import Derived.ChangeSame
namespace Go.Proofs.YtbpdjmjkjiddjaaDoor.Base
open Go.RowKit
open Go.Joins Go.ChangeShapes Go.WideShapes
set_option linter.unusedVariables false

theorem open_walker {H : Type} {enc : TypeId × Value → H} {P : Program} {w : World} {base : Nat} {spare : Nat → Bool} {held : Bool} {r : Reach} {b0 : Nat} {t : TypeId} {f0 f1 f2 g0 g1 : Field} {v : Value} {d : DataW H} {p : List MemPlace}
    (hs : P.underlying t = some (.struct #[f0, f1, f2])) (hp : P.underlying f0.type = some (.struct #[g0, g1])) (hi0 : P.underlying g0.type = some (.int .i64)) (hi1 : P.underlying g1.type = some (.int .i64)) (hi2 : P.underlying f1.type = some (.int .i64)) (hi3 : P.underlying f2.type = some (.int .i64))
    (ho : (f0.offset, f1.offset, f2.offset, g0.offset, g1.offset) = (0, 2, 3, 0, 1)) (hc : (P.cellsOf t, P.cellsOf f0.type, P.cellsOf f1.type, P.cellsOf f2.type, P.cellsOf g0.type, P.cellsOf g1.type) = (4, 2, 1, 1, 1, 1))
    (hv : Value.okWide P w r b0 t v) (h : DataW.Trod enc P w base spare held t v d p) :
    ∃ x y dx dy : Int, v = .agg #[.int .i64 x, .int .i64 y, .int .i64 dx, .int .i64 dy] ∧ (Lit.int .i64 x).wf = true ∧ (Lit.int .i64 y).wf = true ∧ (Lit.int .i64 dx).wf = true ∧ (Lit.int .i64 dy).wf = true := by
  simp only [Prod.mk.injEq] at ho hc
  obtain ⟨o0, o1, o2, o3, o4⟩ := ho
  obtain ⟨c0, c1, c2, c3, c4, c5⟩ := hc
  obtain ⟨cs, rfl, hsz⟩ := okWide_struct hs hv
  obtain ⟨l⟩ := cs
  match l, hsz.trans c0 with
  | [a, b, c, e], _ =>
    obtain ⟨fuel, hf⟩ := h
    obtain ⟨xs, n, _, -, _, hlen, hg⟩ := DataW.trod_struct hs hf
    match xs, hlen with
    | [y0, y1, y2], _ =>
      have h0 := hg 0 f0 rfl
      have h1 := hg 1 f1 rfl
      have h2 := hg 2 f2 rfl
      rw [o0, c1] at h0
      rw [o1, c2] at h1
      rw [o2, c3] at h2
      simp only [Value.cells, List.drop_zero, List.take_succ_cons, List.take_zero, List.drop_succ_cons, List.getElem?_cons_zero, List.getElem?_cons_succ] at h0 h1 h2
      obtain ⟨xs', n', _, -, _, hlen', hg'⟩ := DataW.trod_struct hp h0
      match xs', hlen' with
      | [z0, z1], _ =>
        have q0 := hg' 0 g0 rfl
        have q1 := hg' 1 g1 rfl
        rw [o3, c4] at q0
        rw [o4, c5] at q1
        simp only [List.drop_zero, List.take_succ_cons, List.take_zero, List.drop_succ_cons, List.getElem?_cons_zero, List.getElem?_cons_succ] at q0 q1
        obtain ⟨x, e0, -, w0⟩ := DataW.trod_int hi0 q0
        obtain ⟨y, e1, -, w1⟩ := DataW.trod_int hi1 q1
        obtain ⟨dx, e2, -, w2⟩ := DataW.trod_int hi2 h1
        obtain ⟨dy, e3, -, w3⟩ := DataW.trod_int hi3 h2
        simp at e0 e1 e2 e3
        subst e0 e1 e2 e3
        exact ⟨x, y, dx, dy, rfl, w0, w1, w2, w3⟩

/-- block p holds these cells -/
def Cel (w : World) (p : Nat) (cs : List Value) : Prop := p < w.heap.size ∧ ∀ i v, cs[i]? = some v → w.cell? ⟨p, i, none⟩ = some v
theorem Cel.below {w w' : World} {p B : Nat} {cs : List Value} (h : Cel w p cs) (hb : Below B w w') (hB : p < B) : Cel w' p cs :=
  ⟨Nat.lt_of_lt_of_le h.1 hb.size, fun i v hv => (hb.cell (p := ⟨p, i, none⟩) hB).trans (h.2 i v hv)⟩
theorem Cel.new (w : World) (cs : List Value) (t : TypeId) : Cel (w.alloc (.cells cs.toArray t)) w.heap.size cs :=
  ⟨by simp, fun i v hv => by
    have h := heap_alloc_new w (.cells cs.toArray t)
    unfold World.cell?
    rw [h]
    simpa using hv⟩
theorem Cel.of_at {w : World} {p : Nat} {cs : List Value} {T : TypeId} (h : At w p cs.toArray T) : Cel w p cs := ⟨h.lt, fun i v hv => by rw [h.cell]; simpa using hv⟩
theorem Row.old {k : IntKind} {W w' : World} {A : Option Addr} {n c : Nat} {f : Nat → Int} (h : Row k W A n c f) (hS : (∀ b o, b < W.heap.size → w'.cell? ⟨b, o, none⟩ = W.cell? ⟨b, o, none⟩) ∧ Below W.heap.size W w') : Row k w' A n c f := h.below hS.2 (Nat.le_refl _)
/-- all that stood in W reads as it did -/
def Old (W w' : World) : Prop := (∀ b o, b < W.heap.size → w'.cell? ⟨b, o, none⟩ = W.cell? ⟨b, o, none⟩) ∧ Below W.heap.size W w'
theorem Old.mk_ {W w' : World} (h : Below W.heap.size W w') : Old W w' := ⟨(bcell h).1, h⟩
theorem Old.trans {W w1 w2 : World} (h : Old W w1) (b : Below w1.heap.size w1 w2) : Old W w2 := .mk_ (h.2.trans (b.mono h.2.size))
theorem Old.set {W w1 : World} (h : Old W w1) {a : Addr} (hp : W.heap.size ≤ a.block) {v : Value} : Old W (w1.setCell a v) := .mk_ (h.2.setCell hp v)
theorem Cel.ext0 {w w' : World} {p : Nat} {cs : List Value} (h : Cel w p cs) (e : Ext [] w w') : Cel w' p cs := h.below e.nil h.1
theorem Cel.old {W w' : World} {p : Nat} {cs : List Value} (h : Cel W p cs) (hS : (∀ b o, b < W.heap.size → w'.cell? ⟨b, o, none⟩ = W.cell? ⟨b, o, none⟩) ∧ Below W.heap.size W w') : Cel w' p cs := h.below hS.2 h.1
theorem Cel.grownR {w w' : World} {r : Option Nat} {p : Nat} {cs : List Value} (h : Cel w p cs) (g : w.grownBy w' r) (hne : r = some p → False) : Cel w' p cs := by
  have hb := g.block p h.1 (fun e => hne e.symm)
  exact ⟨Nat.lt_of_lt_of_le h.1 g.size, fun i v hv => (World.cell?_of_block (a := ⟨p, i, none⟩) hb).trans (h.2 i v hv)⟩
theorem Row.grownR {k : IntKind} {w w' : World} {r : Option Nat} {A : Option Addr} {n c : Nat} {f : Nat → Int} (h : Row k w A n c f) (g : w.grownBy w' r) (hne : ∀ b, 0 < n → blk A = some b → r = some b → False) : Row k w' A n c f :=
  ⟨h.1, h.2.1, h.2.2.1, fun hn => by
    obtain ⟨b, o, e, h2, hc⟩ := h.2.2.2 hn
    have hb := g.block b h2 (fun e' => hne b hn (by rw [e]; rfl) e'.symm)
    exact ⟨b, o, e, Nat.lt_of_lt_of_le h2 g.size, fun i hi => (World.cell?_of_block (a := ⟨b, o + i, none⟩) hb).trans (hc i hi)⟩⟩
theorem OwnRow.grownR {w w' : World} {base : Nat} {r : Option Nat} {A : Option Addr} {n c : Nat} {f : Nat → Int} (h : OwnRow w base A n c f) (g : w.grownBy w' r) (hne : ∀ b, 0 < n → blk A = some b → r = some b → False) : OwnRow w' base A n c f :=
  ⟨h.1, h.2.1, h.2.2.1, fun hn => by
    obtain ⟨b, o, e, h1, h2, hc⟩ := h.2.2.2 hn
    have hb := g.block b h2 (fun e' => hne b hn (by rw [e]; rfl) e'.symm)
    exact ⟨b, o, e, h1, Nat.lt_of_lt_of_le h2 g.size, fun i hi => ⟨(World.cell?_of_block (a := ⟨b, o + i, none⟩) hb).trans (hc i hi).1, (World.frozen?_of_block (a := ⟨b, o + i, none⟩) hb).trans (hc i hi).2⟩⟩⟩
theorem row_blk {k : IntKind} {w : World} {A : Option Addr} {n c : Nat} {f : Nat → Int} (h : Row k w A n c f) : 0 < n → ∀ b, blk A = some b → b < w.heap.size := fun hn b hb => by
  obtain ⟨b', o, e, h2, _⟩ := h.2.2.2 hn
  rw [e] at hb
  simp [blk] at hb
  omega
theorem ownIn_blk {w : World} {B lo hi p q : Nat} {A : Option Addr} {n c : Nat} {f : Nat → Int} (h : OwnIn w lo hi A n c f) (hB : B ≤ lo) (hs : hi ≤ p ∨ q ≤ lo) (hpq : p < q) : 0 < n → ∀ b, blk A = some b → B ≤ b ∧ b < w.heap.size ∧ b ≠ p := fun hn b hb => by
  obtain ⟨b', o, e, h1, h2, h3, _⟩ := h.2.2.2 hn
  rw [e] at hb
  simp [blk] at hb
  omega
theorem OwnRow.base_lt {w : World} {base : Nat} {A : Option Addr} {n c : Nat} {f : Nat → Int} (h : OwnRow w base A n c f) : 0 < n → ∀ b, blk A = some b → base ≤ b ∧ b < w.heap.size := fun hn b hb => by
  obtain ⟨b', h1, h2, h3⟩ := h.base_le hn
  rw [hb] at h1
  injection h1 with h1
  subst h1
  exact ⟨h2, h3⟩
end Go.Proofs.YtbpdjmjkjiddjaaDoor.Base
