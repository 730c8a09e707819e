/-
  The laws' marks of slices of walkers.
-/
import Derived.Test.YtdofeonkgaceeaaDoorWls
namespace Go.Proofs.YtdofeonkgaceeaaDoor.Base
open Go.RowKit
set_option linter.unusedVariables false
set_option linter.unusedSimpArgs false

/-- the cells of n elements of four, the first m of them marked from k on -/
def MkC (w : World) (b o n m : Nat) (k : Int) (f : Nat → Int) : Prop :=
  ∀ i, i < n * 4 → w.cell? ⟨b, o + i, none⟩ = some (.int .i64 (if i < m then k + i else f i)) ∧ w.frozen? ⟨b, o + i, none⟩ = false
theorem MkC.step {w : World} {b o n m : Nat} {k : Int} {f : Nat → Int} (h : MkC w b o n m k f) (hm : m < n * 4) {a : Nat} (ha : a = o + m) {v : Int} (hv : v = k + m) : MkC (w.setCell ⟨b, a, none⟩ (.int .i64 v)) b o n (m + 1) k f := fun i hi => by
  subst ha hv
  obtain ⟨c2, f2⟩ := h i hi
  refine ⟨?_, by rw [World.frozen?_setCell]; exact f2⟩
  by_cases e : i = m
  · subst e
    rw [World.cell?_setCell_same _ _ _ c2]
    simp
  · rw [World.cell?_setCell_other _ _ _ _ (fun h => e (by injection h; omega)), c2]
    by_cases h : i < m
    · rw [if_pos h, if_pos (by omega)]
    · rw [if_neg h, if_neg (by omega)]

def MarkedS (base : Nat) (A : Option Addr) (n c : Nat) (k : Int) (w : World) (e : Ending) (w' : World) : Prop :=
  e = .returned (.int .i64 (k + 4 * n)) ∧ OwnS 4 w' base A n c (fun i => k + i) ∧ ∃ r, w.grownBy w' r ∧ ∀ b, r = some b → 0 < n ∧ blk A = some b

theorem RowS.grownR {s : Nat} {w w' : World} {r : Option Nat} {A : Option Addr} {n c : Nat} {f : Nat → Int} (h : RowS s w A n c f) (g : w.grownBy w' r) (hne : ∀ b, 0 < n → blk A = some b → r = some b → False) : RowS s w' A n c f :=
  ⟨h.1, h.2.1, h.2.2.1, fun hn => by
    obtain ⟨b, o, e, h2, hc⟩ := h.2.2.2 hn
    have hb := g.block b h2 (fun e' => hne b hn (by rw [e]; rfl) e'.symm)
    exact ⟨b, o, e, Nat.lt_of_lt_of_le h2 g.size, fun i hi => (World.cell?_of_block (a := ⟨b, o + i, none⟩) hb).trans (hc i hi)⟩⟩
theorem OwnS.grownR {s : Nat} {w w' : World} {base : Nat} {r : Option Nat} {A : Option Addr} {n c : Nat} {f : Nat → Int} (h : OwnS s w base A n c f) (g : w.grownBy w' r) (hne : ∀ b, 0 < n → blk A = some b → r = some b → False) : OwnS s w' base A n c f :=
  ⟨h.1, h.2.1, h.2.2.1, fun hn => by
    obtain ⟨b, o, e, h1, h2, hc⟩ := h.2.2.2 hn
    have hb := g.block b h2 (fun e' => hne b hn (by rw [e]; rfl) e'.symm)
    exact ⟨b, o, e, h1, Nat.lt_of_lt_of_le h2 g.size, fun i hi => ⟨(World.cell?_of_block (a := ⟨b, o + i, none⟩) hb).trans (hc i hi).1, (World.frozen?_of_block (a := ⟨b, o + i, none⟩) hb).trans (hc i hi).2⟩⟩⟩
theorem RowS.blk_lt {s : Nat} {w : World} {A : Option Addr} {n c : Nat} {f : Nat → Int} (h : RowS s w A n c f) : 0 < n → ∀ b, blk A = some b → b < w.heap.size := fun hn b hb => by
  obtain ⟨b', o, e, h2, _⟩ := h.2.2.2 hn
  rw [e] at hb
  simp [blk] at hb
  omega
theorem OwnS.blk_ge {s : Nat} {w : World} {base : Nat} {A : Option Addr} {n c : Nat} {f : Nat → Int} (h : OwnS s w base A n c f) : 0 < n → ∀ b, blk A = some b → base ≤ b := fun hn b hb => by
  obtain ⟨b', o, e, h2, _⟩ := h.2.2.2 hn
  rw [e] at hb
  simp [blk] at hb
  omega
theorem markedS_below {w w' : World} {r : Option Nat} {B s base : Nat} {A : Option Addr} {n c : Nat} {f : Nat → Int} (h : w.grownBy w' r) (hr : ∀ b, r = some b → 0 < n ∧ blk A = some b) (ho : OwnS s w base A n c f) (hb : B ≤ base) (hs : base ≤ w.heap.size) : Below B w w' :=
  (Below.refl B w).grown h (Nat.le_trans hb hs) (fun b e => by
    obtain ⟨hn, hA⟩ := hr b e
    have := ho.blk_ge hn b hA
    omega)
/-- a list of n elements of s integers and a code, the list made from block base on -/
def ListOut (s n : Nat) (f : Nat → Int) (code : Int) (base : Nat) (w : World) (e : Ending) (w' : World) : Prop :=
  ∃ A c, e = .returned (.tuple #[.slice A n c, .int .i64 code]) ∧ OwnS s w' base A n c f ∧ Below base w w'
end Go.Proofs.YtdofeonkgaceeaaDoor.Base
