/-
  Slices of walkers: rows of elements of several cells; the laws' equality, marks.
-/
import Derived.Test.YtbpdjmjkjiddjaaDoorWlkC
import Derived.Test.YtbpdjmjkjiddjaaDoorNum
import Derived.Test.YtbpdjmjkjiddjaaDoorClone
import Derived.Test.YtbpdjmjkjiddjaaDoorNew
import Derived.Test.YtbpdjmjkjiddjaaDoorMark
namespace Go.Proofs.YtbpdjmjkjiddjaaDoor.Base
open Go.RowKit
set_option linter.unusedVariables false
set_option linter.unusedSimpArgs false

/-- a slice of n elements of s integers each, in memory -/
def RowS (s : Nat) (w : World) (A : Option Addr) (n c : Nat) (f : Nat → Int) : Prop :=
  n ≤ c ∧ c ≤ maxLen ∧ (∀ i, i < n * s → (Lit.int .i64 (f i)).wf = true) ∧
  (0 < n → ∃ b o, A = some ⟨b, o, none⟩ ∧ b < w.heap.size ∧ ∀ i, i < n * s → w.cell? ⟨b, o + i, none⟩ = some (.int .i64 (f i)))
def OwnS (s : Nat) (w : World) (base : Nat) (A : Option Addr) (n c : Nat) (f : Nat → Int) : Prop :=
  n ≤ c ∧ c ≤ maxLen ∧ (∀ i, i < n * s → (Lit.int .i64 (f i)).wf = true) ∧
  (0 < n → ∃ b o, A = some ⟨b, o, none⟩ ∧ base ≤ b ∧ b < w.heap.size ∧ ∀ i, i < n * s → w.cell? ⟨b, o + i, none⟩ = some (.int .i64 (f i)) ∧ w.frozen? ⟨b, o + i, none⟩ = false)
section
variable {s : Nat} {w w' : World} {base : Nat} {A : Option Addr} {n c : Nat} {f : Nat → Int}
theorem OwnS.row (h : OwnS s w base A n c f) : RowS s w A n c f :=
  ⟨h.1, h.2.1, h.2.2.1, fun hn => by obtain ⟨b, o, e, _, hb, hc⟩ := h.2.2.2 hn; exact ⟨b, o, e, hb, fun i hi => (hc i hi).1⟩⟩
theorem RowS.below {B : Nat} (h : RowS s w A n c f) (hb : Below B w w') (hB : w.heap.size ≤ B) : RowS s w' A n c f :=
  ⟨h.1, h.2.1, h.2.2.1, fun hn => by
    obtain ⟨b, o, e, h1, h2⟩ := h.2.2.2 hn
    exact ⟨b, o, e, Nat.lt_of_lt_of_le h1 hb.size, fun i hi => (hb.cell (p := ⟨b, o + i, none⟩) (Nat.lt_of_lt_of_le h1 hB)).trans (h2 i hi)⟩⟩
theorem OwnS.below {B : Nat} (h : OwnS s w base A n c f) (hb : Below B w w') (hB : w.heap.size ≤ B) : OwnS s w' base A n c f :=
  ⟨h.1, h.2.1, h.2.2.1, fun hn => by
    obtain ⟨b, o, e, h0, h1, h2⟩ := h.2.2.2 hn
    exact ⟨b, o, e, h0, Nat.lt_of_lt_of_le h1 hb.size, fun i hi => ⟨(hb.cell (p := ⟨b, o + i, none⟩) (Nat.lt_of_lt_of_le h1 hB)).trans (h2 i hi).1, (hb.frozen (p := ⟨b, o + i, none⟩) (Nat.lt_of_lt_of_le h1 hB)).trans (h2 i hi).2⟩⟩⟩
end

end Go.Proofs.YtbpdjmjkjiddjaaDoor.Base

namespace Go.Proofs.YtbpdjmjkjiddjaaDoor.Base
open Go.RowKit
set_option linter.unusedVariables false
set_option linter.unusedSimpArgs false

/-- the cells of n elements of four, the first m of them marked from k on -/
def MkC (w : World) (b o n m : Nat) (k : Int) (f : Nat → Int) : Prop :=
  ∀ i, i < n * 4 → w.cell? ⟨b, o + i, none⟩ = some (.int .i64 (if i < m then k + i else f i)) ∧ w.frozen? ⟨b, o + i, none⟩ = false
theorem MkC.step {w : World} {b o n m : Nat} {k : Int} {f : Nat → Int} (h : MkC w b o n m k f) (hm : m < n * 4) {a : Nat} (ha : a = o + m) {v : Int} (hv : v = k + m) : MkC (w.setCell ⟨b, a, none⟩ (.int .i64 v)) b o n (m + 1) k f := fun i hi => by
  subst ha hv
  obtain ⟨c2, f2⟩ := h i hi
  refine ⟨?_, by rw [World.frozen?_setCell]; exact f2⟩
  by_cases e : i = m
  · subst e
    rw [World.cell?_setCell_same _ _ _ c2]
    simp
  · rw [World.cell?_setCell_other _ _ _ _ (fun h => e (by injection h; omega)), c2]
    by_cases h : i < m
    · rw [if_pos h, if_pos (by omega)]
    · rw [if_neg h, if_neg (by omega)]

def MarkedS (base : Nat) (A : Option Addr) (n c : Nat) (k : Int) (w : World) (e : Ending) (w' : World) : Prop :=
  e = .returned (.int .i64 (k + 4 * n)) ∧ OwnS 4 w' base A n c (fun i => k + i) ∧ ∃ r, w.grownBy w' r ∧ ∀ b, r = some b → 0 < n ∧ blk A = some b

theorem RowS.grownR {s : Nat} {w w' : World} {r : Option Nat} {A : Option Addr} {n c : Nat} {f : Nat → Int} (h : RowS s w A n c f) (g : w.grownBy w' r) (hne : ∀ b, 0 < n → blk A = some b → r = some b → False) : RowS s w' A n c f :=
  ⟨h.1, h.2.1, h.2.2.1, fun hn => by
    obtain ⟨b, o, e, h2, hc⟩ := h.2.2.2 hn
    have hb := g.block b h2 (fun e' => hne b hn (by rw [e]; rfl) e'.symm)
    exact ⟨b, o, e, Nat.lt_of_lt_of_le h2 g.size, fun i hi => (World.cell?_of_block (a := ⟨b, o + i, none⟩) hb).trans (hc i hi)⟩⟩
theorem OwnS.grownR {s : Nat} {w w' : World} {base : Nat} {r : Option Nat} {A : Option Addr} {n c : Nat} {f : Nat → Int} (h : OwnS s w base A n c f) (g : w.grownBy w' r) (hne : ∀ b, 0 < n → blk A = some b → r = some b → False) : OwnS s w' base A n c f :=
  ⟨h.1, h.2.1, h.2.2.1, fun hn => by
    obtain ⟨b, o, e, h1, h2, hc⟩ := h.2.2.2 hn
    have hb := g.block b h2 (fun e' => hne b hn (by rw [e]; rfl) e'.symm)
    exact ⟨b, o, e, h1, Nat.lt_of_lt_of_le h2 g.size, fun i hi => ⟨(World.cell?_of_block (a := ⟨b, o + i, none⟩) hb).trans (hc i hi).1, (World.frozen?_of_block (a := ⟨b, o + i, none⟩) hb).trans (hc i hi).2⟩⟩⟩
theorem RowS.blk_lt {s : Nat} {w : World} {A : Option Addr} {n c : Nat} {f : Nat → Int} (h : RowS s w A n c f) : 0 < n → ∀ b, blk A = some b → b < w.heap.size := fun hn b hb => by
  obtain ⟨b', o, e, h2, _⟩ := h.2.2.2 hn
  rw [e] at hb
  simp [blk] at hb
  omega
theorem OwnS.blk_ge {s : Nat} {w : World} {base : Nat} {A : Option Addr} {n c : Nat} {f : Nat → Int} (h : OwnS s w base A n c f) : 0 < n → ∀ b, blk A = some b → base ≤ b := fun hn b hb => by
  obtain ⟨b', o, e, h2, _⟩ := h.2.2.2 hn
  rw [e] at hb
  simp [blk] at hb
  omega
theorem markedS_below {w w' : World} {r : Option Nat} {B s base : Nat} {A : Option Addr} {n c : Nat} {f : Nat → Int} (h : w.grownBy w' r) (hr : ∀ b, r = some b → 0 < n ∧ blk A = some b) (ho : OwnS s w base A n c f) (hb : B ≤ base) (hs : base ≤ w.heap.size) : Below B w w' :=
  (Below.refl B w).grown h (Nat.le_trans hb hs) (fun b e => by
    obtain ⟨hn, hA⟩ := hr b e
    have := ho.blk_ge hn b hA
    omega)
/-- a list of n elements of s integers and a code, the list made from block base on -/
def ListOut (s n : Nat) (f : Nat → Int) (code : Int) (base : Nat) (w : World) (e : Ending) (w' : World) : Prop :=
  ∃ A c, e = .returned (.tuple #[.slice A n c, .int .i64 code]) ∧ OwnS s w' base A n c f ∧ Below base w w'
end Go.Proofs.YtbpdjmjkjiddjaaDoor.Base

namespace Go.Proofs.YtbpdjmjkjiddjaaDoor.Base
open Go Go.RowKit
set_option linter.unusedVariables false
set_option linter.unusedSimpArgs false
def ivs (l : List Int) : List Value := l.map (Value.int .i64)
/-- a row that the call owns is a slice of its length -/
theorem owns_slice {w : World} {base n s : Nat} {e : TypeId} {v : Value} {xs : List Value} (h : w.ownsRow base e s v n xs) : ∃ A c, v = .slice A n c := by
  rcases h.2 with ⟨rfl, rfl⟩ | ⟨g, cap, cur, rfl, _⟩
  · exact ⟨none, 0, rfl⟩
  · exact ⟨_, cap, rfl⟩
theorem owns_belowS {wr wa : World} {base n s : Nat} {e : TypeId} {v : Value} {xs : List Value} (h : wr.ownsRow base e s v n xs) (hb : Below wr.heap.size wr wa) : wa.ownsRow base e s v n xs :=
  h.kept (grown_of_below (r := none) hb) (by by_cases e : v.ownBlock = none <;> simp [e])
/-- an own row of integers is a list for the laws -/
theorem ownS_ivs {w : World} {base base' : Nat} {A : Option Addr} {n c : Nat} {T : TypeId} {l : List Int} {g : Nat → Int} (h : w.ownsRow base T 1 (.slice A n c) n (ivs l)) (hg : ∀ i, i < n → (ivs l)[i]? = some (.int .i64 (g i))) (hw : ∀ i, i < n → (Lit.int .i64 (g i)).wf = true) (hb : base' ≤ base) (hn : n ≤ maxLen) : OwnS 1 w base' A n c g := by
  have hl : l.length = n := by have := h.1; simpa [ivs] using this
  rcases h.2 with ⟨e, rfl⟩ | ⟨b, cap, cur, e, hb', hgb, hnc, hcm, hcs, ht⟩
  · cases e
    exact ⟨Nat.le_refl _, Nat.zero_le _, fun i hi => by omega, fun h => absurd h (by omega)⟩
  · cases e
    refine ⟨hnc, hcm, fun i hi => hw i (by omega), fun hn' => ⟨b, 0, rfl, by omega, (Array.getElem?_eq_some_iff.1 hgb).1, fun i hi => ⟨?_, ?_⟩⟩⟩
    · rw [Nat.zero_add, h.cellAt i hi]
      exact hg i (by omega)
    · rw [Nat.zero_add]
      exact h.frozenAt i

theorem ownS_one {w : World} {base : Nat} {A : Option Addr} {n c : Nat} {f : Nat → Int} : OwnS 1 w base A n c f ↔ OwnRow w base A n c f := by
  unfold OwnS OwnRow
  simp only [Nat.mul_one]
theorem rowS_one {w : World} {A : Option Addr} {n c : Nat} {f : Nat → Int} : RowS 1 w A n c f ↔ Row .i64 w A n c f := by
  unfold RowS Row
  simp only [Nat.mul_one]
theorem eqI64_same (w : World) (A A' : Option Addr) (n c c' : Nat) (f : Nat → Int) (hr : RowS 1 w A n c f) (hr' : RowS 1 w A' n c' f) :
    Calls Tryd.prog 59 #[.slice A n c, .slice A' n c'] w (Gives (.bool true) w) :=
  (eqInts_same w A A' n c c' f (rowS_one.1 hr) (rowS_one.1 hr')).mono fun e w' ⟨m, he, hw⟩ => ⟨he, by rw [hw]; exact below_drewN (Below.refl _ _) m⟩
def MarkedI (base : Nat) (A : Option Addr) (n c : Nat) (k : Int) (w : World) (e : Ending) (w' : World) : Prop :=
  e = .returned (.int .i64 (k + n)) ∧ OwnS 1 w' base A n c (fun i => k + i) ∧ ∃ r, w.grownBy w' r ∧ ∀ b, r = some b → 0 < n ∧ blk A = some b
theorem markI64_any (w : World) (base : Nat) (A : Option Addr) (n c : Nat) (f : Nat → Int) (k : Int) (hr : OwnS 1 w base A n c f) (k0 : 0 ≤ k) (k1 : k + n ≤ 9223372036854775807) :
    Calls Tryd.prog 60 #[.slice A n c, .int .i64 k] w (MarkedI base A n c k w) :=
  (mark_any w base A n c f k (ownS_one.1 hr) k0 k1).mono fun e w' ⟨h1, h2, h3⟩ => ⟨h1, ownS_one.2 h2, h3⟩
/-- a row of integers that the call has made -/
theorem ownS_row {w : World} {base b n : Nat} {T : TypeId} {g : Nat → Int} (h : w.rowIs b T n (fun i => .int .i64 (g i))) (hn : n ≤ maxLen) (hw : ∀ i, i < n → (Lit.int .i64 (g i)).wf = true) (hb : base ≤ b) : OwnS 1 w base (some ⟨b, 0, none⟩) n n g :=
  ownS_one.2 (ownRow_of h hn hw hb)
theorem ownS_nil (s : Nat) (w : World) (base : Nat) (f : Nat → Int) : OwnS s w base none 0 0 f := ⟨Nat.le_refl _, Nat.zero_le _, fun i hi => by omega, fun h => absurd h (by omega)⟩

end Go.Proofs.YtbpdjmjkjiddjaaDoor.Base
