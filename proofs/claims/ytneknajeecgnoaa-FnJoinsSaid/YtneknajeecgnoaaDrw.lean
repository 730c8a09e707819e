/-
  The laws' drawn panels: l02Draw, A2Panel.
-/
import Derived.Test.YtneknajeecgnoaaSrc
import Derived.Test.YtneknajeecgnoaaShape
import Derived.Test.YtneknajeecgnoaaSetB
import Derived.IntWalk
namespace Go.Proofs.Ytneknajeecgnoaa.Base
open Go.RowKit
set_option linter.unusedVariables false
set_option linter.unusedSimpArgs false

theorem Ext.more {X Y : List Nat} {a b c : World} (h : Ext X a b) (k : Ext Y b c) (hY : ∀ y ∈ Y, a.heap.size ≤ y ∨ y ∈ X) : Ext X a c :=
  ⟨k.os.trans h.os, k.tape.trans h.tape, k.output.trans h.output, Nat.le_trans h.size k.size, fun i hi hx => (k.block i (Nat.lt_of_lt_of_le hi h.size) (fun hm => by
    rcases hY i hm with h' | h'
    · omega
    · exact hx h')).trans (h.block i hi hx)⟩
theorem OwnRow.ext {w w' : World} {X : List Nat} {base : Nat} {A : Option Addr} {n c : Nat} {f : Nat → Int} (h : OwnRow w base A n c f) (e : Ext X w w') (hx : ∀ b, blk A = some b → 0 < n → b ∉ X) : OwnRow w' base A n c f :=
  ⟨h.1, h.2.1, h.2.2.1, fun hn => by
    obtain ⟨b, o, ea, h0, h1, h2⟩ := h.2.2.2 hn
    have hb := hx b (by rw [ea]; rfl) hn
    exact ⟨b, o, ea, h0, Nat.lt_of_lt_of_le h1 e.size, fun i hi => ⟨e.cell (h2 i hi).1 hb, (e.frozen h1 hb).trans (h2 i hi).2⟩⟩⟩
/-- a drawn panel: valid, its row its own -/
def Drawn (s : Nat) (A0 : Option Addr) (n0 c0 : Nat) (k d : Int) (w : World) (e : Ending) (w' : World) : Prop :=
  ∃ (W H : Int) (A : Option Addr) (n c : Nat) (g : Nat → Int) (k' : Int), e = .returned (.agg #[.int .i64 W, .int .i64 H, .slice A n c]) ∧ sideB W = true ∧ sideB H = true ∧ W ≤ 5 ∧ H ≤ 5 ∧ (n : Int) = inner W H ∧ kindsB n g = true ∧
    OwnRow w' w.heap.size A n c g ∧ Src w' s A0 n0 c0 k' ∧ k ≤ k' ∧ k' ≤ k + d ∧ Ext [s] w w'

/-- what stands at the head of a round -/
def DrwAt (w : World) (s p6 t4 : Nat) (A0 : Option Addr) (n0 c0 : Nat) (k : Int) (W H : Int) (A : Option Addr) (n c base : Nat) (wr : World) (j : Nat) : Prop :=
  ∃ (g : Nat → Int) (k' : Int), OwnRow wr base A n c g ∧ (∀ i, i < n → 0 ≤ g i ∧ g i ≤ 2) ∧ Src wr s A0 n0 c0 k' ∧ k ≤ k' ∧ k' ≤ k + 6 + 4 * j ∧
    At wr p6 #[.int .i64 W, .int .i64 H, .slice A n c] 56 ∧ At wr t4 #[.int .i64 0, .int .i64 0, .slice none 0 0] 56 ∧ Ext [s] w wr
/-- A2Panel -/
def PanelDrawn (w : World) (e : Ending) (w' : World) : Prop :=
  ∃ (W H : Int) (A : Option Addr) (n c : Nat) (g : Nat → Int), e = .returned (.agg #[.int .i64 W, .int .i64 H, .slice A n c]) ∧ sideB W = true ∧ sideB H = true ∧ W ≤ 5 ∧ H ≤ 5 ∧ (n : Int) = inner W H ∧ kindsB n g = true ∧ OwnRow w' w.heap.size A n c g ∧ Below w.heap.size w w'
end Go.Proofs.Ytneknajeecgnoaa.Base
