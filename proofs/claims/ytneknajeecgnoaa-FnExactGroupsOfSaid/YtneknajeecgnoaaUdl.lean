/-
  Rows of one's own that are kept while other joined elements are marked.
-/
import Derived.Test.YtneknajeecgnoaaUdk
namespace Go.Proofs.Ytneknajeecgnoaa.Base
open Go Go.RowKit
set_option linter.unusedVariables false
theorem OwnRow.kept {w w' : World} {A B C : Option Addr} {n m q c base : Nat} {f : Nat → Int} (h : OwnRow w base C q c f) (k : KeepsJ w w' A n B m) (h1 : ∀ b, 0 < q → blk C = some b → 0 < n → blk A = some b → False) (h2 : ∀ b, 0 < q → blk C = some b → 0 < m → blk B = some b → False) : OwnRow w' base C q c f :=
  ⟨h.1, h.2.1, h.2.2.1, fun hn => by
    obtain ⟨b, o, e, hl, hb, hc⟩ := h.2.2.2 hn
    have eb : blk C = some b := by rw [e]; rfl
    have hk := k.2 b hb (h1 b hn eb) (h2 b hn eb)
    exact ⟨b, o, e, hl, Nat.lt_of_lt_of_le hb k.1, fun i hi => ⟨(World.cell?_of_block (a := ⟨b, o + i, none⟩) hk).trans (hc i hi).1, (World.frozen?_of_block (a := ⟨b, o + i, none⟩) hk).trans (hc i hi).2⟩⟩⟩
theorem OwnJ.kept {w w' : World} {A B C D : Option Addr} {n m q c r d base : Nat} {f g : Nat → Int} (h : OwnJ w base C q c f D r d g) (k : KeepsJ w w' A n B m)
    (h1 : ∀ b, base ≤ b → 0 < n → blk A = some b → False) (h2 : ∀ b, base ≤ b → 0 < m → blk B = some b → False) : OwnJ w' base C q c f D r d g :=
  ⟨h.1.kept k (fun b hq hb hn hA => h1 b (h.1.base_lt hq b hb).1 hn hA) (fun b hq hb hm hB => h2 b (h.1.base_lt hq b hb).1 hm hB),
   h.2.1.kept k (fun b hq hb hn hA => h1 b (h.2.1.base_lt hq b hb).1 hn hA) (fun b hq hb hm hB => h2 b (h.2.1.base_lt hq b hb).1 hm hB), h.2.2⟩
end Go.Proofs.Ytneknajeecgnoaa.Base
