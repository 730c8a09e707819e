/-
  UndoJoin, the model's and the program's.
-/
import Derived.Test.YtpkajonnopmciaaUdj
namespace Go.Proofs.Ytpkajonnopmciaa.Base
open Go Go.RowKit
set_option linter.unusedVariables false
set_option linter.unusedSimpArgs false

theorem udj_boxes {w w1 : World} {A B : Option Addr} {n c m d : Nat} (b1 : Below ((w.alloc (.cells #[.slice A n c, .slice B m d] 59)).alloc (.cells #[.slice none 0 0, .slice none 0 0] 59)).heap.size ((w.alloc (.cells #[.slice A n c, .slice B m d] 59)).alloc (.cells #[.slice none 0 0, .slice none 0 0] 59)) w1) :
    Cel w1 w.heap.size [.slice A n c, .slice B m d] ∧ At w1 (w.heap.size + 1) #[.slice none 0 0, .slice none 0 0] 59 ∧ Below w.heap.size w w1 := by
  have h0 := ((Cel.new w [.slice A n c, .slice B m d] 59).below ((Below.refl _ _).alloc (Nat.le_refl _) (.cells #[.slice none 0 0, .slice none 0 0] 59)) (by simp)).below b1 (by simp; omega)
  have h1 := (At.new (w.alloc (.cells #[.slice A n c, .slice B m d] 59)) #[.slice none 0 0, .slice none 0 0] 59).below b1 (by simp)
  rw [World.size_alloc] at h1
  exact ⟨h0, h1, (((Below.refl w.heap.size w).alloc (Nat.le_refl _) (.cells #[.slice A n c, .slice B m d] 59)).alloc (by simp) (.cells #[.slice none 0 0, .slice none 0 0] 59)).trans (b1.mono (by simp; omega))⟩
theorem udj_cel (w : World) (A B : Option Addr) (n c m d : Nat) : Cel ((w.alloc (.cells #[.slice A n c, .slice B m d] 59)).alloc (.cells #[.slice none 0 0, .slice none 0 0] 59)) w.heap.size [.slice A n c, .slice B m d] := (Cel.new w [.slice A n c, .slice B m d] 59).below ((Below.refl _ _).alloc (Nat.le_refl _) (.cells #[.slice none 0 0, .slice none 0 0] 59)) (by simp)
theorem udj_bel (w : World) (A B : Option Addr) (n c m d : Nat) : Below w.heap.size w ((w.alloc (.cells #[.slice A n c, .slice B m d] 59)).alloc (.cells #[.slice none 0 0, .slice none 0 0] 59)) := ((Below.refl w.heap.size w).alloc (Nat.le_refl _) (.cells #[.slice A n c, .slice B m d] 59)).alloc (by simp) (.cells #[.slice none 0 0, .slice none 0 0] 59)
theorem OwnRow.setNe {w : World} {base b o n c : Nat} {f : Nat → Int} (h : OwnRow w base (some ⟨b, o, none⟩) n c f) {a i : Nat} (hne : a ≠ b) (v : Value) : OwnRow (w.setCell ⟨a, i, none⟩ v) base (some ⟨b, o, none⟩) n c f :=
  ⟨h.1, h.2.1, h.2.2.1, fun hn => by
    obtain ⟨b', o', e, h1, h2, hc⟩ := h.2.2.2 hn
    injection e with e
    injection e with e1 e2 e3
    subst e1 e2
    refine ⟨b, o, rfl, h1, by simpa [World.setCell] using h2, fun j hj => ⟨?_, ?_⟩⟩
    · rw [World.cell?_setCell_other _ _ _ _ (fun e => by injection e; omega)]
      exact (hc j hj).1
    · rw [World.frozen?_setCell]
      exact (hc j hj).2⟩
theorem OwnRow.pre {w : World} {base n c k : Nat} {A : Option Addr} {f : Nat → Int} (h : OwnRow w base A n c f) (hk : k ≤ n) : OwnRow w base A k c f :=
  ⟨Nat.le_trans hk h.1, h.2.1, fun i hi => h.2.2.1 i (by omega), fun hn => by
    obtain ⟨b, o, e, h1, h2, hc⟩ := h.2.2.2 (by omega)
    exact ⟨b, o, e, h1, h2, fun j hj => hc j (by omega)⟩⟩
theorem Row.setNe {w : World} {b o n c : Nat} {f : Nat → Int} (h : Row .i64 w (some ⟨b, o, none⟩) n c f) {a i : Nat} (hne : a ≠ b) (v : Value) : Row .i64 (w.setCell ⟨a, i, none⟩ v) (some ⟨b, o, none⟩) n c f :=
  ⟨h.1, h.2.1, h.2.2.1, fun hn => by
    obtain ⟨b', o', e, h2, hc⟩ := h.2.2.2 hn
    injection e with e
    injection e with e1 e2 e3
    subst e1 e2
    refine ⟨b, o, rfl, by simpa [World.setCell] using h2, fun j hj => ?_⟩
    rw [World.cell?_setCell_other _ _ _ _ (fun e => by injection e; omega)]
    exact hc j hj⟩
theorem Row.pre {w : World} {n c k : Nat} {A : Option Addr} {f : Nat → Int} (h : Row .i64 w A n c f) (hk : k ≤ n) : Row .i64 w A k c f :=
  ⟨Nat.le_trans hk h.1, h.2.1, fun i hi => h.2.2.1 i (by omega), fun hn => by
    obtain ⟨b, o, e, h2, hc⟩ := h.2.2.2 (by omega)
    exact ⟨b, o, e, h2, fun j hj => hc j (by omega)⟩⟩
theorem Cel.setNe {w : World} {p b i : Nat} {cs : List Value} (h : Cel w p cs) (hb : b ≠ p) (v : Value) : Cel (w.setCell ⟨b, i, none⟩ v) p cs :=
  ⟨by simpa [World.setCell] using h.1, fun j u hu => by rw [World.cell?_setCell_other _ _ _ _ (fun e => hb (by injection e))]; exact h.2 j u hu⟩
/-- what stands behind the store into the copy of the parents -/
def UdS (w w1 : World) (A : Option Addr) (n c : Nat) (b1 o1 m d : Nat) (g : Nat → Int) (a1 p1 c1 : Nat) (f : Nat → Int) (X : World) : Prop :=
  Below w.heap.size w X ∧ At X (w.heap.size + 1) #[.slice none 0 0, .slice none 0 0] 59 ∧ Cel X w.heap.size [.slice A n c, .slice (some ⟨b1, o1, none⟩) (m + 1) d] ∧ Row .i64 X (some ⟨b1, o1, none⟩) m d g ∧ OwnRow X w1.heap.size (some ⟨a1, p1, none⟩) n c1 f
theorem ownRow_nilU {w : World} {base : Nat} {A : Option Addr} {f : Nat → Int} : OwnRow w base A 0 0 f := ⟨Nat.le_refl _, by unfold maxLen; omega, fun i hi => absurd hi (Nat.not_lt_zero _), fun h => absurd h (Nat.lt_irrefl _)⟩
end Go.Proofs.Ytpkajonnopmciaa.Base
