/-
  NewPanel, spec's and the program's.
-/
import Derived.Test.YtbpdjmjkjiddjaaDoorMark
namespace Go.Proofs.YtbpdjmjkjiddjaaDoor.Base
open Go.RowKit
set_option linter.unusedVariables false

/-- the post of a function that returns a panel of its own and a code -/
def PanelOut (W H : Int) (n : Nat) (f : Nat → Int) (code : Int) (w : World) (e : Ending) (w' : World) : Prop :=
  ∃ A c, e = .returned (.tuple #[.agg #[.int .i64 W, .int .i64 H, .slice A n c], .int .i64 code]) ∧ OwnRow w' w.heap.size A n c f ∧ Below w.heap.size w w'
def PanelMade (W H : Int) (n : Nat) (f : Nat → Int) (w : World) (e : Ending) (w' : World) : Prop :=
  ∃ A c, e = .returned (.agg #[.int .i64 W, .int .i64 H, .slice A n c]) ∧ OwnRow w' w.heap.size A n c f ∧ Below w.heap.size w w'
theorem ownRow_nil (w : World) (base : Nat) (f : Nat → Int) : OwnRow w base none 0 0 f := ⟨Nat.le_refl _, by unfold maxLen; omega, fun i hi => absurd hi (Nat.not_lt_zero _), fun h => absurd h (Nat.lt_irrefl _)⟩
theorem ownRow_of {w : World} {T : TypeId} {b base n : Nat} {f : Nat → Int} (h : w.rowIs b T n (fun i => .int .i64 (f i))) (hm : n ≤ maxLen) (hw : ∀ i, i < n → (Lit.int .i64 (f i)).wf = true) (hb : base ≤ b) : OwnRow w base (some ⟨b, 0, none⟩) n n f :=
  ⟨Nat.le_refl _, hm, hw, fun _ => ⟨b, 0, rfl, hb, h.lt, fun i hi => by rw [Nat.zero_add]; exact ⟨h.cell hi, h.frozen i⟩⟩⟩
theorem inner_bd' {W H : Int} (hW : sideB W = true) (hH : sideB H = true) : 0 ≤ inner W H ∧ inner W H ≤ 112 := by
  obtain ⟨a1, a2⟩ := side_mk hW
  obtain ⟨b1, b2⟩ := side_mk hH
  unfold inner
  have p1 : 0 ≤ W * (H - 1) := Int.mul_nonneg (by omega) (by omega)
  have p2 : W * (H - 1) ≤ 8 * 7 := Int.mul_le_mul (by omega) (by omega) (by omega) (by omega)
  have q1 : 0 ≤ H * (W - 1) := Int.mul_nonneg (by omega) (by omega)
  have q2 : H * (W - 1) ≤ 8 * 7 := Int.mul_le_mul (by omega) (by omega) (by omega) (by omega)
  omega

theorem specNew (w : World) (W H : Int) (n : Nat) (hW : sideB W = true) (hH : sideB H = true) (hn : (n : Int) = inner W H) :
    Calls Tryd.prog 100 #[.int .i64 W, .int .i64 H] w (PanelMade W H n (fun _ => 0) w) := by
  obtain ⟨i1, i2⟩ := inner_bd' hW hH
  have hn20 : n ≤ 112 := by omega
  have hcall := inner_any W H hW hH (w.alloc (.cells #[.int .i64 0, .int .i64 0, .slice none 0 0] 35))
  rw [← hn] at hcall
  have HC := Lib.hid hcall
  have hmk := run_make_row' (P := Tryd.prog) 29 2 (.int .i64 0) 8 Tryd.underlying29 infoI64 rfl .i64 .i64 n (by omega) (by omega)
  clear hcall hn i1 i2
  go_enter Tryd.func100, Tryd.ntmps100
  go_wp2_with fail
  refine HC.out.mono ?_
  rintro e w1 ⟨rfl, rfl⟩
  go_wp2
  refine bodyPost_ret ?_ rfl ⟨some ⟨w.heap.size + 1, 0, none⟩, n, rfl, ownRow_of (T := 2) ?_ (by unfold maxLen; omega) (fun i hi => rfl) (by omega), ?_⟩
  · simp [results, Tryd.results100, go_sem]
  · have h := World.rowIs_made (w.alloc (.cells #[.int .i64 W, .int .i64 H, .slice (some ⟨w.heap.size + 1, 0, none⟩) n n] 35)) (.int .i64 0) n 2
    rwa [World.size_alloc] at h
  · go_grown

/-- a result panel's box of three cells, before it is written -/
theorem out_cells {w w1 : World} {t : TypeId} (b1 : Below (w.alloc (.cells #[.int .i64 0, .int .i64 0, .slice none 0 0] t)).heap.size (w.alloc (.cells #[.int .i64 0, .int .i64 0, .slice none 0 0] t)) w1) :
    w1.cell? ⟨w.heap.size, 0, none⟩ = some (.int .i64 0) ∧ w1.cell? ⟨w.heap.size, 1, none⟩ = some (.int .i64 0) ∧ w1.cell? ⟨w.heap.size, 2, none⟩ = some (.slice none 0 0) ∧
    w1.frozen? ⟨w.heap.size, 0, none⟩ = false ∧ w1.frozen? ⟨w.heap.size, 1, none⟩ = false ∧ w1.frozen? ⟨w.heap.size, 2, none⟩ = false ∧ Below w.heap.size w w1 ∧ w.heap.size < w1.heap.size :=
  ⟨by rw [b1.cell (p := ⟨w.heap.size, 0, none⟩) (by simp)]; simp [go_sem], by rw [b1.cell (p := ⟨w.heap.size, 1, none⟩) (by simp)]; simp [go_sem], by rw [b1.cell (p := ⟨w.heap.size, 2, none⟩) (by simp)]; simp [go_sem],
   by rw [b1.frozen (p := ⟨w.heap.size, 0, none⟩) (by simp)]; simp [go_sem], by rw [b1.frozen (p := ⟨w.heap.size, 1, none⟩) (by simp)]; simp [go_sem], by rw [b1.frozen (p := ⟨w.heap.size, 2, none⟩) (by simp)]; simp [go_sem],
   ((Below.refl _ _).alloc (Nat.le_refl _) _).trans (b1.mono (by simp)), by have := b1.size; simp at this; omega⟩
/-- writing the result's box does not touch a row that was made later -/
theorem ownRow_setBox {w : World} {base p : Nat} {A : Option Addr} {n c : Nat} {f : Nat → Int} (h : OwnRow w base A n c f) (hp : p < base) (x y z : Value) :
    OwnRow (((w.setCell ⟨p, 0, none⟩ x).setCell ⟨p, 1, none⟩ y).setCell ⟨p, 2, none⟩ z) base A n c f :=
  ⟨h.1, h.2.1, h.2.2.1, fun hn => by
    obtain ⟨b, o, e, h1, h2, hc⟩ := h.2.2.2 hn
    refine ⟨b, o, e, h1, by simpa [World.setCell] using h2, fun i hi => ⟨?_, ?_⟩⟩
    · rw [World.cell?_setCell_other _ _ _ _ (fun e => by injection e; omega), World.cell?_setCell_other _ _ _ _ (fun e => by injection e; omega), World.cell?_setCell_other _ _ _ _ (fun e => by injection e; omega)]
      exact (hc i hi).1
    · rw [World.frozen?_setCell, World.frozen?_setCell, World.frozen?_setCell]
      exact (hc i hi).2⟩
theorem OwnRow.mono {w : World} {base base' : Nat} {A : Option Addr} {n c : Nat} {f : Nat → Int} (h : OwnRow w base A n c f) (hb : base' ≤ base) : OwnRow w base' A n c f :=
  ⟨h.1, h.2.1, h.2.2.1, fun hn => by obtain ⟨b, o, e, h1, h2⟩ := h.2.2.2 hn; exact ⟨b, o, e, Nat.le_trans hb h1, h2⟩⟩

end Go.Proofs.YtbpdjmjkjiddjaaDoor.Base
