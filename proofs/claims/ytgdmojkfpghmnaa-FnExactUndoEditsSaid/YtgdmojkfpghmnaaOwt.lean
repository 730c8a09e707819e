/-
  A copy of a panel whose row may be empty; a box of a panel with a row of its own.
-/
import Derived.Test.YtgdmojkfpghmnaaOwn
import Derived.Test.YtgdmojkfpghmnaaOwa
import Derived.Test.YtgdmojkfpghmnaaHeap
import Derived.Laws.AppendOwnNone
namespace Go.Proofs.Ytgdmojkfpghmnaa.Base
open Go Go.RowKit
set_option linter.unusedVariables false
set_option linter.unusedSimpArgs false

theorem OwnRow.cong2 {w : World} {base : Nat} {A : Option Addr} {n c : Nat} {f g : Nat → Int} (h : OwnRow w base A n c f) (e : ∀ t, t < n → f t = g t) : OwnRow w base A n c g :=
  ⟨h.1, h.2.1, fun i hi => by rw [← e i hi]; exact h.2.2.1 i hi, fun hn => by
    obtain ⟨b, o, h1, h2, h3, h4⟩ := h.2.2.2 hn
    exact ⟨b, o, h1, h2, h3, fun i hi => by rw [← e i hi]; exact h4 i hi⟩⟩
set_option maxHeartbeats 4000000 in
theorem spec_own2 (w : World) (p : Nat) (W H : Int) (A : Option Addr) (n c : Nat) (f : Nat → Int) (hb : Box w p W H A n c) (hr : Row .i64 w A n c f) (hn2 : n ≤ 1048576) :
    Calls Try.prog 47 #[.pointer (some ⟨p, 0, none⟩)] w (PanelMade W H n f w) := by
  have HR := Lib.hid hr
  have hbel : Below w.heap.size w (w.alloc (.cells #[.int .i64 0, .int .i64 0, .slice none 0 0] 29)) := (Below.refl _ _).alloc (Nat.le_refl _) _
  have HL := Lib.hid hbel
  have HX := Lib.hid (hb.below hbel hb.1)
  obtain ⟨hp, k0, k1, k2⟩ := hb
  clear hr hbel
  go_enter Try.func47, Try.ntmps47
  go_wp2
  first | (go_region_with (go_at_call 48; refine (spec_own_any _ A n c f ?_ hn2).mono ?_; exact HR.out.below HL.out.drew (Nat.le_refl _); rintro e w1 ⟨A', c', rfl, hO, b1⟩; have b1' := ((Below.refl _ (w.alloc (.cells #[.int .i64 0, .int .i64 0, .slice none 0 0] 29))).drew).trans b1; have HO := Lib.hid hO; have HB1 := Lib.hid b1'; obtain ⟨q0, q1, q2, f0, f1, f2, hB, hz⟩ := out_cells b1'; obtain ⟨-, x0, x1, x2⟩ := HX.out.below b1' HX.out.1; clear b1 b1' hO)) | fail
  all_goals go_wp2
  all_goals
    refine bodyPost_ret ?_ rfl ⟨A', c', rfl, (ownRow_setBox HO.out (by simp) _ _ _).mono (by simp), ((hB.setCell (by simp) _).setCell (by simp) _).setCell (by simp) _⟩
    simp [results, Try.results47, go_sem, q0, q1, q2]
/-- a box of a panel with a row of its own -/
structure LSt (w0 : World) (o : Nat) (W H : Int) (n : Nat) (f : Nat → Int) (A : Option Addr) (c : Nat) (w : World) : Prop where
  res : At w w0.heap.size #[.int .i64 0, .int .i64 0, .slice none 0 0] 29
  pan : At w o #[.int .i64 W, .int .i64 H, .slice A n c] 29
  row : OwnRow w (w0.heap.size + 1) A n c f
  bel : Below w0.heap.size w0 w
  lo : w0.heap.size < o
section
variable {w0 w w' : World} {o : Nat} {W H : Int} {n : Nat} {f : Nat → Int} {A : Option Addr} {c : Nat}
theorem LSt.next (h : LSt w0 o W H n f A c w) (b : Below w.heap.size w w') : LSt w0 o W H n f A c w' :=
  ⟨h.res.below b h.res.lt, h.pan.below b h.pan.lt, h.row.below b (Nat.le_refl _), h.bel.trans (b.mono h.bel.size), h.lo⟩
theorem LSt.box (h : LSt w0 o W H n f A c w) : Box w o W H A n c := ⟨h.pan.lt, h.pan.cellv (i := 0) rfl, h.pan.cellv (i := 1) rfl, h.pan.cellv (i := 2) rfl⟩
/-- another panel put into the box -/
theorem LSt.put (h : LSt w0 o W H n f A c w) {W' H' : Int} {n' : Nat} {f' : Nat → Int} {A' : Option Addr} {c' : Nat} {b : Nat} (ho : OwnRow w b A' n' c' f') (hb : o < b) :
    LSt w0 o W' H' n' f' A' c' (((w.setCell ⟨o, 0, none⟩ (.int .i64 W')).setCell ⟨o, 1, none⟩ (.int .i64 H')).setCell ⟨o, 2, none⟩ (.slice A' n' c')) :=
  ⟨((h.res.setOther (a := ⟨o, 0, none⟩) (by have := h.lo; show o ≠ w0.heap.size; omega) _).setOther (a := ⟨o, 1, none⟩) (by have := h.lo; show o ≠ w0.heap.size; omega) _).setOther (a := ⟨o, 2, none⟩) (by have := h.lo; show o ≠ w0.heap.size; omega) _,
   ((h.pan.set 0 _).set 1 _).set 2 _,
   (ownRow_setBox ho hb _ _ _).mono (by have := h.lo; omega),
   ((h.bel.setCell (p := ⟨o, 0, none⟩) (by have := h.lo; show w0.heap.size ≤ o; omega) _).setCell (p := ⟨o, 1, none⟩) (by have := h.lo; show w0.heap.size ≤ o; omega) _).setCell (p := ⟨o, 2, none⟩) (by have := h.lo; show w0.heap.size ≤ o; omega) _, h.lo⟩
theorem LSt.cells (h : LSt w0 o W H n f A c w) : w0.heap.size < w.heap.size ∧ o < w.heap.size ∧ w.cell? ⟨o, 0, none⟩ = some (.int .i64 W) ∧ w.cell? ⟨o, 1, none⟩ = some (.int .i64 H) ∧ w.cell? ⟨o, 2, none⟩ = some (.slice A n c) ∧
    w.frozen? ⟨o, 0, none⟩ = false ∧ w.frozen? ⟨o, 1, none⟩ = false ∧ w.frozen? ⟨o, 2, none⟩ = false ∧
    w.cell? ⟨w0.heap.size, 0, none⟩ = some (.int .i64 0) ∧ w.cell? ⟨w0.heap.size, 1, none⟩ = some (.int .i64 0) ∧ w.cell? ⟨w0.heap.size, 2, none⟩ = some (.slice none 0 0) ∧
    w.frozen? ⟨w0.heap.size, 0, none⟩ = false ∧ w.frozen? ⟨w0.heap.size, 1, none⟩ = false ∧ w.frozen? ⟨w0.heap.size, 2, none⟩ = false :=
  ⟨h.res.lt, h.pan.lt, h.pan.cellv (i := 0) rfl, h.pan.cellv (i := 1) rfl, h.pan.cellv (i := 2) rfl, h.pan.frozen 0, h.pan.frozen 1, h.pan.frozen 2, h.res.cellv (i := 0) rfl, h.res.cellv (i := 1) rfl, h.res.cellv (i := 2) rfl, h.res.frozen 0, h.res.frozen 1, h.res.frozen 2⟩
theorem LSt.out (h : LSt w0 o W H n f A c w) (x y z : Value) : OwnRow (((w.setCell ⟨w0.heap.size, 0, none⟩ x).setCell ⟨w0.heap.size, 1, none⟩ y).setCell ⟨w0.heap.size, 2, none⟩ z) w0.heap.size A n c f ∧ Below w0.heap.size w0 (((w.setCell ⟨w0.heap.size, 0, none⟩ x).setCell ⟨w0.heap.size, 1, none⟩ y).setCell ⟨w0.heap.size, 2, none⟩ z) :=
  ⟨(ownRow_setBox h.row (Nat.lt_succ_self _) _ _ _).mono (Nat.le_succ _), ((h.bel.setCell (p := ⟨w0.heap.size, 0, none⟩) (Nat.le_refl _) _).setCell (p := ⟨w0.heap.size, 1, none⟩) (Nat.le_refl _) _).setCell (p := ⟨w0.heap.size, 2, none⟩) (Nat.le_refl _) _⟩
end
end Go.Proofs.Ytgdmojkfpghmnaa.Base
