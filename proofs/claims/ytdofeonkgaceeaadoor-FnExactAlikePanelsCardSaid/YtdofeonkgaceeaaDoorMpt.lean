/-
  MapPoint: the specification's, the program's.
-/
import Derived.Test.YtdofeonkgaceeaaDoorMov
import Derived.Test.YtdofeonkgaceeaaDoorYm
import Derived.Test.YtdofeonkgaceeaaDoorPan
import Derived.Test.YtdofeonkgaceeaaDoorSame
namespace Go.Proofs.YtdofeonkgaceeaaDoor.Base
open Go Go.RowKit
set_option linter.unusedVariables false
set_option linter.unusedSimpArgs false

def mqC (W H : Int) (n : Nat) (f : Nat → Int) (x y s : Int) : Int := if validB W H n f then (if inB s 0 7 then (if hasB W H x y then 0 else 2) else 2) else 1
def mqX (W H : Int) (n : Nat) (f : Nat → Int) (x y s : Int) : Int := if mqC W H n f x y s = 0 then mvX W H s x y else 0
def mqY (W H : Int) (n : Nat) (f : Nat → Int) (x y s : Int) : Int := if mqC W H n f x y s = 0 then mvY W H s x y else 0
section
variable {W H : Int} {n : Nat} {f : Nat → Int} {x y s : Int}
theorem mq_1 (h : validB W H n f = false) : mqC W H n f x y s = 1 ∧ mqX W H n f x y s = 0 ∧ mqY W H n f x y s = 0 := by simp [mqC, mqX, mqY, h]
theorem mq_2 (h : validB W H n f = true) (h2 : inB s 0 7 = false) : mqC W H n f x y s = 2 ∧ mqX W H n f x y s = 0 ∧ mqY W H n f x y s = 0 := by simp [mqC, mqX, mqY, h, h2]
theorem mq_3 (h : validB W H n f = true) (h2 : inB s 0 7 = true) (h3 : hasB W H x y = false) : mqC W H n f x y s = 2 ∧ mqX W H n f x y s = 0 ∧ mqY W H n f x y s = 0 := by simp [mqC, mqX, mqY, h, h2, h3]
theorem mq_0 (h : validB W H n f = true) (h2 : inB s 0 7 = true) (h3 : hasB W H x y = true) : mqC W H n f x y s = 0 ∧ mqX W H n f x y s = mvX W H s x y ∧ mqY W H n f x y s = mvY W H s x y := by simp [mqC, mqX, mqY, h, h2, h3]
end
theorem impl_symCode (w : World) (W H : Int) (A : Option Addr) (n c : Nat) (f : Nat → Int) (s : Int) (hr : Row .i64 w A n c f) :
    Calls Tryd.prog 52 #[.agg #[.int .i64 W, .int .i64 H, .slice A n c], .int .i64 s] w (Gives (.int .i64 (mpC W H n f s)) w) := by
  have hb := (Below.refl w.heap.size w).alloc (Nat.le_refl _) (.cells #[.int .i64 W, .int .i64 H, .slice A n c] 26)
  have HL := Lib.hid hb
  have HR := Lib.hid (hr.below hb (Nat.le_refl _))
  clear hb hr
  cases hv : validB W H n f
  · rw [mpC_1 hv]
    have HV := Lib.hid hv
    clear hv
    go_enter Tryd.func52, Tryd.ntmps52
    go_wp2_with fail
    refine (implOk_is HV.out HR.out).mono ?_
    rintro e w1 ⟨rfl, b1⟩
    go_wp2
    go_ret
    exact ⟨rfl, HL.out.trans (b1.mono (by simp))⟩
  · have HV := Lib.hid hv
    cases hs : inB s 0 7
    · rw [mpC_2 hv hs]
      clear hv
      go_enter Tryd.func52, Tryd.ntmps52
      go_wp2_with fail
      refine (implOk_is HV.out HR.out).mono ?_
      rintro e w1 ⟨rfl, b1⟩
      go_wp2_with fail
      refine (impl_sym hs _).mono ?_
      rintro e w1 ⟨rfl, rfl⟩
      go_wp2
      go_ret
      exact ⟨rfl, HL.out.trans (b1.mono (by simp))⟩
    · rw [mpC_0 hv hs]
      clear hv
      go_enter Tryd.func52, Tryd.ntmps52
      go_wp2_with fail
      refine (implOk_is HV.out HR.out).mono ?_
      rintro e w1 ⟨rfl, b1⟩
      go_wp2_with fail
      refine (impl_sym hs _).mono ?_
      rintro e w1 ⟨rfl, rfl⟩
      go_wp2
      go_ret
      exact ⟨rfl, HL.out.trans (b1.mono (by simp))⟩
/-- the three boxes of MapPoint -/
structure MSt (w0 : World) (W H : Int) (A : Option Addr) (n c : Nat) (x y : Int) (w : World) : Prop where
  pan : At w w0.heap.size #[.int .i64 W, .int .i64 H, .slice A n c] 26
  pt : At w (w0.heap.size + 1) #[.int .i64 x, .int .i64 y] 43
  res : At w (w0.heap.size + 1 + 1) #[.int .i64 0, .int .i64 0] 43
  bel : Below w0.heap.size w0 w
section
variable {w0 w w' : World} {W H : Int} {A : Option Addr} {n c : Nat} {x y : Int}
theorem MSt.next (h : MSt w0 W H A n c x y w) (b : Below w.heap.size w w') : MSt w0 W H A n c x y w' :=
  ⟨h.pan.below b h.pan.lt, h.pt.below b h.pt.lt, h.res.below b h.res.lt, h.bel.trans (b.mono h.bel.size)⟩
theorem MSt.drew (h : MSt w0 W H A n c x y w) : MSt w0 W H A n c x y w.drew := ⟨h.pan.drew, h.pt.drew, h.res.drew, h.bel.drew⟩
theorem MSt.box (h : MSt w0 W H A n c x y w) : Box w w0.heap.size W H A n c := ⟨h.pan.lt, h.pan.cellv (i := 0) rfl, h.pan.cellv (i := 1) rfl, h.pan.cellv (i := 2) rfl⟩
theorem MSt.cells (h : MSt w0 W H A n c x y w) : w0.heap.size + 1 + 1 < w.heap.size ∧ w0.heap.size < w.heap.size ∧ w0.heap.size + 1 < w.heap.size ∧ w.cell? ⟨w0.heap.size, 0, none⟩ = some (.int .i64 W) ∧ w.cell? ⟨w0.heap.size, 1, none⟩ = some (.int .i64 H) ∧ w.cell? ⟨w0.heap.size, 2, none⟩ = some (.slice A n c) ∧
    w.cell? ⟨w0.heap.size + 1, 0, none⟩ = some (.int .i64 x) ∧ w.cell? ⟨w0.heap.size + 1, 1, none⟩ = some (.int .i64 y) ∧ w.cell? ⟨w0.heap.size + 1 + 1, 0, none⟩ = some (.int .i64 0) ∧ w.cell? ⟨w0.heap.size + 1 + 1, 1, none⟩ = some (.int .i64 0) ∧
    w.frozen? ⟨w0.heap.size + 1 + 1, 0, none⟩ = false ∧ w.frozen? ⟨w0.heap.size + 1 + 1, 1, none⟩ = false :=
  ⟨h.res.lt, h.pan.lt, h.pt.lt, h.pan.cellv (i := 0) rfl, h.pan.cellv (i := 1) rfl, h.pan.cellv (i := 2) rfl, h.pt.cellv (i := 0) rfl, h.pt.cellv (i := 1) rfl, h.res.cellv (i := 0) rfl, h.res.cellv (i := 1) rfl, h.res.frozen 0, h.res.frozen 1⟩
end
theorem MSt.mk3 (w : World) (W H : Int) (A : Option Addr) (n c : Nat) (x y : Int) :
    MSt w W H A n c x y (((w.alloc (.cells #[.int .i64 W, .int .i64 H, .slice A n c] 26)).alloc (.cells #[.int .i64 x, .int .i64 y] 43)).alloc (.cells #[.int .i64 0, .int .i64 0] 43)) := by
  have h1 := At.new (w.alloc (.cells #[.int .i64 W, .int .i64 H, .slice A n c] 26)) #[.int .i64 x, .int .i64 y] 43
  have h2 := At.new ((w.alloc (.cells #[.int .i64 W, .int .i64 H, .slice A n c] 26)).alloc (.cells #[.int .i64 x, .int .i64 y] 43)) #[.int .i64 0, .int .i64 0] 43
  simp only [World.size_alloc] at h1 h2
  exact ⟨((At.new w _ _).below ((Below.refl _ _).alloc (Nat.le_refl _) _) (by simp)).below ((Below.refl _ _).alloc (Nat.le_refl _) _) (by simp; omega), h1.below ((Below.refl _ _).alloc (Nat.le_refl _) _) (by simp), h2, (((Below.refl _ _).alloc (Nat.le_refl _) _).alloc (by simp) _).alloc (by simp; omega) _⟩
end Go.Proofs.YtdofeonkgaceeaaDoor.Base
