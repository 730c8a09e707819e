/-
  CountGroups, the model's and the program's.
-/
import Derived.Test.YtneknajeecgnoaaVj
namespace Go.Proofs.Ytneknajeecgnoaa.Base
open Go Go.RowKit
set_option linter.unusedVariables false
set_option linter.unusedSimpArgs false
noncomputable def cgN (n : Nat) (f : Nat → Int) (m : Nat) (g : Nat → Int) : Int := if vjB n f m g then (n : Int) - m else 0
noncomputable def cgC (n : Nat) (f : Nat → Int) (m : Nat) (g : Nat → Int) : Int := if vjB n f m g then 0 else 1
theorem cg_no {n : Nat} {f : Nat → Int} {m : Nat} {g : Nat → Int} (h : vjB n f m g = false) : cgN n f m g = 0 ∧ cgC n f m g = 1 := by simp [cgN, cgC, h]
theorem cg_yes {n : Nat} {f : Nat → Int} {m : Nat} {g : Nat → Int} (h : vjB n f m g = true) : cgN n f m g = n - m ∧ cgC n f m g = 0 := by simp [cgN, cgC, h]
theorem okJ_is {w : World} {p : Nat} {A : Option Addr} {n c : Nat} {f : Nat → Int} {B : Option Addr} {m d : Nat} {g : Nat → Int} {v : Bool} (h : vjB n f m g = v) (hb : Cel w p [.slice A n c, .slice B m d]) (hr : Row .i64 w A n c f) (hr' : Row .i64 w B m d g) :
    Calls Try.prog 61 #[.pointer (some ⟨p, 0, none⟩)] w (Gives (.bool v) w) := by rw [← h]; exact spec_okJ w p A n c f B m d g hb hr hr'
theorem vldJ_is {w : World} {A : Option Addr} {n c : Nat} {f : Nat → Int} {B : Option Addr} {m d : Nat} {g : Nat → Int} {v : Bool} (h : vjB n f m g = v) (hr : Row .i64 w A n c f) (hr' : Row .i64 w B m d g) :
    Calls Try.prog 92 #[.agg #[.slice A n c, .slice B m d]] w (Gives (.bool v) w) := by rw [← h]; exact impl_validJoined w A n c f B m d g hr hr'
theorem spec_countGroups (w : World) (A : Option Addr) (n c : Nat) (f : Nat → Int) (B : Option Addr) (m d : Nat) (g : Nat → Int) (hr : Row .i64 w A n c f) (hr' : Row .i64 w B m d g) :
    Calls Try.prog 28 #[.agg #[.slice A n c, .slice B m d]] w (Gives (.tuple #[.int .i64 (cgN n f m g), .int .i64 (cgC n f m g)]) w) := by
  have HL := Lib.hid ((Below.refl w.heap.size w).alloc (Nat.le_refl _) (.cells #[.slice A n c, .slice B m d] 26))
  have HX := Lib.hid (Cel.new w [.slice A n c, .slice B m d] 26)
  have HR := Lib.hid (hr.below HL.out (Nat.le_refl _))
  have HR' := Lib.hid (hr'.below HL.out (Nat.le_refl _))
  clear hr hr'
  cases hv : vjB n f m g
  · obtain ⟨e1, e2⟩ := cg_no hv
    rw [e1, e2]
    have HC := Lib.hid (okJ_is hv HX.out HR.out HR'.out)
    clear hv e1 e2
    go_enter Try.func28, Try.ntmps28
    go_wp2_with fail
    refine HC.out.mono ?_
    rintro e w1 ⟨rfl, b1⟩
    go_wp2
    go_ret2
    exact ⟨rfl, HL.out.trans (b1.mono (by simp))⟩
  · obtain ⟨e1, e2⟩ := cg_yes hv
    rw [e1, e2]
    have hn := (vj_yes hv).n2
    have hm := (vj_yes hv).le
    have HC := Lib.hid (okJ_is hv HX.out HR.out HR'.out)
    clear hv e1 e2
    go_enter Try.func28, Try.ntmps28
    go_wp2_with fail
    refine HC.out.mono ?_
    rintro e w1 ⟨rfl, b1⟩
    have HX1 := Lib.hid (HX.out.below b1 HX.out.1)
    have HB1 := Lib.hid (HL.out.trans (b1.mono (by simp)))
    clear b1
    have kz := HX1.out.1
    have k0 : w1.cell? ⟨w.heap.size, 0, none⟩ = some (.slice A n c) := HX1.out.2 0 _ rfl
    have k1 : w1.cell? ⟨w.heap.size, 1, none⟩ = some (.slice B m d) := HX1.out.2 1 _ rfl
    go_wp2
    go_ret2
    exact ⟨rfl, HB1.out⟩
end Go.Proofs.Ytneknajeecgnoaa.Base
