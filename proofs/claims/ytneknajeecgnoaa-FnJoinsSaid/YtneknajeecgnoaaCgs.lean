/-
  CountGroups of the program, out of its forest.
-/
import Derived.Test.YtneknajeecgnoaaGro
import Derived.Test.YtneknajeecgnoaaCgr
import Derived.BigQuiet
namespace Go.Proofs.Ytneknajeecgnoaa.Base
open Go Go.RowKit
set_option linter.unusedVariables false
set_option linter.unusedSimpArgs false
theorem row_nil0 (w : World) : Row .i64 w none 0 0 (fun _ => 0) := ⟨Nat.le_refl _, by unfold maxLen; omega, fun i hi => absurd hi (Nat.not_lt_zero _), fun h => absurd h (Nat.lt_irrefl _)⟩
theorem impl_count_f (w : World) (F E n m d : Nat) (A : Option Addr) (cv : Value) (hF : At w F #[.slice (some ⟨E, 0, none⟩) n n, .slice A m d, cv] 95) (hn : n ≤ 1000) (hm : m ≤ 1000) :
    Calls Try.prog 60 #[.pointer (some ⟨F, 0, none⟩)] w (Gives (.int .i64 ((n : Int) - m)) w) := by
  have b0 := hF.cellv (i := 0) rfl
  have b1 := hF.cellv (i := 1) rfl
  have fz := hF.lt
  clear hF
  go_enter Try.func60, Try.ntmps60
  go_wp2
  go_quiet (fail)
  go_wp2
  go_ret
  exact ⟨rfl, below_drewN (Below.refl _ _) nq⟩
theorem impl_countGroups (w : World) (A : Option Addr) (n c : Nat) (f : Nat → Int) (B : Option Addr) (m d : Nat) (g : Nat → Int) (hr : Row .i64 w A n c f) (hr' : Row .i64 w B m d g) :
    Calls Try.prog 16 #[.agg #[.slice A n c, .slice B m d]] w (Gives (.tuple #[.int .i64 (cgN n f m g), .int .i64 (cgC n f m g)]) w) := by
  have HL := Lib.hid ((Below.refl w.heap.size w).alloc (Nat.le_refl _) (.cells #[.slice A n c, .slice B m d] 26))
  have HX := Lib.hid (Cel.new w [.slice A n c, .slice B m d] 26)
  have HR := Lib.hid (hr.below HL.out (Nat.le_refl _))
  have HR' := Lib.hid (hr'.below HL.out (Nat.le_refl _))
  have kz := HX.out.1
  have k0 := HX.out.2 0 _ rfl
  have k1 := HX.out.2 1 _ rfl
  clear hr hr'
  cases hv : vjB n f m g
  · obtain ⟨e1, e2⟩ := cg_no hv
    rw [e1, e2]
    have HC := Lib.hid (impl_forestWith_no _ A n c f B m d g none 0 0 HR.out HR'.out hv)
    clear hv e1 e2
    go_enter Try.func16, Try.ntmps16
    go_wp2_with fail
    refine HC.out.mono ?_
    rintro e w1 ⟨rfl, b1⟩
    go_wp2
    go_ret2
    exact ⟨rfl, HL.out.trans (b1.mono (by simp))⟩
  · obtain ⟨e1, e2⟩ := cg_yes hv
    rw [e1, e2]
    have hn := (vj_yes hv).n2
    have hm := (vj_yes hv).le
    have h := impl_forestWith _ A n c f B m d g none 0 0 _ HR.out HR'.out (row_nil0 _) hv (by omega) true (by simp)
    rw [if_pos rfl] at h
    have HC := Lib.hid h
    clear hv e1 e2 h
    go_enter Try.func16, Try.ntmps16
    go_wp2_with fail
    refine HC.out.mono ?_
    rintro e w1 ⟨F, E, lv, base, rfl, hfs, hlo, hne, hF, hE, b1⟩
    obtain ⟨Al, cl, rfl⟩ := owns_slice hlo
    have HFB := Lib.hid hfs.box
    have HB1 := Lib.hid (HL.out.trans (b1.mono (by simp)))
    clear hfs hlo hne b1 hF hE HC k0 k1 kz
    go_wp2_with fail
    refine (impl_count_f w1 F E n m cl Al _ HFB.out (by omega) (by omega)).mono ?_
    rintro e w2 ⟨rfl, b2⟩
    go_wp2
    go_ret2
    exact ⟨rfl, HB1.out.trans (b2.mono HB1.out.size)⟩
end Go.Proofs.Ytneknajeecgnoaa.Base
