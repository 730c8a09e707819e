/-
  UndoJoin: the model's copy of joined elements.
-/
import Derived.Test.YtneknajeecgnoaaJn
import Derived.Test.YtneknajeecgnoaaOwa
import Derived.Test.YtneknajeecgnoaaCgr
import Derived.Test.YtneknajeecgnoaaSetB
namespace Go.Proofs.Ytneknajeecgnoaa.Base
open Go Go.RowKit
set_option linter.unusedVariables false
set_option linter.unusedSimpArgs false

set_option maxHeartbeats 2000000 in
theorem spec_ownJ (w : World) (p : Nat) (A : Option Addr) (n c : Nat) (f : Nat → Int) (B : Option Addr) (m d : Nat) (g : Nat → Int) (hb : Cel w p [.slice A n c, .slice B m d]) (hr : Row .i64 w A n c f) (hr' : Row .i64 w B m d g) (hn : n ≤ 1048576) (hm : m ≤ 1048576) :
    Calls Try.prog 67 #[.pointer (some ⟨p, 0, none⟩)] w (JnMade n f m g w) := by
  have HR := Lib.hid hr
  have HR' := Lib.hid hr'
  have hbel := (Below.refl w.heap.size w).alloc (Nat.le_refl _) (.cells #[.slice none 0 0, .slice none 0 0] 26)
  have HL := Lib.hid hbel
  have HX := Lib.hid (hb.below hbel hb.1)
  have HZ := Lib.hid (At.new w #[.slice none 0 0, .slice none 0 0] 26)
  have hp := hb.1
  have hpz := HX.out.1
  have k0 : (w.alloc (.cells #[.slice none 0 0, .slice none 0 0] 26)).cell? ⟨p, 0, none⟩ = some (.slice A n c) := HX.out.2 0 _ rfl
  have k1 : (w.alloc (.cells #[.slice none 0 0, .slice none 0 0] 26)).cell? ⟨p, 1, none⟩ = some (.slice B m d) := HX.out.2 1 _ rfl
  have HRd := Lib.hid (HR.out.below HL.out.drew (Nat.le_refl _))
  have HRd' := Lib.hid (HR'.out.below HL.out.drew (Nat.le_refl _))
  clear hr hr' hb hbel
  go_enter Try.func67, Try.ntmps67
  go_wp2
  go_region_with (first
    | (go_at_call 96; (with_reducible refine (spec_own_any _ A n c f HRd.out hn).mono ?_); rintro e wa ⟨A1, c1, rfl, hO, ba⟩; have b1' := ((Below.refl _ (w.alloc (.cells #[.slice none 0 0, .slice none 0 0] 26))).drew).trans ba; have HBa := Lib.hid (HL.out.trans (b1'.mono (by simp))); have HXa := HX.out.below b1' hpz; have hpa := HXa.1; have k1a : wa.cell? ⟨p, 1, none⟩ = some (.slice B m d) := HXa.2 1 _ rfl; have HZa := Lib.hid (HZ.out.below b1' (by simp)); have HO := Lib.hid hO; have HRa := Lib.hid (HR'.out.below HBa.out (Nat.le_refl _)); have HRa' := Lib.hid (HR'.out.below HBa.out.drew (Nat.le_refl _)); have zba := ba.size; clear ba b1' hO HXa)
    | (go_at_call 96; (first | (with_reducible refine (spec_own_any _ B m d g HRa.out hm).mono ?_) | (with_reducible refine (spec_own_any _ B m d g HRa'.out hm).mono ?_)); rintro e wb ⟨B1, d1, rfl, hO2, bb⟩; have HZb := Lib.hid (HZa.out.below bb (by first | exact HZa.out.lt | (have := HZa.out.lt; simpa using this))); have HBb := Lib.hid (HBa.out.trans (bb.mono HBa.out.size)); have HO1 := Lib.hid (HO.out.below bb (Nat.le_refl _)); have HO2 := Lib.hid hO2; have zbb := bb.size; have lz := HZb.out.lt; have q0 : wb.cell? ⟨w.heap.size, 0, none⟩ = some (.slice none 0 0) := HZb.out.cellv (i := 0) rfl; have q1 : wb.cell? ⟨w.heap.size, 1, none⟩ = some (.slice none 0 0) := HZb.out.cellv (i := 1) rfl; have f0 := HZb.out.frozen 0; have f1 := HZb.out.frozen 1; clear bb hO2))
  all_goals
    go_wp2
    refine bodyPost_ret (v := .agg #[.slice A1 n c1, .slice B1 m d1]) (by simp [results, Try.results67, go_sem, q0, q1]) rfl ⟨A1, c1, B1, d1, rfl, ⟨?_, ?_, ?_⟩, ?_⟩
    · exact ((HO1.out.setLow (by simp) _ _).setLow (by simp) _ _).mono (by simp)
    · exact ((HO2.out.setLow (by have := HBa.out.size; have := HZa.out.lt; omega) _ _).setLow (by have := HZa.out.lt; omega) _ _).mono (by have := HZa.out.lt; omega)
    · intro h1 h2 x hx hy
      have := (HO.out.base_lt h1 x hx).2
      have := (HO2.out.base_lt h2 x hy).1
      omega
    · exact (HBb.out.setCell (by simp) _).setCell (by simp) _
end Go.Proofs.Ytneknajeecgnoaa.Base
