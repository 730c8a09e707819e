/-
  WalkSteps: spec's, at a valid walker and a number of steps in range.
-/
import Derived.Test.YtajikegfladelaaDoorTrn
import Derived.Test.YtajikegfladelaaDoorItr
namespace Go.Proofs.YtajikegfladelaaDoor.Base
open Go.RowKit
set_option linter.unusedVariables false
set_option linter.unusedSimpArgs false

def cs4 (v : W4) : List Value := [.int .i64 v.1, .int .i64 v.2.1, .int .i64 v.2.2.1, .int .i64 v.2.2.2]
theorem at_set4 {w : World} {p : Nat} {cs : Array Value} {T : TypeId} {a b c d : Value} (h : At w p cs T) (hs : cs.size = 4) :
    At ((((w.setCell ⟨p, 0, none⟩ a).setCell ⟨p, 1, none⟩ b).setCell ⟨p, 2, none⟩ c).setCell ⟨p, 3, none⟩ d) p #[a, b, c, d] T := by
  have h4 := (((h.set 0 a).set 1 b).set 2 c).set 3 d
  obtain ⟨l⟩ := cs
  match l, hs with
  | [_, _, _, _], _ => exact h4
section
variable {w w1 : World} {W H x y dx dy : Int} {A : Option Addr} {n c : Nat} {f : Nat → Int}
theorem at_below3 (b1 : Below (((w.alloc (.cells #[.int .i64 W, .int .i64 H, .slice A n c] 35)).alloc (.cells #[.int .i64 x, .int .i64 y, .int .i64 dx, .int .i64 dy] 32)).alloc (.cells #[.int .i64 0, .int .i64 0, .int .i64 0, .int .i64 0] 32)).heap.size (((w.alloc (.cells #[.int .i64 W, .int .i64 H, .slice A n c] 35)).alloc (.cells #[.int .i64 x, .int .i64 y, .int .i64 dx, .int .i64 dy] 32)).alloc (.cells #[.int .i64 0, .int .i64 0, .int .i64 0, .int .i64 0] 32)) w1) : At w1 (w.heap.size + 1) (cs4 (x, y, dx, dy)).toArray 32 := by
  have h := ((At.new (w.alloc (.cells #[.int .i64 W, .int .i64 H, .slice A n c] 35)) #[.int .i64 x, .int .i64 y, .int .i64 dx, .int .i64 dy] 32).below ((Below.refl _ _).alloc (Nat.le_refl _) (.cells #[.int .i64 0, .int .i64 0, .int .i64 0, .int .i64 0] 32)) (by simp)).below b1 (by simp)
  simpa [cs4] using h
theorem at_below2 (b1 : Below (((w.alloc (.cells #[.int .i64 W, .int .i64 H, .slice A n c] 35)).alloc (.cells #[.int .i64 x, .int .i64 y, .int .i64 dx, .int .i64 dy] 32)).alloc (.cells #[.int .i64 0, .int .i64 0, .int .i64 0, .int .i64 0] 32)).heap.size (((w.alloc (.cells #[.int .i64 W, .int .i64 H, .slice A n c] 35)).alloc (.cells #[.int .i64 x, .int .i64 y, .int .i64 dx, .int .i64 dy] 32)).alloc (.cells #[.int .i64 0, .int .i64 0, .int .i64 0, .int .i64 0] 32)) w1) : At w1 (w.heap.size + 1 + 1) #[.int .i64 0, .int .i64 0, .int .i64 0, .int .i64 0] 32 := by
  have h := (At.new ((w.alloc (.cells #[.int .i64 W, .int .i64 H, .slice A n c] 35)).alloc (.cells #[.int .i64 x, .int .i64 y, .int .i64 dx, .int .i64 dy] 32)) #[.int .i64 0, .int .i64 0, .int .i64 0, .int .i64 0] 32).below b1 (by simp)
  simpa using h
theorem box_ext {p : Nat} {X : List Nat} {w2 : World} (h : Box w1 p W H A n c) (e : Ext X w1 w2) (hx : p ∉ X) : Box w2 p W H A n c :=
  ⟨Nat.lt_of_lt_of_le h.1 e.size, e.cell h.2.1 hx, e.cell h.2.2.1 hx, e.cell h.2.2.2 hx⟩
theorem row_ext {w2 : World} (h : Row .i64 w A n c f) (b : Below w.heap.size w w1) (e : Ext [w.heap.size + 1] w1 w2) : Row .i64 w2 A n c f :=
  h.below (b.trans (e.below (by simp) b.size)) (Nat.le_refl _)
end

set_option maxHeartbeats 2000000 in
theorem spec_walkStepsOk (w : World) (W H : Int) (A : Option Addr) (n c : Nat) (f : Nat → Int) (x y dx dy s : Int) (hr : Row .i64 w A n c f) (hw : wkB W H n f x y dx dy = true) (hs : inB s 0 10000 = true) :
    Calls Tryd.prog 20 #[.agg #[.int .i64 W, .int .i64 H, .slice A n c], .agg #[.int .i64 x, .int .i64 y, .int .i64 dx, .int .i64 dy], .int .i64 s] w (Gives (.tuple #[.agg (cs4 (stps W H f s.toNat (x, y, dx, dy))).toArray, .int .i64 0]) w) := by
  have HL := Lib.hid (show Below w.heap.size w (((w.alloc (.cells #[.int .i64 W, .int .i64 H, .slice A n c] 35)).alloc (.cells #[.int .i64 x, .int .i64 y, .int .i64 dx, .int .i64 dy] 32)).alloc (.cells #[.int .i64 0, .int .i64 0, .int .i64 0, .int .i64 0] 32)) from (((Below.refl _ _).alloc (Nat.le_refl _) _).alloc (by simp) _).alloc (by simp; omega) _)
  have HR := Lib.hid hr
  obtain ⟨s0, s1⟩ := in_yes hs
  obtain ⟨hW, hH, -, -, -, -, -, -⟩ := goW hw
  obtain ⟨hn, hK⟩ := goAll hw
  have HC := Lib.hid (wkC_yes hw)
  have HN := Lib.hid hn
  have HS := Lib.hid hs
  have HWK := Lib.hid hw
  clear hr hw hn hs
  go_enter Tryd.func20, Tryd.ntmps20
  go_wp2_with fail
  refine (specC_is HC.out (panel3 w _ W H A n c _ _) (HR.out.below HL.out (Nat.le_refl _))).mono ?_
  rintro e w1 ⟨rfl, b1⟩
  have HB1 := Lib.hid (HL.out.trans (b1.mono (by first | exact Nat.le_refl _ | (simp; done) | (simp; omega) | omega)))
  have HX1 := Lib.hid ((panel3 w 35 W H A n c (.cells #[.int .i64 x, .int .i64 y, .int .i64 dx, .int .i64 dy] 32) (.cells #[.int .i64 0, .int .i64 0, .int .i64 0, .int .i64 0] 32)).below b1 (by first | exact Nat.le_refl _ | (simp; done) | (simp; omega) | omega))
  have HW1 := Lib.hid (at_below3 b1)
  have HZ1 := Lib.hid (at_below2 b1)
  obtain ⟨hc1, hf1⟩ := bcell b1
  have hzz := b1.size
  go_wp2_with fail
  refine (in_is HS.out _).mono ?_
  rintro e w1 ⟨rfl, rfl⟩
  go_wp2
  clear hc1 hf1 b1
  go_loopw [9] (fun kv wr => ∃ k : Nat, (k : Int) ≤ s ∧ kv = .int .i64 k ∧ Hid (At wr (w.heap.size + 1) (cs4 (stps W H f k (x, y, dx, dy))).toArray 32) ∧ Hid (Ext [w.heap.size + 1] w1 wr)) (fun kv _ => 10000 - (intOf kv).toNat)
  case atStart => exact ⟨0, s0, rfl, HW1, Lib.hid (Ext.refl _ _)⟩
  case round =>
    obtain ⟨k, hk, rfl, HA, HE⟩ := hrel
    have hok := stps_ok (show okW W H n f (x, y, dx, dy) = true from HWK.out) k
    obtain ⟨v, hv⟩ : ∃ v, v = stps W H f k (x, y, dx, dy) := ⟨_, rfl⟩
    rw [← hv] at hok HA
    have hz := HA.out.lt
    have k0 : wr.cell? ⟨w.heap.size + 1, 0, none⟩ = some (.int .i64 v.1) := HA.out.cellv (i := 0) rfl
    have k1 : wr.cell? ⟨w.heap.size + 1, 1, none⟩ = some (.int .i64 v.2.1) := HA.out.cellv (i := 1) rfl
    have k2 : wr.cell? ⟨w.heap.size + 1, 2, none⟩ = some (.int .i64 v.2.2.1) := HA.out.cellv (i := 2) rfl
    have k3 : wr.cell? ⟨w.heap.size + 1, 3, none⟩ = some (.int .i64 v.2.2.2) := HA.out.cellv (i := 3) rfl
    by_cases hlt : (k : Int) < s
    · obtain ⟨-, -, x1, x2, y1, y2, g1, g2⟩ := goW hok
      obtain ⟨h4, -⟩ := goNext hok
      have HV := Lib.hid hv
      clear hv
      go_wp2_with fail
      clear k0 k1 k2 k3
      refine (specStep _ w.heap.size W H A n c f v.1 v.2.1 v.2.2.1 v.2.2.2 (box_ext HX1.out HE.out (by simp)) (row_ext HR.out HB1.out HE.out) HN.out hK hW hH x1 x2 y1 y2 g1 g2 h4).mono ?_
      rintro e w3 ⟨rfl, b3⟩
      have HA3 := Lib.hid (HA.out.below b3 HA.out.lt)
      have HE3 := Lib.hid (HE.out.trans (Ext.of_below (X := [w.heap.size + 1]) b3))
      have hz3 := b3.size
      clear b3 HA HE
      have k0 : w3.cell? ⟨w.heap.size + 1, 0, none⟩ = some (.int .i64 v.1) := HA3.out.cellv (i := 0) rfl
      have k1 : w3.cell? ⟨w.heap.size + 1, 1, none⟩ = some (.int .i64 v.2.1) := HA3.out.cellv (i := 1) rfl
      have k2 : w3.cell? ⟨w.heap.size + 1, 2, none⟩ = some (.int .i64 v.2.2.1) := HA3.out.cellv (i := 2) rfl
      have k3 : w3.cell? ⟨w.heap.size + 1, 3, none⟩ = some (.int .i64 v.2.2.2) := HA3.out.cellv (i := 3) rfl
      have f0 := HA3.out.frozen 0
      have f1 := HA3.out.frozen 1
      have f2 := HA3.out.frozen 2
      have f3 := HA3.out.frozen 3
      go_wp2
      go_roundw
      case rel =>
        refine ⟨k + 1, by omega, by go_num, Lib.hid ?_, Lib.hid ?_⟩
        · rw [show stps W H f (k + 1) (x, y, dx, dy) = stp W H f v from congrArg (stp W H f) HV.out.symm]
          exact at_set4 HA3.out rfl
        · exact (((HE3.out.trans (Ext.set _ _ _ (by simp))).trans (Ext.set _ _ _ (by simp))).trans (Ext.set _ _ _ (by simp))).trans (Ext.set _ _ _ (by simp))
      case measure => simp [intOf]; omega
    · have ek : s.toNat = k := by omega
      have HEK := Lib.hid ek
      have HVV := Lib.hid hv
      have HZr := Lib.hid (HZ1.out.ext HE.out (by simp))
      have z0 : wr.cell? ⟨w.heap.size + 1 + 1, 0, none⟩ = some (.int .i64 0) := HZr.out.cellv (i := 0) rfl
      have z1 : wr.cell? ⟨w.heap.size + 1 + 1, 1, none⟩ = some (.int .i64 0) := HZr.out.cellv (i := 1) rfl
      have z2 : wr.cell? ⟨w.heap.size + 1 + 1, 2, none⟩ = some (.int .i64 0) := HZr.out.cellv (i := 2) rfl
      have z3 : wr.cell? ⟨w.heap.size + 1 + 1, 3, none⟩ = some (.int .i64 0) := HZr.out.cellv (i := 3) rfl
      have f0 := HZr.out.frozen 0
      have f1 := HZr.out.frozen 1
      have f2 := HZr.out.frozen 2
      have f3 := HZr.out.frozen 3
      have zz := HZr.out.lt
      clear hv ek
      go_wp2
      refine bodyPost_ret ?_ rfl ⟨rfl, ((((HB1.out.trans (HE.out.below (by simp) (by have := HB1.out.size; omega))).setCell (by first | exact Nat.le_refl _ | (simp; done) | (simp; omega) | omega) _).setCell (by first | exact Nat.le_refl _ | (simp; done) | (simp; omega) | omega) _).setCell (by first | exact Nat.le_refl _ | (simp; done) | (simp; omega) | omega) _).setCell (by first | exact Nat.le_refl _ | (simp; done) | (simp; omega) | omega) _⟩
      simp [results, Tryd.results20, go_sem, z0, z1, z2, z3, cs4]
      rw [HEK.out, ← HVV.out]
      exact ⟨rfl, rfl, rfl, rfl⟩

theorem spec_walkStepsBad (w : World) (W H : Int) (A : Option Addr) (n c : Nat) (f : Nat → Int) (x y dx dy s : Int) (hr : Row .i64 w A n c f) (hw : wkB W H n f x y dx dy = false) :
    Calls Tryd.prog 20 #[.agg #[.int .i64 W, .int .i64 H, .slice A n c], .agg #[.int .i64 x, .int .i64 y, .int .i64 dx, .int .i64 dy], .int .i64 s] w (Gives (.tuple #[.agg #[.int .i64 0, .int .i64 0, .int .i64 0, .int .i64 0], .int .i64 1]) w) := by
  have HL := Lib.hid (show Below w.heap.size w (((w.alloc (.cells #[.int .i64 W, .int .i64 H, .slice A n c] 35)).alloc (.cells #[.int .i64 x, .int .i64 y, .int .i64 dx, .int .i64 dy] 32)).alloc (.cells #[.int .i64 0, .int .i64 0, .int .i64 0, .int .i64 0] 32)) from (((Below.refl _ _).alloc (Nat.le_refl _) _).alloc (by simp) _).alloc (by simp; omega) _)
  have HR := Lib.hid hr
  have HC := Lib.hid (wkC_no hw)
  clear hr hw
  go_enter Tryd.func20, Tryd.ntmps20
  go_wp2_with fail
  refine (specC_is HC.out (panel3 w _ W H A n c _ _) (HR.out.below HL.out (Nat.le_refl _))).mono ?_
  rintro e w1 ⟨rfl, b1⟩
  obtain ⟨hc1, hf1⟩ := bcell b1
  go_wp2
  refine bodyPost_ret ?_ rfl ⟨rfl, ((((HL.out.trans (b1.mono (by first | exact Nat.le_refl _ | (simp; done) | (simp; omega) | omega))).setCell (by first | exact Nat.le_refl _ | (simp; done) | (simp; omega) | omega) _).setCell (by first | exact Nat.le_refl _ | (simp; done) | (simp; omega) | omega) _).setCell (by first | exact Nat.le_refl _ | (simp; done) | (simp; omega) | omega) _).setCell (by first | exact Nat.le_refl _ | (simp; done) | (simp; omega) | omega) _⟩
  simp [results, Tryd.results20, go_sem, hc1]

theorem spec_walkStepsOut (w : World) (W H : Int) (A : Option Addr) (n c : Nat) (f : Nat → Int) (x y dx dy s : Int) (hr : Row .i64 w A n c f) (hw : wkB W H n f x y dx dy = true) (hs : inB s 0 10000 = false) :
    Calls Tryd.prog 20 #[.agg #[.int .i64 W, .int .i64 H, .slice A n c], .agg #[.int .i64 x, .int .i64 y, .int .i64 dx, .int .i64 dy], .int .i64 s] w (Gives (.tuple #[.agg #[.int .i64 0, .int .i64 0, .int .i64 0, .int .i64 0], .int .i64 2]) w) := by
  have HL := Lib.hid (show Below w.heap.size w (((w.alloc (.cells #[.int .i64 W, .int .i64 H, .slice A n c] 35)).alloc (.cells #[.int .i64 x, .int .i64 y, .int .i64 dx, .int .i64 dy] 32)).alloc (.cells #[.int .i64 0, .int .i64 0, .int .i64 0, .int .i64 0] 32)) from (((Below.refl _ _).alloc (Nat.le_refl _) _).alloc (by simp) _).alloc (by simp; omega) _)
  have HR := Lib.hid hr
  have HC := Lib.hid (wkC_yes hw)
  have HS := Lib.hid hs
  clear hr hw hs
  go_enter Tryd.func20, Tryd.ntmps20
  go_wp2_with fail
  refine (specC_is HC.out (panel3 w _ W H A n c _ _) (HR.out.below HL.out (Nat.le_refl _))).mono ?_
  rintro e w1 ⟨rfl, b1⟩
  obtain ⟨hc1, hf1⟩ := bcell b1
  go_wp2_with fail
  refine (in_is HS.out _).mono ?_
  rintro e w1 ⟨rfl, rfl⟩
  go_wp2
  refine bodyPost_ret ?_ rfl ⟨rfl, ((((HL.out.trans (b1.mono (by first | exact Nat.le_refl _ | (simp; done) | (simp; omega) | omega))).setCell (by first | exact Nat.le_refl _ | (simp; done) | (simp; omega) | omega) _).setCell (by first | exact Nat.le_refl _ | (simp; done) | (simp; omega) | omega) _).setCell (by first | exact Nat.le_refl _ | (simp; done) | (simp; omega) | omega) _).setCell (by first | exact Nat.le_refl _ | (simp; done) | (simp; omega) | omega) _⟩
  simp [results, Tryd.results20, go_sem, hc1]
end Go.Proofs.YtajikegfladelaaDoor.Base
