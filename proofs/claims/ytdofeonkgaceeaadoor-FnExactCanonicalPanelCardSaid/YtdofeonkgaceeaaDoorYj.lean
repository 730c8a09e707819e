/-
  MapPanel: the specification's, the program's.
-/
import Derived.Test.YtdofeonkgaceeaaDoorYi
import Derived.Test.YtdofeonkgaceeaaDoorMpt
namespace Go.Proofs.YtdofeonkgaceeaaDoor.Base
open Go Go.RowKit
set_option linter.unusedVariables false
set_option linter.unusedSimpArgs false

/-- the two boxes of MapPanel -/
structure PSt (w0 : World) (W H : Int) (A : Option Addr) (n c : Nat) (w : World) : Prop where
  pan : At w w0.heap.size #[.int .i64 W, .int .i64 H, .slice A n c] 26
  res : At w (w0.heap.size + 1) #[.int .i64 0, .int .i64 0, .slice none 0 0] 26
  bel : Below w0.heap.size w0 w
section
variable {w0 w w' : World} {W H : Int} {A : Option Addr} {n c : Nat}
theorem PSt.next (h : PSt w0 W H A n c w) (b : Below w.heap.size w w') : PSt w0 W H A n c w' :=
  ⟨h.pan.below b h.pan.lt, h.res.below b h.res.lt, h.bel.trans (b.mono h.bel.size)⟩
theorem PSt.box (h : PSt w0 W H A n c w) : Box w w0.heap.size W H A n c := ⟨h.pan.lt, h.pan.cellv (i := 0) rfl, h.pan.cellv (i := 1) rfl, h.pan.cellv (i := 2) rfl⟩
theorem PSt.cells (h : PSt w0 W H A n c w) : w0.heap.size < w.heap.size ∧ w0.heap.size + 1 < w.heap.size ∧ w.cell? ⟨w0.heap.size, 0, none⟩ = some (.int .i64 W) ∧ w.cell? ⟨w0.heap.size, 1, none⟩ = some (.int .i64 H) ∧ w.cell? ⟨w0.heap.size, 2, none⟩ = some (.slice A n c) ∧
    w.cell? ⟨w0.heap.size + 1, 0, none⟩ = some (.int .i64 0) ∧ w.cell? ⟨w0.heap.size + 1, 1, none⟩ = some (.int .i64 0) ∧ w.cell? ⟨w0.heap.size + 1, 2, none⟩ = some (.slice none 0 0) ∧
    w.frozen? ⟨w0.heap.size + 1, 0, none⟩ = false ∧ w.frozen? ⟨w0.heap.size + 1, 1, none⟩ = false ∧ w.frozen? ⟨w0.heap.size + 1, 2, none⟩ = false :=
  ⟨h.pan.lt, h.res.lt, h.pan.cellv (i := 0) rfl, h.pan.cellv (i := 1) rfl, h.pan.cellv (i := 2) rfl, h.res.cellv (i := 0) rfl, h.res.cellv (i := 1) rfl, h.res.cellv (i := 2) rfl, h.res.frozen 0, h.res.frozen 1, h.res.frozen 2⟩
theorem PSt.out (h : PSt w0 W H A n c w) (x y z : Value) : Below w0.heap.size w0 (((w.setCell ⟨w0.heap.size + 1, 0, none⟩ x).setCell ⟨w0.heap.size + 1, 1, none⟩ y).setCell ⟨w0.heap.size + 1, 2, none⟩ z) :=
  ((h.bel.setCell (p := ⟨w0.heap.size + 1, 0, none⟩) (by show w0.heap.size ≤ w0.heap.size + 1; omega) _).setCell (p := ⟨w0.heap.size + 1, 1, none⟩) (by show w0.heap.size ≤ w0.heap.size + 1; omega) _).setCell (p := ⟨w0.heap.size + 1, 2, none⟩) (by show w0.heap.size ≤ w0.heap.size + 1; omega) _
end
theorem PSt.mk2 (w : World) (W H : Int) (A : Option Addr) (n c : Nat) :
    PSt w W H A n c ((w.alloc (.cells #[.int .i64 W, .int .i64 H, .slice A n c] 26)).alloc (.cells #[.int .i64 0, .int .i64 0, .slice none 0 0] 26)) := by
  have h1 := At.new (w.alloc (.cells #[.int .i64 W, .int .i64 H, .slice A n c] 26)) #[.int .i64 0, .int .i64 0, .slice none 0 0] 26
  rw [World.size_alloc] at h1
  exact ⟨(At.new w _ _).below ((Below.refl _ _).alloc (Nat.le_refl _) _) (by simp), h1, ((Below.refl _ _).alloc (Nat.le_refl _) _).alloc (by simp) _⟩
def mzW (W H : Int) (n : Nat) (f : Nat → Int) (s : Int) : Int := if mpC W H n f s = 0 then mvW W H s else 0
def mzH (W H : Int) (n : Nat) (f : Nat → Int) (s : Int) : Int := if mpC W H n f s = 0 then mvH W H s else 0
def mzN (W H : Int) (n : Nat) (f : Nat → Int) (s : Int) : Nat := if mpC W H n f s = 0 then n else 0
def mzF (W H : Int) (n : Nat) (f : Nat → Int) (s : Int) : Nat → Int := if mpC W H n f s = 0 then mpF W H s f else fun _ => 0
theorem mz_ok {W H : Int} {n : Nat} {f : Nat → Int} {s : Int} (h : mpC W H n f s = 0) : mzW W H n f s = mvW W H s ∧ mzH W H n f s = mvH W H s ∧ mzN W H n f s = n ∧ mzF W H n f s = mpF W H s f := by simp [mzW, mzH, mzN, mzF, h]
theorem mz_no {W H : Int} {n : Nat} {f : Nat → Int} {s : Int} (h : mpC W H n f s ≠ 0) : mzW W H n f s = 0 ∧ mzH W H n f s = 0 ∧ mzN W H n f s = 0 ∧ mzF W H n f s = fun _ => 0 := by simp [mzW, mzH, mzN, mzF, h]
theorem mpC_yes {W H : Int} {n : Nat} {f : Nat → Int} {s : Int} (h : mpC W H n f s = 0) : validB W H n f = true ∧ inB s 0 7 = true := by
  unfold mpC at h
  cases h1 : validB W H n f
  · simp [h1] at h
  · cases h2 : inB s 0 7
    · simp [h1, h2] at h
    · exact ⟨rfl, rfl⟩
set_option maxHeartbeats 2000000 in
theorem spec_mapPanel (w : World) (W H : Int) (A : Option Addr) (n c : Nat) (f : Nat → Int) (s : Int) (hr : Row .i64 w A n c f) :
    Calls Tryd.prog 12 #[.agg #[.int .i64 W, .int .i64 H, .slice A n c], .int .i64 s] w (PanelOut (mzW W H n f s) (mzH W H n f s) (mzN W H n f s) (mzF W H n f s) (mpC W H n f s) w) := by
  have HS0 := Lib.hid (PSt.mk2 w W H A n c)
  have HR := Lib.hid (hr.below (PSt.mk2 w W H A n c).bel (Nat.le_refl _))
  have HC : Hid (∀ (w : World) (p : Nat), Box w p W H A n c → Row .i64 w A n c f → Calls Tryd.prog 49 #[.pointer (some ⟨p, 0, none⟩), .int .i64 s] w (Gives (.int .i64 (mpC W H n f s)) w)) := Lib.hid fun w p hb h => (spec_code6 s hb h).mono fun _ _ h => drew_gives h
  clear hr
  by_cases hc : mpC W H n f s = 0
  · obtain ⟨hv, hs⟩ := mpC_yes hc
    rw [(mz_ok hc).1, (mz_ok hc).2.1, (mz_ok hc).2.2.1, (mz_ok hc).2.2.2]
    have HM : Hid (∀ (w : World) (p : Nat), Box w p W H A n c → Row .i64 w A n c f → Calls Tryd.prog 50 #[.pointer (some ⟨p, 0, none⟩), .int .i64 s] w (PanelMade (mvW W H s) (mvH W H s) n (mpF W H s f) w)) := Lib.hid fun w p hb h => spec_map w p W H A n c f s hb h hv hs
    rw [hc] at HC ⊢
    clear hc hv hs
    go_enter Tryd.func12, Tryd.ntmps12
    go_wp2_with fail
    refine (HC.out _ _ HS0.out.box HR.out).mono ?_
    rintro e w1 ⟨rfl, b1⟩
    have HS1 := Lib.hid (HS0.out.next b1)
    have HR1 := Lib.hid (HR.out.below b1 (Nat.le_refl _))
    clear b1
    go_wp2_with fail
    refine (HM.out _ _ HS1.out.box HR1.out).mono ?_
    rintro e w2 ⟨A2, c2, rfl, ho, b2⟩
    have HS2 := Lib.hid (HS1.out.next b2)
    have HO := Lib.hid ho
    have hz1 := HS1.out.res.lt
    obtain ⟨zA, zB, k0, k1, k2, r0, r1, r2, f0, f1, f2⟩ := HS2.out.cells
    clear b2 ho
    go_wp2
    refine bodyPost_ret ?_ rfl ⟨A2, c2, rfl, (ownRow_setBox HO.out hz1 _ _ _).mono (by have := HS1.out.bel.size; omega), HS2.out.out _ _ _⟩
    simp [results, Tryd.results12, go_sem, r0, r1, r2]
  · rw [(mz_no hc).1, (mz_no hc).2.1, (mz_no hc).2.2.1, (mz_no hc).2.2.2]
    have hb : (mpC W H n f s != 0) = true := bne_iff_ne.2 hc
    generalize mpC W H n f s = q at *
    clear hc
    go_enter Tryd.func12, Tryd.ntmps12
    go_wp2_with fail
    refine (HC.out _ _ HS0.out.box HR.out).mono ?_
    rintro e w1 ⟨rfl, b1⟩
    have HS1 := Lib.hid (HS0.out.next b1)
    obtain ⟨zA, zB, k0, k1, k2, r0, r1, r2, f0, f1, f2⟩ := HS1.out.cells
    clear b1
    go_wp2
    refine bodyPost_ret ?_ rfl ⟨none, 0, rfl, ownRow_nil _ _ _, HS1.out.out _ _ _⟩
    simp [results, Tryd.results12, go_sem, r0, r1, r2]
set_option maxHeartbeats 2000000 in
theorem impl_mapPanel (w : World) (W H : Int) (A : Option Addr) (n c : Nat) (f : Nat → Int) (s : Int) (hr : Row .i64 w A n c f) (hT : Cel w 0 [.int .i64 0, .int .i64 2, .int .i64 1]) :
    Calls Tryd.prog 14 #[.agg #[.int .i64 W, .int .i64 H, .slice A n c], .int .i64 s] w (PanelOut (mzW W H n f s) (mzH W H n f s) (mzN W H n f s) (mzF W H n f s) (mpC W H n f s) w) := by
  have HS0 := Lib.hid (PSt.mk2 w W H A n c)
  have HR := Lib.hid (hr.below (PSt.mk2 w W H A n c).bel (Nat.le_refl _))
  have HT := Lib.hid hT
  have HC : Hid (∀ w : World, Row .i64 w A n c f → Calls Tryd.prog 52 #[.agg #[.int .i64 W, .int .i64 H, .slice A n c], .int .i64 s] w (Gives (.int .i64 (mpC W H n f s)) w)) := Lib.hid fun w h => impl_symCode w W H A n c f s h
  clear hr hT
  by_cases hc : mpC W H n f s = 0
  · obtain ⟨hv, hs⟩ := mpC_yes hc
    rw [(mz_ok hc).1, (mz_ok hc).2.1, (mz_ok hc).2.2.1, (mz_ok hc).2.2.2]
    have HM : Hid (∀ w : World, Row .i64 w A n c f → Cel w 0 [.int .i64 0, .int .i64 2, .int .i64 1] → Calls Tryd.prog 53 #[.agg #[.int .i64 W, .int .i64 H, .slice A n c], .int .i64 s] w (PanelMade (mvW W H s) (mvH W H s) n (mpF W H s f) w)) := Lib.hid fun w h ht => impl_moved w W H A n c f s h hv hs ht
    rw [hc] at HC ⊢
    clear hc hv hs
    go_enter Tryd.func14, Tryd.ntmps14
    go_wp2_with fail
    refine (HC.out _ HR.out).mono ?_
    rintro e w1 ⟨rfl, b1⟩
    have HS1 := Lib.hid (HS0.out.next b1)
    have HR1 := Lib.hid (HR.out.below b1 (Nat.le_refl _))
    obtain ⟨zA, zB, k0, k1, k2, r0, r1, r2, f0, f1, f2⟩ := HS1.out.cells
    clear b1
    go_wp2_with fail
    clear zA zB k0 k1 k2 r0 r1 r2 f0 f1 f2
    refine (HM.out _ HR1.out (HT.out.below HS1.out.bel HT.out.1)).mono ?_
    rintro e w2 ⟨A2, c2, rfl, ho, b2⟩
    have HS2 := Lib.hid (HS1.out.next b2)
    have HO := Lib.hid ho
    have hz1 := HS1.out.res.lt
    obtain ⟨zA, zB, k0, k1, k2, r0, r1, r2, f0, f1, f2⟩ := HS2.out.cells
    clear b2 ho
    go_wp2
    refine bodyPost_ret ?_ rfl ⟨A2, c2, rfl, (ownRow_setBox HO.out hz1 _ _ _).mono (by have := HS1.out.bel.size; omega), HS2.out.out _ _ _⟩
    simp [results, Tryd.results14, go_sem, r0, r1, r2]
  · rw [(mz_no hc).1, (mz_no hc).2.1, (mz_no hc).2.2.1, (mz_no hc).2.2.2]
    have hb : (mpC W H n f s != 0) = true := bne_iff_ne.2 hc
    generalize mpC W H n f s = q at *
    clear hc
    go_enter Tryd.func14, Tryd.ntmps14
    go_wp2_with fail
    refine (HC.out _ HR.out).mono ?_
    rintro e w1 ⟨rfl, b1⟩
    have HS1 := Lib.hid (HS0.out.next b1)
    obtain ⟨zA, zB, k0, k1, k2, r0, r1, r2, f0, f1, f2⟩ := HS1.out.cells
    clear b1
    go_wp2
    refine bodyPost_ret ?_ rfl ⟨none, 0, rfl, ownRow_nil _ _ _, HS1.out.out _ _ _⟩
    simp [results, Tryd.results14, go_sem, r0, r1, r2]
end Go.Proofs.YtdofeonkgaceeaaDoor.Base
