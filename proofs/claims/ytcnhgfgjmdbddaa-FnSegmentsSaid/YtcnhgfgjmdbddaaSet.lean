/-
  SetBreak, spec's and the program's.
-/
import Derived.Test.YtcnhgfgjmdbddaaOwn
namespace Go.Proofs.Ytcnhgfgjmdbddaa.Base
open Go.RowKit
set_option linter.unusedVariables false

/-- the code of SetBreak -/
def setC (W H : Int) (n : Nat) (f : Nat → Int) (x y z : Int) : Int := if validB W H n f && hasB W H x y && !inB z 0 2 then 2 else codeP W H n f x y
/-- the breaks with another one at k -/
def putF (f : Nat → Int) (k : Nat) (z : Int) : Nat → Int := fun i => if i = k then z else f i

/-- the boxes at the start: the panel's, the point's, the result's -/
structure Start (w W1 : World) (W H : Int) (A : Option Addr) (n c : Nat) (x y : Int) : Prop where
  bel : Below w.heap.size w W1
  box : Box W1 w.heap.size W H A n c
  dot : Dot W1 (w.heap.size + 1) x y
  r0 : W1.cell? ⟨w.heap.size + 1 + 1, 0, none⟩ = some (.int .i64 0)
  r1 : W1.cell? ⟨w.heap.size + 1 + 1, 1, none⟩ = some (.int .i64 0)
  r2 : W1.cell? ⟨w.heap.size + 1 + 1, 2, none⟩ = some (.slice none 0 0)
  f0 : W1.frozen? ⟨w.heap.size + 1 + 1, 0, none⟩ = false
  f1 : W1.frozen? ⟨w.heap.size + 1 + 1, 1, none⟩ = false
  f2 : W1.frozen? ⟨w.heap.size + 1 + 1, 2, none⟩ = false
  lt : w.heap.size + 1 + 1 < W1.heap.size
theorem Start.below {w W1 W2 : World} {W H : Int} {A : Option Addr} {n c : Nat} {x y : Int} (h : Start w W1 W H A n c x y) (b : Below W1.heap.size W1 W2) : Start w W2 W H A n c x y :=
  ⟨h.bel.trans (b.mono h.bel.size), h.box.below b h.box.1, h.dot.below b h.dot.1, (b.cell (p := ⟨w.heap.size + 1 + 1, 0, none⟩) h.lt).trans h.r0, (b.cell (p := ⟨w.heap.size + 1 + 1, 1, none⟩) h.lt).trans h.r1, (b.cell (p := ⟨w.heap.size + 1 + 1, 2, none⟩) h.lt).trans h.r2,
   (b.frozen (p := ⟨w.heap.size + 1 + 1, 0, none⟩) h.lt).trans h.f0, (b.frozen (p := ⟨w.heap.size + 1 + 1, 1, none⟩) h.lt).trans h.f1, (b.frozen (p := ⟨w.heap.size + 1 + 1, 2, none⟩) h.lt).trans h.f2, Nat.lt_of_lt_of_le h.lt b.size⟩
theorem Start.mk_ (w : World) (W H : Int) (A : Option Addr) (n c : Nat) (x y : Int) :
    Start w (((w.alloc (.cells #[.int .i64 W, .int .i64 H, .slice A n c] 28)).alloc (.cells #[.int .i64 x, .int .i64 y] 32)).alloc (.cells #[.int .i64 0, .int .i64 0, .slice none 0 0] 28)) W H A n c x y := by
  have hb := (Below.refl ((w.alloc (.cells #[.int .i64 W, .int .i64 H, .slice A n c] 28)).alloc (.cells #[.int .i64 x, .int .i64 y] 32)).heap.size _).alloc (Nat.le_refl _) (.cells #[.int .i64 0, .int .i64 0, .slice none 0 0] 28)
  have hx := two_boxes w 28 32 W H A n c x y
  have hd := Dot.new (w.alloc (.cells #[.int .i64 W, .int .i64 H, .slice A n c] 28)) 32 x y
  simp only [World.size_alloc] at hd
  exact ⟨by go_grown, hx.below hb hx.1, hd.below hb hd.1, by simp [go_sem], by simp [go_sem], by simp [go_sem], by simp [go_sem], by simp [go_sem], by simp [go_sem], by simp⟩

/-- the end of a call that found a fault -/
theorem specSet_bad (w : World) (W H : Int) (A : Option Addr) (n c : Nat) (f : Nat → Int) (x y z : Int) (hr : Row .i64 w A n c f) (hc : setC W H n f x y z ≠ 0) :
    Calls Try.prog 13 #[.agg #[.int .i64 W, .int .i64 H, .slice A n c], .agg #[.int .i64 x, .int .i64 y], .int .i64 z] w (PanelOut 0 0 0 f (setC W H n f x y z) w) := by
  have HR := Lib.hid hr
  have HS := Lib.hid (Start.mk_ w W H A n c x y)
  have hnc := hr.1
  have hcm := hr.2.1
  clear hr
  cases hv : validB W H n f
  · have e : setC W H n f x y z = 1 := by simp [setC, hv, codeP]
    rw [e]
    have HV := Lib.hid hv
    have hcode := (code_1 (x := x) (y := y) hv).1
    have HC := Lib.hid hcode
    clear e hc hv hcode
    go_enter Try.func13, Try.ntmps13
    go_wp2_with fail
    refine (specOk_is HV.out HS.out.box (HR.out.below HS.out.bel (Nat.le_refl _))).mono ?_
    rintro e w1 ⟨m, rfl, rfl⟩
    have HS1 := Lib.hid (HS.out.below (below_of_drew (m := m) rfl))
    go_wp2_with fail
    refine (spec_code _ w.heap.size W H A n c f x y HS1.out.box (HR.out.below HS1.out.bel (Nat.le_refl _))).mono ?_
    rintro e w2 ⟨rfl, b2⟩
    rw [HC.out]
    obtain ⟨hB, -, -, q0, q1, q2, f0, f1, f2, hlt⟩ := HS1.out.below b2
    clear b2
    go_wp2
    refine bodyPost_ret ?_ rfl ⟨none, 0, rfl, ownRow_nil _ _ _, ((hB.setCell (by simp; omega) _).setCell (by simp; omega) _).setCell (by simp; omega) _⟩
    simp [results, Try.results13, go_sem, q0, q1, q2]
  · obtain ⟨hW, hH, -, -⟩ := validB_yes hv
    have HV := Lib.hid hv
    cases hh : hasB W H x y
    · have e : setC W H n f x y z = 2 := by simp [setC, hv, hh, codeP]
      rw [e]
      have HH := Lib.hid hh
      have HC := Lib.hid (code_2 (x := x) (y := y) (f := f) hv hh).1
      clear e hc hv hh
      go_enter Try.func13, Try.ntmps13
      go_wp2_with fail
      refine (specOk_is HV.out HS.out.box (HR.out.below HS.out.bel (Nat.le_refl _))).mono ?_
      rintro e w1 ⟨m, rfl, rfl⟩
      have HS1 := Lib.hid (HS.out.below (below_of_drew (m := m) rfl))
      go_wp2_with fail
      refine (specHas_is HH.out HS1.out.box hW hH).mono ?_
      rintro e w2 ⟨rfl, b2⟩
      have HS2 := Lib.hid (HS1.out.below b2)
      clear b2
      obtain ⟨hdz, d0, d1⟩ := id HS2.out.dot
      go_wp2_with fail
      clear hdz d0 d1
      refine (spec_code _ w.heap.size W H A n c f x y HS2.out.box (HR.out.below HS2.out.bel (Nat.le_refl _))).mono ?_
      rintro e w3 ⟨rfl, b3⟩
      rw [HC.out]
      obtain ⟨hB, -, -, q0, q1, q2, f0, f1, f2, hlt⟩ := HS2.out.below b3
      clear b3
      go_wp2
      refine bodyPost_ret ?_ rfl ⟨none, 0, rfl, ownRow_nil _ _ _, ((hB.setCell (by simp; omega) _).setCell (by simp; omega) _).setCell (by simp; omega) _⟩
      simp [results, Try.results13, go_sem, q0, q1, q2]
    · have HH := Lib.hid hh
      cases hk : inB z 0 2
      · have e : setC W H n f x y z = 2 := by simp [setC, hv, hh, hk]
        rw [e]
        have HK := Lib.hid hk
        clear e hc hv hh hk
        go_enter Try.func13, Try.ntmps13
        go_wp2_with fail
        refine (specOk_is HV.out HS.out.box (HR.out.below HS.out.bel (Nat.le_refl _))).mono ?_
        rintro e w1 ⟨m, rfl, rfl⟩
        have HS1 := Lib.hid (HS.out.below (below_of_drew (m := m) rfl))
        go_wp2_with fail
        refine (specHas_is HH.out HS1.out.box hW hH).mono ?_
        rintro e w2 ⟨rfl, b2⟩
        have HS2 := Lib.hid (HS1.out.below b2)
        clear b2
        go_wp2_with fail
        refine (kind_is HK.out _).mono ?_
        rintro e w3 ⟨rfl, rfl⟩
        obtain ⟨hB, -, -, q0, q1, q2, f0, f1, f2, hlt⟩ := HS2.out
        go_wp2
        refine bodyPost_ret ?_ rfl ⟨none, 0, rfl, ownRow_nil _ _ _, ((hB.setCell (by simp; omega) _).setCell (by simp; omega) _).setCell (by simp; omega) _⟩
        simp [results, Try.results13, go_sem, q0, q1, q2]
      · have HK := Lib.hid hk
        cases he : edgeB W H x y
        · exact absurd (by simp [setC, hv, hh, hk, codeP, he]) hc
        · have e : setC W H n f x y z = 6 := by simp [setC, hv, hh, hk, codeP, he]
          rw [e]
          have HC := Lib.hid (code_6 (x := x) (y := y) (f := f) hv hh he).1
          clear e hc hv hh hk he
          go_enter Try.func13, Try.ntmps13
          go_wp2_with fail
          refine (specOk_is HV.out HS.out.box (HR.out.below HS.out.bel (Nat.le_refl _))).mono ?_
          rintro e w1 ⟨m, rfl, rfl⟩
          have HS1 := Lib.hid (HS.out.below (below_of_drew (m := m) rfl))
          go_wp2_with fail
          refine (specHas_is HH.out HS1.out.box hW hH).mono ?_
          rintro e w2 ⟨rfl, b2⟩
          have HS2 := Lib.hid (HS1.out.below b2)
          clear b2
          go_wp2_with fail
          refine (kind_is HK.out _).mono ?_
          rintro e w3 ⟨rfl, rfl⟩
          obtain ⟨hdz, d0, d1⟩ := id HS2.out.dot
          go_wp2_with fail
          clear hdz d0 d1
          refine (spec_code _ w.heap.size W H A n c f x y HS2.out.box (HR.out.below HS2.out.bel (Nat.le_refl _))).mono ?_
          rintro e w3 ⟨rfl, b3⟩
          rw [HC.out]
          obtain ⟨hB, -, -, q0, q1, q2, f0, f1, f2, hlt⟩ := HS2.out.below b3
          clear b3
          go_wp2
          refine bodyPost_ret ?_ rfl ⟨none, 0, rfl, ownRow_nil _ _ _, ((hB.setCell (by simp; omega) _).setCell (by simp; omega) _).setCell (by simp; omega) _⟩
          simp [results, Try.results13, go_sem, q0, q1, q2]
end Go.Proofs.Ytcnhgfgjmdbddaa.Base
