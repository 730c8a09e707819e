/-
  SetBreak, the model's, where there is no fault.
-/
import Derived.Test.YtcnhgfgjmdbddaaSet
namespace Go.Proofs.Ytcnhgfgjmdbddaa.Base
open Go.RowKit
set_option linter.unusedVariables false

theorem setC_zero {W H : Int} {n : Nat} {f : Nat → Int} {x y z : Int} (h : setC W H n f x y z = 0) : validB W H n f = true ∧ hasB W H x y = true ∧ edgeB W H x y = false ∧ inB z 0 2 = true ∧ codeP W H n f x y = 0 := by
  have h2 : (validB W H n f && hasB W H x y && !inB z 0 2) = false := by
    cases e : (validB W H n f && hasB W H x y && !inB z 0 2)
    · rfl
    · simp only [setC, e, if_true] at h; omega
  have hc : codeP W H n f x y = 0 := by simpa only [setC, h2, Bool.false_eq_true, if_false] using h
  obtain ⟨hv, hh, he⟩ := code_zero hc
  refine ⟨hv, hh, he, ?_, hc⟩
  cases e : inB z 0 2
  · simp [hv, hh, e] at h2
  · rfl

/-- a store into a row of one's own -/
theorem OwnRow.put {w : World} {base b o n c : Nat} {f : Nat → Int} (h : OwnRow w base (some ⟨b, o, none⟩) n c f) {k : Nat} (hk : k < n) (z : Int) (hz : (Lit.int .i64 z).wf = true) :
    OwnRow (w.setCell ⟨b, o + k, none⟩ (.int .i64 z)) base (some ⟨b, o, none⟩) n c (putF f k z) := by
  refine ⟨h.1, h.2.1, fun i hi => ?_, fun hn => ?_⟩
  · unfold putF; split
    · exact hz
    · exact h.2.2.1 i hi
  · obtain ⟨b', o', e, h1, h2, hc⟩ := h.2.2.2 hn
    injection e with e
    injection e with e1 e2 e3
    subst e1 e2
    refine ⟨b, o, rfl, h1, by simpa [World.setCell] using h2, fun i hi => ⟨?_, by rw [World.frozen?_setCell]; exact (hc i hi).2⟩⟩
    unfold putF
    by_cases e : i = k
    · subst e
      rw [if_pos rfl]
      exact World.cell?_setCell_same _ _ _ (hc i hi).1
    · rw [if_neg e, World.cell?_setCell_other _ _ _ _ (fun h => e (by injection h; omega))]
      exact (hc i hi).1

theorem Start.belowB {w W1 W2 : World} {W H : Int} {A : Option Addr} {n c B : Nat} {x y : Int} (h : Start w W1 W H A n c x y) (b : Below B W1 W2) (hB : w.heap.size + 1 + 1 < B) : Start w W2 W H A n c x y :=
  ⟨h.bel.trans (b.mono (by omega)), h.box.below b (by omega), h.dot.below b (by omega), (b.cell (p := ⟨w.heap.size + 1 + 1, 0, none⟩) hB).trans h.r0, (b.cell (p := ⟨w.heap.size + 1 + 1, 1, none⟩) hB).trans h.r1, (b.cell (p := ⟨w.heap.size + 1 + 1, 2, none⟩) hB).trans h.r2,
   (b.frozen (p := ⟨w.heap.size + 1 + 1, 0, none⟩) hB).trans h.f0, (b.frozen (p := ⟨w.heap.size + 1 + 1, 1, none⟩) hB).trans h.f1, (b.frozen (p := ⟨w.heap.size + 1 + 1, 2, none⟩) hB).trans h.f2, Nat.lt_of_lt_of_le h.lt b.size⟩
theorem Box.setOther {w : World} {p : Nat} {W H : Int} {A : Option Addr} {n c : Nat} (h : Box w p W H A n c) {a : Addr} (ha : a.block ≠ p) (v : Value) : Box (w.setCell a v) p W H A n c :=
  ⟨by simpa [World.setCell] using h.1, by rw [World.cell?_setCell_other _ _ _ _ (fun e => ha (by rw [e]))]; exact h.2.1, by rw [World.cell?_setCell_other _ _ _ _ (fun e => ha (by rw [e]))]; exact h.2.2.1, by rw [World.cell?_setCell_other _ _ _ _ (fun e => ha (by rw [e]))]; exact h.2.2.2⟩

set_option maxHeartbeats 2000000 in
theorem specSet_ok (w : World) (W H : Int) (A : Option Addr) (n c : Nat) (f : Nat → Int) (x y z : Int) (hr : Row .i64 w A n c f) (hn2 : n ≤ 1048576) (hc : setC W H n f x y z = 0) :
    Calls Try.prog 13 #[.agg #[.int .i64 W, .int .i64 H, .slice A n c], .agg #[.int .i64 x, .int .i64 y], .int .i64 z] w (PanelOut W H n (putF f (numN W x y).toNat z) 0 w) := by
  have HR := Lib.hid hr
  have HS := Lib.hid (Start.mk_ w W H A n c x y)
  obtain ⟨hv, hh, he, hk, hcc⟩ := setC_zero hc
  obtain ⟨hW, hH, hin, -⟩ := validB_yes hv
  obtain ⟨x1, x2, y1, y2⟩ := inside hW hH hh he
  obtain ⟨l1, l2⟩ := num_lt hW hH hh he
  have l3 : numN W x y < (n : Int) := by rw [hin]; exact l2
  have hzz := in_yes hk
  have hwz : (Lit.int .i64 z).wf = true := WalkArith.wf_i64 (by omega)
  have HV := Lib.hid hv
  have HH := Lib.hid hh
  have HK := Lib.hid hk
  have HC := Lib.hid hcc
  have HWZ := Lib.hid hwz
  have hn : 0 < n := by omega
  clear hr hc hv hh he hk hcc hin l2 hwz
  go_enter Try.func13, Try.ntmps13
  go_wp2_with fail
  refine (specOk_is HV.out HS.out.box (HR.out.below HS.out.bel (Nat.le_refl _))).mono ?_
  rintro e w1 ⟨m, rfl, rfl⟩
  have HS1 := Lib.hid (HS.out.below (below_of_drew (m := m) rfl))
  go_wp2_with fail
  refine (specHas_is HH.out HS1.out.box hW hH).mono ?_
  rintro e w2 ⟨rfl, b2⟩
  have HS2 := Lib.hid (HS1.out.below b2)
  clear b2
  go_wp2_with fail
  refine (kind_is HK.out _).mono ?_
  rintro e w3 ⟨rfl, rfl⟩
  obtain ⟨hdz, d0, d1⟩ := id HS2.out.dot
  go_wp2_with fail
  clear hdz d0 d1
  refine (spec_code _ w.heap.size W H A n c f x y HS2.out.box (HR.out.below HS2.out.bel (Nat.le_refl _))).mono ?_
  rintro e w3 ⟨rfl, b3⟩
  rw [HC.out]
  have HS3 := Lib.hid (HS2.out.below b3)
  have hlt3 := HS3.out.lt
  clear b3 HS1 HS2
  go_wp2_with fail
  refine (spec_l02Own _ w.heap.size W H A n c f HS3.out.box (HR.out.below HS3.out.bel (Nat.le_refl _)) hn hn2).mono ?_
  rintro e w4 ⟨A', c', rfl, hO, b4⟩
  have hz3 : w.heap.size ≤ w3.heap.size := HS3.out.bel.size
  have HS4 := Lib.hid (HS3.out.below b4)
  obtain ⟨b, o, rfl, hb1, hb2, hcell⟩ := hO.2.2.2 hn
  have HO := Lib.hid hO
  clear hO b4 HS3
  have bN : Below w4.heap.size w4 (w4.alloc (.cells #[.int .i64 W, .int .i64 H, .slice (some ⟨b, o, none⟩) n c'] 28)) := (Below.refl _ _).alloc (Nat.le_refl _) _
  have HS5 := Lib.hid (HS4.out.below bN)
  have HY5 := Lib.hid (Box.new w4 28 W H (some ⟨b, o, none⟩) n c')
  have HO5 := Lib.hid (HO.out.below bN (Nat.le_refl _))
  clear bN hcell HO HS4
  go_wp2_with fail
  generalize hw5 : w4.alloc (.cells #[.int .i64 W, .int .i64 H, .slice (some ⟨b, o, none⟩) n c'] 28) = w5 at *
  clear hw5
  have hk : (numN W x y).toNat < n := by omega
  -- what stands in every world behind w5
  have hfacts : ∀ w6 : World, Below w5.heap.size w5.drew w6 → Start w w6 W H A n c x y ∧ Box w6 w4.heap.size W H (some ⟨b, o, none⟩) n c' ∧ OwnRow w6 w3.heap.size (some ⟨b, o, none⟩) n c' f ∧
      w6.cell? ⟨b, o + (numN W x y).toNat, none⟩ = some (.int .i64 (f (numN W x y).toNat)) ∧ w6.frozen? ⟨b, o + (numN W x y).toNat, none⟩ = false := fun w6 b6 => by
    have b6' : Below w5.heap.size w5 w6 := ((Below.refl _ w5).drew).trans b6
    have ho := HO5.out.below b6' (Nat.le_refl _)
    refine ⟨HS5.out.below b6', HY5.out.below b6' HY5.out.1, ho, ?_⟩
    obtain ⟨b', o', e, _, _, hc'⟩ := ho.2.2.2 hn
    injection e with e
    injection e with e1 e2 e3
    subst e1 e2
    exact hc' _ hk
  have HF := Lib.hid hfacts
  have HSD := Lib.hid (HS5.out.below ((Below.refl w5.heap.size w5).drew))
  clear hfacts
  obtain ⟨-, y0, y1', y2'⟩ := id HY5.out
  obtain ⟨hdz, d0, d1⟩ := id HS5.out.dot
  have hbne : b ≠ w4.heap.size := by omega
  first | (go_region_with (go_at_call 47; refine (specNumber _ w.heap.size W H A n c x y ?_ hW x1 x2 y1 y2).mono ?_; exact HSD.out.box; rintro e w6 ⟨rfl, b6⟩; obtain ⟨hs6, hy6, ho6, hc6, hf6⟩ := HF.out w6 b6; have HS6 := Lib.hid hs6; have HO6 := Lib.hid ho6; have HY6 := Lib.hid hy6; obtain ⟨-, u0, u1, u2⟩ := hy6; clear b6 hs6 ho6)) | fail
  all_goals
    have b7 : Below w3.heap.size w6 (w6.setCell ⟨b, o + (numN W x y).toNat, none⟩ (.int .i64 z)) := (Below.refl _ _).setCell hb1 _
    have HO7 := Lib.hid (HO6.out.put hk z HWZ.out)
    have HS7 := Lib.hid (HS6.out.belowB b7 hlt3)
    have HY7 := Lib.hid (HY6.out.setOther (a := ⟨b, o + (numN W x y).toNat, none⟩) hbne (.int .i64 z))
    clear b7 HO6 HS6 HY6 hc6 hf6 u0 u1 u2 y0 y1' y2' hdz d0 d1
    generalize w6.setCell ⟨b, o + (numN W x y).toNat, none⟩ (.int .i64 z) = w7 at *
    obtain ⟨-, v0, v1, v2⟩ := id HY7.out
    obtain ⟨hB, -, -, q0, q1, q2, f0, f1, f2, hlt⟩ := HS7.out
    go_wp2
    refine bodyPost_ret ?_ rfl ⟨some ⟨b, o, none⟩, c', rfl, (ownRow_setBox HO7.out hlt3 _ _ _).mono hz3, ((hB.setCell (by simp; omega) _).setCell (by simp; omega) _).setCell (by simp; omega) _⟩
    simp [results, Try.results13, go_sem, q0, q1, q2]
end Go.Proofs.Ytcnhgfgjmdbddaa.Base
