/-
  UndoJoin, the model's and the program's.
-/
import Derived.Test.YtneknajeecgnoaaUdj
namespace Go.Proofs.Ytneknajeecgnoaa.Base
open Go Go.RowKit
set_option linter.unusedVariables false
set_option linter.unusedSimpArgs false

theorem udj_boxes {w w1 : World} {A B : Option Addr} {n c m d : Nat} (b1 : Below ((w.alloc (.cells #[.slice A n c, .slice B m d] 26)).alloc (.cells #[.slice none 0 0, .slice none 0 0] 26)).heap.size ((w.alloc (.cells #[.slice A n c, .slice B m d] 26)).alloc (.cells #[.slice none 0 0, .slice none 0 0] 26)) w1) :
    Cel w1 w.heap.size [.slice A n c, .slice B m d] ∧ At w1 (w.heap.size + 1) #[.slice none 0 0, .slice none 0 0] 26 ∧ Below w.heap.size w w1 := by
  have h0 := ((Cel.new w [.slice A n c, .slice B m d] 26).below ((Below.refl _ _).alloc (Nat.le_refl _) (.cells #[.slice none 0 0, .slice none 0 0] 26)) (by simp)).below b1 (by simp; omega)
  have h1 := (At.new (w.alloc (.cells #[.slice A n c, .slice B m d] 26)) #[.slice none 0 0, .slice none 0 0] 26).below b1 (by simp)
  rw [World.size_alloc] at h1
  exact ⟨h0, h1, (((Below.refl w.heap.size w).alloc (Nat.le_refl _) (.cells #[.slice A n c, .slice B m d] 26)).alloc (by simp) (.cells #[.slice none 0 0, .slice none 0 0] 26)).trans (b1.mono (by simp; omega))⟩
theorem udj_cel (w : World) (A B : Option Addr) (n c m d : Nat) : Cel ((w.alloc (.cells #[.slice A n c, .slice B m d] 26)).alloc (.cells #[.slice none 0 0, .slice none 0 0] 26)) w.heap.size [.slice A n c, .slice B m d] := (Cel.new w [.slice A n c, .slice B m d] 26).below ((Below.refl _ _).alloc (Nat.le_refl _) (.cells #[.slice none 0 0, .slice none 0 0] 26)) (by simp)
theorem udj_bel (w : World) (A B : Option Addr) (n c m d : Nat) : Below w.heap.size w ((w.alloc (.cells #[.slice A n c, .slice B m d] 26)).alloc (.cells #[.slice none 0 0, .slice none 0 0] 26)) := ((Below.refl w.heap.size w).alloc (Nat.le_refl _) (.cells #[.slice A n c, .slice B m d] 26)).alloc (by simp) (.cells #[.slice none 0 0, .slice none 0 0] 26)
theorem OwnRow.setNe {w : World} {base b o n c : Nat} {f : Nat → Int} (h : OwnRow w base (some ⟨b, o, none⟩) n c f) {a i : Nat} (hne : a ≠ b) (v : Value) : OwnRow (w.setCell ⟨a, i, none⟩ v) base (some ⟨b, o, none⟩) n c f :=
  ⟨h.1, h.2.1, h.2.2.1, fun hn => by
    obtain ⟨b', o', e, h1, h2, hc⟩ := h.2.2.2 hn
    injection e with e
    injection e with e1 e2 e3
    subst e1 e2
    refine ⟨b, o, rfl, h1, by simpa [World.setCell] using h2, fun j hj => ⟨?_, ?_⟩⟩
    · rw [World.cell?_setCell_other _ _ _ _ (fun e => by injection e; omega)]
      exact (hc j hj).1
    · rw [World.frozen?_setCell]
      exact (hc j hj).2⟩
theorem OwnRow.pre {w : World} {base n c k : Nat} {A : Option Addr} {f : Nat → Int} (h : OwnRow w base A n c f) (hk : k ≤ n) : OwnRow w base A k c f :=
  ⟨Nat.le_trans hk h.1, h.2.1, fun i hi => h.2.2.1 i (by omega), fun hn => by
    obtain ⟨b, o, e, h1, h2, hc⟩ := h.2.2.2 (by omega)
    exact ⟨b, o, e, h1, h2, fun j hj => hc j (by omega)⟩⟩
theorem Row.setNe {w : World} {b o n c : Nat} {f : Nat → Int} (h : Row .i64 w (some ⟨b, o, none⟩) n c f) {a i : Nat} (hne : a ≠ b) (v : Value) : Row .i64 (w.setCell ⟨a, i, none⟩ v) (some ⟨b, o, none⟩) n c f :=
  ⟨h.1, h.2.1, h.2.2.1, fun hn => by
    obtain ⟨b', o', e, h2, hc⟩ := h.2.2.2 hn
    injection e with e
    injection e with e1 e2 e3
    subst e1 e2
    refine ⟨b, o, rfl, by simpa [World.setCell] using h2, fun j hj => ?_⟩
    rw [World.cell?_setCell_other _ _ _ _ (fun e => by injection e; omega)]
    exact hc j hj⟩
theorem Row.pre {w : World} {n c k : Nat} {A : Option Addr} {f : Nat → Int} (h : Row .i64 w A n c f) (hk : k ≤ n) : Row .i64 w A k c f :=
  ⟨Nat.le_trans hk h.1, h.2.1, fun i hi => h.2.2.1 i (by omega), fun hn => by
    obtain ⟨b, o, e, h2, hc⟩ := h.2.2.2 (by omega)
    exact ⟨b, o, e, h2, fun j hj => hc j (by omega)⟩⟩
theorem Cel.setNe {w : World} {p b i : Nat} {cs : List Value} (h : Cel w p cs) (hb : b ≠ p) (v : Value) : Cel (w.setCell ⟨b, i, none⟩ v) p cs :=
  ⟨by simpa [World.setCell] using h.1, fun j u hu => by rw [World.cell?_setCell_other _ _ _ _ (fun e => hb (by injection e))]; exact h.2 j u hu⟩
/-- what stands behind the store into the copy of the parents -/
def UdS (w w1 : World) (A : Option Addr) (n c : Nat) (b1 o1 m d : Nat) (g : Nat → Int) (a1 p1 c1 : Nat) (f : Nat → Int) (X : World) : Prop :=
  Below w.heap.size w X ∧ At X (w.heap.size + 1) #[.slice none 0 0, .slice none 0 0] 26 ∧ Cel X w.heap.size [.slice A n c, .slice (some ⟨b1, o1, none⟩) (m + 1) d] ∧ Row .i64 X (some ⟨b1, o1, none⟩) m d g ∧ OwnRow X w1.heap.size (some ⟨a1, p1, none⟩) n c1 f
theorem ownRow_nilU {w : World} {base : Nat} {A : Option Addr} {f : Nat → Int} : OwnRow w base A 0 0 f := ⟨Nat.le_refl _, by unfold maxLen; omega, fun i hi => absurd hi (Nat.not_lt_zero _), fun h => absurd h (Nat.lt_irrefl _)⟩
set_option maxHeartbeats 1000000 in
theorem spec_undo_bad (w : World) (A : Option Addr) (n c : Nat) (f : Nat → Int) (B : Option Addr) (m d : Nat) (g : Nat → Int)
    (hr : Row .i64 w A n c f) (hr' : Row .i64 w B m d g) (hv : vjB n f m g = false) :
    Calls Try.prog 23 #[.agg #[.slice A n c, .slice B m d]] w (JnOut 0 f 0 g 1 w) := by
  have HC := Lib.hid (okJ_is hv (udj_cel w A B n c m d) (hr.below (udj_bel w A B n c m d) (Nat.le_refl _)) (hr'.below (udj_bel w A B n c m d) (Nat.le_refl _)))
  clear hr hr' hv
  go_enter Try.func23, Try.ntmps23
  go_wp2_with fail
  refine HC.out.mono ?_
  rintro e w1 ⟨rfl, b1⟩
  obtain ⟨hx, hz, hB⟩ := udj_boxes b1
  have HX := Lib.hid hx
  have HZ := Lib.hid hz
  have HB := Lib.hid hB
  have kz := hx.1
  have lz := hz.lt
  have k0 : w1.cell? ⟨w.heap.size, 0, none⟩ = some (.slice A n c) := hx.2 0 _ rfl
  have k1 : w1.cell? ⟨w.heap.size, 1, none⟩ = some (.slice B m d) := hx.2 1 _ rfl
  have q0 : w1.cell? ⟨w.heap.size + 1, 0, none⟩ = some (.slice none 0 0) := hz.cellv (i := 0) rfl
  have q1 : w1.cell? ⟨w.heap.size + 1, 1, none⟩ = some (.slice none 0 0) := hz.cellv (i := 1) rfl
  have f0 := hz.frozen 0
  have f1 := hz.frozen 1
  clear b1 hx hz hB
  go_wp2
  refine bodyPost_ret (v := .tuple #[.agg #[.slice none 0 0, .slice none 0 0], .int .i64 1]) (by simp [results, Try.results23, go_sem, q0, q1]) rfl ⟨none, 0, none, 0, rfl, ⟨ownRow_nilU, ownRow_nilU, fun h1 h2 => absurd h2 (by omega)⟩, ?_⟩
  exact (HB.out.setCell (by simp) _).setCell (by simp) _
set_option maxHeartbeats 1000000 in
theorem spec_undo_none (w : World) (A : Option Addr) (n c : Nat) (f : Nat → Int) (B : Option Addr) (m d : Nat) (g : Nat → Int)
    (hr : Row .i64 w A n c f) (hr' : Row .i64 w B m d g) (hv : vjB n f m g = true) (hm : m = 0) :
    Calls Try.prog 23 #[.agg #[.slice A n c, .slice B m d]] w (JnOut 0 f 0 g 6 w) := by
  have m0 : m < 1 := by omega
  clear hm
  have HC := Lib.hid (okJ_is hv (udj_cel w A B n c m d) (hr.below (udj_bel w A B n c m d) (Nat.le_refl _)) (hr'.below (udj_bel w A B n c m d) (Nat.le_refl _)))
  clear hr hr' hv
  go_enter Try.func23, Try.ntmps23
  go_wp2_with fail
  refine HC.out.mono ?_
  rintro e w1 ⟨rfl, b1⟩
  obtain ⟨hx, hz, hB⟩ := udj_boxes b1
  have HX := Lib.hid hx
  have HZ := Lib.hid hz
  have HB := Lib.hid hB
  have kz := hx.1
  have lz := hz.lt
  have k0 : w1.cell? ⟨w.heap.size, 0, none⟩ = some (.slice A n c) := hx.2 0 _ rfl
  have k1 : w1.cell? ⟨w.heap.size, 1, none⟩ = some (.slice B m d) := hx.2 1 _ rfl
  have q0 : w1.cell? ⟨w.heap.size + 1, 0, none⟩ = some (.slice none 0 0) := hz.cellv (i := 0) rfl
  have q1 : w1.cell? ⟨w.heap.size + 1, 1, none⟩ = some (.slice none 0 0) := hz.cellv (i := 1) rfl
  have f0 := hz.frozen 0
  have f1 := hz.frozen 1
  clear b1 hx hz hB
  go_wp2
  refine bodyPost_ret (v := .tuple #[.agg #[.slice none 0 0, .slice none 0 0], .int .i64 6]) (by simp [results, Try.results23, go_sem, q0, q1]) rfl ⟨none, 0, none, 0, rfl, ⟨ownRow_nilU, ownRow_nilU, fun h1 h2 => absurd h2 (by omega)⟩, ?_⟩
  exact (HB.out.setCell (by simp) _).setCell (by simp) _
set_option maxHeartbeats 4000000 in
theorem spec_undo_ok (w : World) (A : Option Addr) (n c : Nat) (f : Nat → Int) (B : Option Addr) (m d : Nat) (g : Nat → Int) (z : Nat)
    (hr : Row .i64 w A n c f) (hr' : Row .i64 w B (m + 1) d g) (hv : vjB n f (m + 1) g = true) (hz : g m = z) :
    Calls Try.prog 23 #[.agg #[.slice A n c, .slice B (m + 1) d]] w (JnOut n (putF f z z) m g 0 w) := by
  have hJ := vj_yes hv
  have hn256 := hJ.n2
  have hml := hJ.le
  have hzn : z < n := by have := (hJ.logs m (by omega)).2.1; omega
  have HZN := Lib.hid hz
  have HR := Lib.hid hr
  have HR' := Lib.hid hr'
  have HC := Lib.hid (okJ_is hv (udj_cel w A B n c (m + 1) d) (hr.below (udj_bel w A B n c (m + 1) d) (Nat.le_refl _)) (hr'.below (udj_bel w A B n c (m + 1) d) (Nat.le_refl _)))
  clear hr hr' hv hJ hz
  go_enter Try.func23, Try.ntmps23
  go_wp2_with fail
  refine HC.out.mono ?_
  rintro e w1 ⟨rfl, b1⟩
  obtain ⟨hx, hz, hB⟩ := udj_boxes b1
  have HX := Lib.hid hx
  have HZ := Lib.hid hz
  have HB := Lib.hid hB
  have kz := hx.1
  have lz := hz.lt
  have k0 : w1.cell? ⟨w.heap.size, 0, none⟩ = some (.slice A n c) := hx.2 0 _ rfl
  have k1 : w1.cell? ⟨w.heap.size, 1, none⟩ = some (.slice B (m + 1) d) := hx.2 1 _ rfl
  clear b1 hx hz hB
  go_wp2_with fail
  refine (spec_ownJ _ w.heap.size A n c f B (m + 1) d g HX.out (HR.out.below HB.out (Nat.le_refl _)) (HR'.out.below HB.out (Nat.le_refl _)) (by omega) (by omega)).mono ?_
  rintro e w2 ⟨A1, c1, B1, d1, rfl, hJ, b2⟩
  have hz2 := HZ.out.below b2 HZ.out.lt
  have HB2 := Lib.hid (HB.out.trans (b2.mono HB.out.size))
  have HJ := Lib.hid hJ
  have HW := Lib.hid hJ.2.1.1
  obtain ⟨a1, p1, rfl, la1, la2, ha⟩ := hJ.1.2.2.2 (by omega)
  obtain ⟨b1, o1, rfl, lb1, lb2, hb⟩ := hJ.2.1.2.2.2 (by omega)
  obtain ⟨haz, hafz⟩ := ha z hzn
  obtain ⟨hbm, hbfm⟩ := hb m (by omega)
  rw [HZN.out] at hbm
  have hcap := HW.out
  have hcmx := hJ.2.1.2.1
  have hcap1 := hJ.1.1
  have hcmx1 := hJ.1.2.1
  unfold maxLen at hcmx hcmx1
  have lz2 := hz2.lt
  have q0 : w2.cell? ⟨w.heap.size + 1, 0, none⟩ = some (.slice none 0 0) := hz2.cellv (i := 0) rfl
  have q1 : w2.cell? ⟨w.heap.size + 1, 1, none⟩ = some (.slice none 0 0) := hz2.cellv (i := 1) rfl
  have f0 := hz2.frozen 0
  have f1 := hz2.frozen 1
  have la3 : w.heap.size + 1 < a1 := by omega
  have lb3 : w.heap.size + 1 < b1 := by omega
  have hzz := b2.size
  have HZ2 := Lib.hid hz2
  have HNE := Lib.hid (show a1 ≠ b1 from fun e => HJ.out.2.2 (by omega) (by omega) a1 rfl (by rw [e]; rfl))
  clear b2 hJ ha hb hz2 k0 k1
  go_wp2
  clear q0 q1 f0 f1
  have hz5 := ((HZ2.out.setOther (a := ⟨a1, p1 + z, none⟩) (by show a1 ≠ _; omega) (.int .i64 (z : Int))).set 0 (.slice (some ⟨a1, p1, none⟩) n c1)).set 1 (.slice (some ⟨b1, o1, none⟩) m d1)
  have hz6 := hz5.below ((Below.refl _ _).alloc (Nat.le_refl _) (.cells #[.slice (some ⟨a1, p1, none⟩) n c1, .slice (some ⟨b1, o1, none⟩) m d1] 26)) hz5.lt
  have r0 := hz6.cellv (i := 0) (v := .slice (some ⟨a1, p1, none⟩) n c1) rfl
  have r1 := hz6.cellv (i := 1) (v := .slice (some ⟨b1, o1, none⟩) m d1) rfl
  refine bodyPost_ret (v := .tuple #[.agg #[.slice (some ⟨a1, p1, none⟩) n c1, .slice (some ⟨b1, o1, none⟩) m d1], .int .i64 0]) (by simp [results, Try.results23, go_sem, r0, r1]) rfl ⟨_, c1, _, d1, rfl, ⟨?_, ?_, ?_⟩, ?_⟩
  · exact ((((HJ.out.1.put hzn z (WalkArith.wf_i64 (by omega))).setLow (p := w.heap.size + 1) (by omega) _ _).setLow (p := w.heap.size + 1) (by omega) _ _).below ((Below.refl _ _).alloc (Nat.le_refl _) _) (Nat.le_refl _)).mono (by omega)
  · exact (((((HJ.out.2.1.setNe HNE.out _).pre (Nat.le_succ m)).setLow (p := w.heap.size + 1) (by omega) _ _).setLow (p := w.heap.size + 1) (by omega) _ _).below ((Below.refl _ _).alloc (Nat.le_refl _) _) (Nat.le_refl _)).mono (by omega)
  · intro h1 h2 x hx hy
    simp [blk] at hx hy
    exact HNE.out (hx.trans hy.symm)
  · exact (((HB2.out.setCell (by show w.heap.size ≤ a1; omega) _).setCell (by simp) _).setCell (by simp) _).alloc (by simp [World.setCell]; omega) _
end Go.Proofs.Ytneknajeecgnoaa.Base
