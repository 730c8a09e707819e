/-
  The panel behind edits: the program's ApplyEdits.
-/
import Derived.Test.YtgdmojkfpghmnaaEda
namespace Go.Proofs.Ytgdmojkfpghmnaa.Base
open Go Go.RowKit
set_option linter.unusedVariables false
set_option linter.unusedSimpArgs false

theorem impl_apply_bad (w : World) (W H : Int) (A : Option Addr) (n c : Nat) (f : Nat → Int) (E : Option Addr) (m d : Nat) (g : Nat → Int) (hr : Row .i64 w A n c f) (hE : RowS 2 w E m d g) (hv : edV W H n f g m = false) :
    Calls Try.prog 16 #[.agg #[.int .i64 W, .int .i64 H, .slice A n c], .slice E m d] w (PanelOut 0 0 0 f 1 w) := by
  have HL := Lib.hid (show Below w.heap.size w ((w.alloc (.cells #[.int .i64 W, .int .i64 H, .slice A n c] 29)).alloc (.cells #[.int .i64 0, .int .i64 0, .slice none 0 0] 29)) from by go_grown)
  have HR := Lib.hid (hr.below HL.out (Nat.le_refl _))
  have HE := Lib.hid (hE.below HL.out (Nat.le_refl _))
  have HV := Lib.hid hv
  have HT := Lib.hid ((At.new (w.alloc (.cells #[.int .i64 W, .int .i64 H, .slice A n c] 29)) #[.int .i64 0, .int .i64 0, .slice none 0 0] 29))
  clear hr hE hv
  go_enter Try.func16, Try.ntmps16
  go_wp2_with fail
  refine (validEdits_is HV.out HR.out HE.out).mono ?_
  rintro e w1 ⟨rfl, b1⟩
  have HT1 := Lib.hid (HT.out.below b1 HT.out.lt)
  have HL1 := Lib.hid (HL.out.trans (b1.mono HL.out.size))
  clear b1
  have hz : (w.alloc (.cells #[.int .i64 W, .int .i64 H, .slice A n c] 29)).heap.size = w.heap.size + 1 := by simp
  rw [hz] at HT1
  have q0 := HT1.out.cellv (i := 0) rfl
  have q1 := HT1.out.cellv (i := 1) rfl
  have q2 := HT1.out.cellv (i := 2) rfl
  have g0 := HT1.out.frozen 0
  have g1 := HT1.out.frozen 1
  have g2 := HT1.out.frozen 2
  have qz := HT1.out.lt
  go_wp2
  refine bodyPost_ret ?_ rfl ⟨none, 0, rfl, ownRow_nil _ _ _, ((HL1.out.setCell (by simp) _).setCell (by simp) _).setCell (by simp) _⟩
  simp [results, Try.results16, go_sem, q0, q1, q2]
/-- the boxes of the panel and of the result, the row that is filled -/
structure ESt (w : World) (W H : Int) (A : Option Addr) (n c B : Nat) (A2 : Option Addr) (c2 : Nat) (f : Nat → Int) (X : World) : Prop where
  pan : At X w.heap.size #[.int .i64 W, .int .i64 H, .slice A n c] 29
  res : At X (w.heap.size + 1) #[.int .i64 0, .int .i64 0, .slice none 0 0] 29
  row : OwnRow X B A2 n c2 f
  bel : Below w.heap.size w X
  lo : w.heap.size + 1 < B
theorem ESt.next {w : World} {W H : Int} {A : Option Addr} {n c B : Nat} {A2 : Option Addr} {c2 : Nat} {f : Nat → Int} {X Y : World} (h : ESt w W H A n c B A2 c2 f X) (b : Below X.heap.size X Y) : ESt w W H A n c B A2 c2 f Y :=
  ⟨h.pan.below b h.pan.lt, h.res.below b h.res.lt, h.row.below b (Nat.le_refl _), h.bel.trans (b.mono h.bel.size), h.lo⟩
theorem ESt.put {w : World} {W H : Int} {A : Option Addr} {n c B b o : Nat} {c2 : Nat} {f : Nat → Int} {X : World} (h : ESt w W H A n c B (some ⟨b, o, none⟩) c2 f X) (hb : B ≤ b) {k : Nat} (hk : k < n) (z : Int) (hz : (Lit.int .i64 z).wf = true) : ESt w W H A n c B (some ⟨b, o, none⟩) c2 (putF f k z) (X.setCell ⟨b, o + k, none⟩ (.int .i64 z)) :=
  ⟨h.pan.setOther (a := ⟨b, o + k, none⟩) (by have := h.lo; show b ≠ _; omega) _, h.res.setOther (a := ⟨b, o + k, none⟩) (by have := h.lo; show b ≠ _; omega) _, h.row.put hk z hz, h.bel.setCell (p := ⟨b, o + k, none⟩) (by have := h.lo; show _ ≤ b; omega) _, h.lo⟩
set_option maxHeartbeats 4000000 in
set_option maxRecDepth 100000 in
theorem impl_apply_ok (w : World) (W H : Int) (A : Option Addr) (n c : Nat) (f : Nat → Int) (E : Option Addr) (m d : Nat) (g : Nat → Int) (hr : Row .i64 w A n c f) (hE : RowS 2 w E m d g) (hn2 : n ≤ 1048576) (hv : edV W H n f g m = true) :
    Calls Try.prog 16 #[.agg #[.int .i64 W, .int .i64 H, .slice A n c], .slice E m d] w (PanelOut W H n (apF f g m) 0 w) := by
  have hmd := hE.1
  have hmc := hE.2.1
  unfold maxLen at hmc
  have HL := Lib.hid (show Below w.heap.size w ((w.alloc (.cells #[.int .i64 W, .int .i64 H, .slice A n c] 29)).alloc (.cells #[.int .i64 0, .int .i64 0, .slice none 0 0] 29)) from by go_grown)
  have HR := Lib.hid (hr.below HL.out (Nat.le_refl _))
  have HE0 := Lib.hid hE
  have HE := Lib.hid (hE.below HL.out (Nat.le_refl _))
  have HWF := Lib.hid hE.2.2.1
  have HV := Lib.hid hv
  have hk : edB n f g m = true := by simp [edV] at hv; exact hv.2
  have HK := Lib.hid hk
  have HWR := Lib.hid hr.2.2.1
  have HX := Lib.hid ((At.new w #[.int .i64 W, .int .i64 H, .slice A n c] 29).below ((Below.refl _ (w.alloc (.cells #[.int .i64 W, .int .i64 H, .slice A n c] 29))).alloc (Nat.le_refl _) (.cells #[.int .i64 0, .int .i64 0, .slice none 0 0] 29)) (by simp))
  have HT : Hid (At ((w.alloc (.cells #[.int .i64 W, .int .i64 H, .slice A n c] 29)).alloc (.cells #[.int .i64 0, .int .i64 0, .slice none 0 0] 29)) (w.heap.size + 1) #[.int .i64 0, .int .i64 0, .slice none 0 0] 29) := Lib.hid (by
    have h := At.new (w.alloc (.cells #[.int .i64 W, .int .i64 H, .slice A n c] 29)) #[.int .i64 0, .int .i64 0, .slice none 0 0] 29
    rwa [show (w.alloc (.cells #[.int .i64 W, .int .i64 H, .slice A n c] 29)).heap.size = w.heap.size + 1 by simp] at h)
  have hz2 : ((w.alloc (.cells #[.int .i64 W, .int .i64 H, .slice A n c] 29)).alloc (.cells #[.int .i64 0, .int .i64 0, .slice none 0 0] 29)).heap.size = w.heap.size + 2 := by simp
  clear hr hE hv hk
  go_enter Try.func16, Try.ntmps16
  go_wp2_with fail
  refine (validEdits_is HV.out HR.out HE.out).mono ?_
  rintro e w1 ⟨rfl, b1⟩
  have HT1 := Lib.hid (HT.out.below b1 HT.out.lt)
  have HX1 := Lib.hid (HX.out.below b1 HX.out.lt)
  have HR1 := Lib.hid (HR.out.below b1 (Nat.le_refl _))
  have HL1 := Lib.hid (HL.out.trans (b1.mono HL.out.size))
  have z1 := b1.size
  clear b1 HT HX HR HE HL
  rw [hz2] at z1
  clear hz2
  have qz := HT1.out.lt
  have x2 := HX1.out.cellv (i := 2) rfl
  have xz := HX1.out.lt
  go_wp2_with fail
  refine (clone_own _ A n c f HR1.out hn2).mono ?_
  rintro e w2 ⟨lv, rfl, hO, b2⟩
  obtain ⟨A2, c2, rfl⟩ := owns_slice hO
  have HS0 : Hid (ESt w W H A n c w1.heap.size A2 c2 (apF f g 0) w2) := Lib.hid ⟨HX1.out.below b2 HX1.out.lt, HT1.out.below b2 HT1.out.lt, ownRow_cells hO HWR.out, HL1.out.trans (b2.mono HL1.out.size), by omega⟩
  clear b2 hO x2 xz qz HX1 HT1 HR1 HL1
  go_wp2
  go_loopw [19] (fun kv wr => ∃ k : Nat, k ≤ m ∧ kv = .int .i64 (k : Int) ∧ Hid (ESt w W H A n c w1.heap.size A2 c2 (apF f g k) wr)) (fun kv _ => m - (intOf kv).toNat)
  case atStart => exact ⟨0, Nat.zero_le _, rfl, HS0⟩
  case round =>
    clear HS0
    obtain ⟨k, hk, rfl, HS⟩ := hrel
    by_cases hlt : k < m
    · obtain ⟨b, o, rfl, hbl, hc⟩ := HE0.out.2.2.2 (by omega)
      obtain ⟨a0, a1⟩ := ed_num HK.out hlt
      obtain ⟨a, ha⟩ : ∃ a : Nat, g (k * 2) = a := ⟨(g (k * 2)).toNat, by omega⟩
      obtain ⟨z, hz⟩ : ∃ z, g (k * 2 + 1) = z := ⟨_, rfl⟩
      have c0 := (HS.out.bel.cell (p := ⟨b, o + k * 2, none⟩) hbl).trans (hc (k * 2) (by omega))
      have c1' : wr.cell? ⟨b, o + k * 2 + 1, none⟩ = some (.int .i64 (g (k * 2 + 1))) := (HS.out.bel.cell (p := ⟨b, o + k * 2 + 1, none⟩) hbl).trans (hc (k * 2 + 1) (by omega))
      have bz : b < wr.heap.size := Nat.lt_of_lt_of_le hbl HS.out.bel.size
      rw [ha] at c0 a0 a1
      rw [hz] at c1'
      have hwz := HWF.out (k * 2 + 1) (by omega)
      have HWZ : Hid ((Lit.int .i64 z).wf = true) := Lib.hid (by rw [← hz]; exact hwz)
      have HA := Lib.hid ha
      have HZ := Lib.hid hz
      clear ha hz hc hwz
      have hn0 : 0 < n := by omega
      have han : a < n := by omega
      go_wp2_with fail
      clear c0 c1'
      have bN := (Below.refl wr.heap.size wr).alloc (Nat.le_refl _) (.cells #[.int .i64 (a : Int), .int .i64 z] 50)
      have HK3 := Lib.hid (At.new wr #[.int .i64 (a : Int), .int .i64 z] 50)
      have HS3 := Lib.hid (HS.out.next bN)
      have hlo := HS.out.row.2.2.2 hn0
      clear bN HS
      obtain ⟨b2, o2, rfl, hb1, hb2, -⟩ := hlo
      generalize wr.alloc (.cells #[.int .i64 (a : Int), .int .i64 z] 50) = w3 at *
      generalize wr.heap.size = be at *
      have k0 : w3.cell? ⟨be, 0, none⟩ = some (.int .i64 (a : Int)) := HK3.out.cellv (i := 0) rfl
      have k1 : w3.cell? ⟨be, 1, none⟩ = some (.int .i64 z) := HK3.out.cellv (i := 1) rfl
      have kz := HK3.out.lt
      obtain ⟨b2', o2', e', -, hb3, hcell⟩ := HS3.out.row.2.2.2 hn0
      injection e' with e'
      injection e' with e1 e2 e3
      subst e1 e2
      obtain ⟨e2, f2⟩ := hcell a han
      clear hcell e3
      have HN := Lib.hid (HS3.out.put hb1 han z HWZ.out)
      have hnc2 := HS3.out.row.1
      have hcm2 := HS3.out.row.2.1
      unfold maxLen at hcm2
      have hidx : (Instr.indexAt 22 (.slice (some ⟨b2, o2, none⟩) n c2) (.int .i64 (a : Int))).run Try.prog w3 = .ok (.pointer (some ⟨b2, o2 + a, none⟩)) w3 := by
        simp [Instr.indexAt, run_underlying Try.underlying22, asIntOf, go_sem]
        intro h; omega
      go_wp2
      rw [hidx]
      go_wp2
      go_roundw
      case rel => exact ⟨k + 1, by omega, by go_num, Lib.hid (by rw [ap_step, HA.out, HZ.out, Int.toNat_natCast]; exact HN.out)⟩
      case measure => simp [intOf]; omega
    · obtain rfl : k = m := by omega
      have x0 := HS.out.pan.cellv (i := 0) rfl
      have x1 := HS.out.pan.cellv (i := 1) rfl
      have xz := HS.out.pan.lt
      have q0 := HS.out.res.cellv (i := 0) rfl
      have q1 := HS.out.res.cellv (i := 1) rfl
      have q2 := HS.out.res.cellv (i := 2) rfl
      have g0 := HS.out.res.frozen 0
      have g1 := HS.out.res.frozen 1
      have g2 := HS.out.res.frozen 2
      have qz := HS.out.res.lt
      have hlo := HS.out.lo
      go_wp2
      refine bodyPost_ret ?_ rfl ⟨A2, c2, rfl, (ownRow_setBox HS.out.row hlo _ _ _).mono (by omega), ((HS.out.bel.setCell (by simp) _).setCell (by simp) _).setCell (by simp) _⟩
      simp [results, Try.results16, go_sem, q0, q1, q2]
end Go.Proofs.Ytgdmojkfpghmnaa.Base
