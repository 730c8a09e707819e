/-
  The laws' drawn panels: l02Draw, A2Panel.
-/
import Derived.Test.YtbpdjmjkjiddjaaSrc
import Derived.Test.YtbpdjmjkjiddjaaShape
import Derived.Test.YtbpdjmjkjiddjaaSetB
import Derived.IntWalk
namespace Go.Proofs.Ytbpdjmjkjiddjaa.Base
open Go.RowKit
set_option linter.unusedVariables false
set_option linter.unusedSimpArgs false

theorem Ext.more {X Y : List Nat} {a b c : World} (h : Ext X a b) (k : Ext Y b c) (hY : ∀ y ∈ Y, a.heap.size ≤ y ∨ y ∈ X) : Ext X a c :=
  ⟨k.os.trans h.os, k.tape.trans h.tape, k.output.trans h.output, Nat.le_trans h.size k.size, fun i hi hx => (k.block i (Nat.lt_of_lt_of_le hi h.size) (fun hm => by
    rcases hY i hm with h' | h'
    · omega
    · exact hx h')).trans (h.block i hi hx)⟩
theorem OwnRow.ext {w w' : World} {X : List Nat} {base : Nat} {A : Option Addr} {n c : Nat} {f : Nat → Int} (h : OwnRow w base A n c f) (e : Ext X w w') (hx : ∀ b, blk A = some b → 0 < n → b ∉ X) : OwnRow w' base A n c f :=
  ⟨h.1, h.2.1, h.2.2.1, fun hn => by
    obtain ⟨b, o, ea, h0, h1, h2⟩ := h.2.2.2 hn
    have hb := hx b (by rw [ea]; rfl) hn
    exact ⟨b, o, ea, h0, Nat.lt_of_lt_of_le h1 e.size, fun i hi => ⟨e.cell (h2 i hi).1 hb, (e.frozen h1 hb).trans (h2 i hi).2⟩⟩⟩
/-- a drawn panel: valid, its row its own -/
def Drawn (s : Nat) (A0 : Option Addr) (n0 c0 : Nat) (k d : Int) (w : World) (e : Ending) (w' : World) : Prop :=
  ∃ (W H : Int) (A : Option Addr) (n c : Nat) (g : Nat → Int) (k' : Int), e = .returned (.agg #[.int .i64 W, .int .i64 H, .slice A n c]) ∧ sideB W = true ∧ sideB H = true ∧ W ≤ 5 ∧ H ≤ 5 ∧ (n : Int) = inner W H ∧ kindsB n g = true ∧
    OwnRow w' w.heap.size A n c g ∧ Src w' s A0 n0 c0 k' ∧ k ≤ k' ∧ k' ≤ k + d ∧ Ext [s] w w'

/-- what stands at the head of a round -/
def DrwAt (w : World) (s p6 t4 : Nat) (A0 : Option Addr) (n0 c0 : Nat) (k : Int) (W H : Int) (A : Option Addr) (n c base : Nat) (wr : World) (j : Nat) : Prop :=
  ∃ (g : Nat → Int) (k' : Int), OwnRow wr base A n c g ∧ (∀ i, i < n → 0 ≤ g i ∧ g i ≤ 2) ∧ Src wr s A0 n0 c0 k' ∧ k ≤ k' ∧ k' ≤ k + 6 + 4 * j ∧
    At wr p6 #[.int .i64 W, .int .i64 H, .slice A n c] 29 ∧ At wr t4 #[.int .i64 0, .int .i64 0, .slice none 0 0] 29 ∧ Ext [s] w wr
set_option maxHeartbeats 4000000 in
theorem draw_any (w : World) (s : Nat) (A0 : Option Addr) (n0 c0 : Nat) (f0 : Nat → Int) (k : Int) (hs : Src w s A0 n0 c0 k) (hr : Row .u8 w A0 n0 c0 f0) (hne : ∀ b, blk A0 = some b → 0 < n0 → b ≠ s) (k0 : 0 ≤ k) (k1 : k ≤ 1000) (hn : n0 ≤ 1000000) :
    Calls Try.prog 61 #[.pointer (some ⟨s, 0, none⟩), .int .i64 5] w (Drawn s A0 n0 c0 k 1000 w) := by
  have HNE := Lib.hid hne
  have HSZ := Lib.hid hs.1
  have HBL := Lib.hid (row_blk hr)
  have HRW := Lib.hid hr
  -- the result's box
  have X0 := Ext.alloc (X := [s]) w (.cells #[.int .i64 0, .int .i64 0, .slice none 0 0] 29)
  have HT0 := Lib.hid (At.new w #[.int .i64 0, .int .i64 0, .slice none 0 0] 29)
  have HS0 := Lib.hid (hs.ext (Ext.alloc (X := []) w (.cells #[.int .i64 0, .int .i64 0, .slice none 0 0] 29)) (by simp))
  have HR0 := Lib.hid (hr.ext (Ext.alloc (X := []) w (.cells #[.int .i64 0, .int .i64 0, .slice none 0 0] 29)) (by simp))
  have HX0 := Lib.hid X0
  have zs0 : w.heap.size < (w.alloc (.cells #[.int .i64 0, .int .i64 0, .slice none 0 0] 29)).heap.size := by simp
  clear hs hr hne X0
  go_enter Try.func61, Try.ntmps61
  go_wp2_with fail
  generalize w.alloc (.cells #[.int .i64 0, .int .i64 0, .slice none 0 0] 29) = wA at *
  refine (pick_any _ s A0 n0 c0 f0 k 5 HS0.out HR0.out HNE.out k0 (by omega) hn (by omega) (by omega)).mono ?_
  rintro e w1 ⟨v1, k1', rfl, v1a, v1b, j1, j2, j3, j4⟩
  have hsA : s ≠ w.heap.size := by have := HSZ.out; omega
  have HS1 := Lib.hid j1
  have HR1 := Lib.hid (HR0.out.ext j4 (fun b hb h0 => by simpa using HNE.out b hb h0))
  have HT1 := Lib.hid (HT0.out.ext j4 (by simpa using hsA.symm))
  have HX1 := Lib.hid (HX0.out.trans j4)
  have z1 := j4.size
  clear j1 j4 HS0 HR0 HT0 HX0
  go_wp2_with fail
  refine (pick_any _ s A0 n0 c0 f0 k1' 5 HS1.out HR1.out HNE.out (by omega) (by omega) hn (by omega) (by omega)).mono ?_
  rintro e w2 ⟨v2, k2', rfl, v2a, v2b, l1, l2, l3, l4⟩
  have HS2 := Lib.hid l1
  have HR2 := Lib.hid (HR1.out.ext l4 (fun b hb h0 => by simpa using HNE.out b hb h0))
  have HT2 := Lib.hid (HT1.out.ext l4 (by simpa using hsA.symm))
  have HX2 := Lib.hid (HX1.out.trans l4)
  have z2 := l4.size
  clear l1 l4 HS1 HR1 HT1 HX1
  have hW : sideB (1 + v1) = true := side_yes (by omega) (by omega)
  have hH : sideB (1 + v2) = true := side_yes (by omega) (by omega)
  obtain ⟨i1, i2⟩ := inner_bd' hW hH
  obtain ⟨n, hn'⟩ : ∃ n : Nat, (n : Int) = inner (1 + v1) (1 + v2) := ⟨(inner (1 + v1) (1 + v2)).toNat, by omega⟩
  have hn112 : n ≤ 112 := by omega
  have HN := Lib.hid hn'
  clear hn' i1 i2
  go_wp2_with fail
  refine (specNew _ (1 + v1) (1 + v2) n hW hH HN.out).mono ?_
  rintro e w3 ⟨A, c, rfl, O3, b3⟩
  have HQ := Lib.hid (O3.base_lt)
  have HO3 := Lib.hid O3
  have HS3 := Lib.hid (HS2.out.ext (Ext.of_below (X := []) b3) (by simp))
  have HR3 := Lib.hid (HR2.out.below b3 (Nat.le_refl _))
  have HT3 := Lib.hid (HT2.out.below b3 HT2.out.lt)
  have HX3 := Lib.hid (HX2.out.trans (Ext.of_below b3))
  have z3 := b3.size
  clear O3 b3 HS2 HR2 HT2 HX2
  go_wp2_with fail
  -- the panel's box
  have HP4 := Lib.hid (At.new w3 #[.int .i64 (1 + v1), .int .i64 (1 + v2), .slice A n c] 29)
  have bN := (Below.refl w3.heap.size w3).alloc (Nat.le_refl _) (.cells #[.int .i64 (1 + v1), .int .i64 (1 + v2), .slice A n c] 29)
  have HO4 := Lib.hid (HO3.out.below bN (Nat.le_refl _))
  have HS4 := Lib.hid (HS3.out.ext (Ext.of_below (X := []) bN) (by simp))
  have HR4 := Lib.hid (HR3.out.below bN (Nat.le_refl _))
  have HT4 := Lib.hid (HT3.out.below bN HT3.out.lt)
  have HX4 := Lib.hid (HX3.out.trans (Ext.of_below bN))
  clear bN HO3 HS3 HR3 HT3 HX3
  generalize w3.alloc (.cells #[.int .i64 (1 + v1), .int .i64 (1 + v2), .slice A n c] 29) = w4 at *
  generalize hp6 : w3.heap.size = p6 at *
  refine (pick_any _ s A0 n0 c0 f0 k2' 4 HS4.out HR4.out HNE.out (by omega) (by omega) hn (by omega) (by omega)).mono ?_
  rintro e w5 ⟨v3, k3', rfl, v3a, v3b, m1, m2, m3, m4⟩
  have hs6 : s ≠ p6 := by have := HSZ.out; omega
  have hsq : 0 < n → ∀ b, blk A = some b → b ≠ s := fun h b hb => by have := HQ.out h b hb; have := HSZ.out; omega
  have HSQ := Lib.hid hsq
  have HS5 := Lib.hid m1
  have HR5 := Lib.hid (HR4.out.ext m4 (fun b hb h0 => by simpa using HNE.out b hb h0))
  have HT5 := Lib.hid (HT4.out.ext m4 (by simpa using hsA.symm))
  have HP5 := Lib.hid (HP4.out.ext m4 (by simpa using hs6.symm))
  have HO5 := Lib.hid (HO4.out.ext m4 (fun b hb h0 => by simpa using HSQ.out h0 b hb))
  have HX5 := Lib.hid (HX4.out.trans m4)
  clear m1 m4 HS4 HR4 HT4 HP4 HO4 HX4 hsq
  go_wp2
  have hD : DrwAt w s p6 w.heap.size A0 n0 c0 k (1 + v1) (1 + v2) A n c w2.heap.size w5 0 := ⟨fun _ => 0, k3', HO5.out, fun i hi => ⟨Int.le_refl _, (by decide : (0 : Int) ≤ 2)⟩, HS5.out, by omega, by omega, HP5.out, HT5.out, HX5.out⟩
  have HD := Lib.hid hD
  have hp60 : w.heap.size < p6 := by omega
  clear hD HS5 HR5 HT5 HP5 HO5 HX5
  go_loopw [8] (fun i wr => ∃ j : Nat, j ≤ n ∧ i = .int .i64 j ∧ Hid (DrwAt w s p6 w.heap.size A0 n0 c0 k (1 + v1) (1 + v2) A n c w2.heap.size wr j)) (fun i _ => n - (intOf i).toNat)
  case atStart => exact ⟨0, Nat.zero_le _, rfl, HD⟩
  case round =>
    obtain ⟨j, hj, rfl, HJ⟩ := hrel
    obtain ⟨g, kk, dO, dK, dS, dk1, dk2, dP, dT, dX⟩ := HJ.out
    have HO := Lib.hid dO
    have HK := Lib.hid dK
    have HS := Lib.hid dS
    have HP := Lib.hid dP
    have HT := Lib.hid dT
    have HX := Lib.hid dX
    have p0 := dP.cellv (i := 0) rfl
    have p1 := dP.cellv (i := 1) rfl
    have p2 := dP.cellv (i := 2) rfl
    have hwz := dX.size
    clear dO dK dS dP dT dX HJ
    by_cases hlt : j < n
    · obtain ⟨b, o, rfl, hb0, hb1, hb2⟩ := HO.out.2.2.2 (by omega)
      have hbs := HSQ.out (by omega) b rfl
      obtain ⟨q1, q2, -⟩ := (show w2.heap.size ≤ b ∧ b < p6 ∧ True from by have := HQ.out (by omega) b rfl; exact ⟨this.1, this.2, trivial⟩)
      obtain ⟨hcj, hfj⟩ := hb2 j hlt
      have HB2 := Lib.hid hb2
      clear hb2
      go_wp2_with fail
      refine (pick_any _ s A0 n0 c0 f0 kk 4 HS.out (HRW.out.ext HX.out (fun b hb h0 => by simpa using HNE.out b hb h0)) HNE.out (by omega) (by omega) hn (by omega) (by omega)).mono ?_
      rintro e w7 ⟨v, kk2, rfl, va, vb, l1, l2, l3, l4⟩
      have HS7 := Lib.hid l1
      have HO7 := Lib.hid (HO.out.ext l4 (fun b hb h0 => by simpa using HSQ.out h0 b hb))
      have HP7 := Lib.hid (HP.out.ext l4 (by simpa using hs6.symm))
      have HT7 := Lib.hid (HT.out.ext l4 (by simpa using hsA.symm))
      have HX7 := Lib.hid (HX.out.trans l4)
      have p2' := HP7.out.cellv (i := 2) rfl
      have hcj' := l4.cell hcj (by simpa using hbs)
      have hfj' := (l4.frozen (p := ⟨b, o + j, none⟩) hb1 (by simpa using hbs)).trans hfj
      have z7 := l4.size
      clear l1 l4 hcj hfj p0 p1 p2 HS HO HP HT
      by_cases hv : v < v3
      · go_wp2_with fail
        have ST := Lib.hid (show w7.drew.cell? ⟨p6, 2, none⟩ = some (.slice (some ⟨b, o, none⟩) n c) from p2')
        go_region_held3 (fun w' => w'.cell? ⟨p6, 2, none⟩ = some (.slice (some ⟨b, o, none⟩) n c))
          (first | exact ST.out | exact Ext.cell x4 (by assumption) (by simpa using hs6.symm) | (rw [World.cell?_setCell_other _ _ _ _ (fun h => by injection h; omega)]; assumption))
          (first | (go_at_call 63; refine (pick_any _ s A0 n0 c0 f0 kk2 2 (HS7.out.ext (Ext.drew (X := []) _) (by simp)) ((HRW.out.ext HX7.out (fun b hb h0 => by simpa using HNE.out b hb h0)).ext (Ext.drew (X := []) _) (by simp)) HNE.out (by omega) (by omega) hn (by omega) (by omega)).mono ?_; rintro e wq ⟨u, kk3, rfl, ua, ub, x1, x2, x3, x4⟩; have y1 := x4.cell (p := ⟨b, o + j, none⟩) hcj' (by simpa using hbs); have y2 := (x4.frozen (p := ⟨b, o + j, none⟩) (by simpa using Nat.lt_of_lt_of_le hb1 z7) (by simpa using hbs)).trans hfj'; have y3 : IntKind.i64.wrap (1 + u) = 1 + u := IntWalk.i64_in _ (by omega)))
        rename_i hSx
        clear hSx y3
        have HZ1 := Lib.hid x1
        have HZ4 := Lib.hid ((Ext.drew (X := [s]) w7).trans x4)
        clear x1 x4
        go_wp2
        go_roundw
        case rel =>
          refine ⟨j + 1, by omega, by go_num, Lib.hid ⟨putF g j (1 + u), kk3, OwnRow.put (HO7.out.ext HZ4.out (fun b hb h0 => by simpa using HSQ.out h0 b hb)) hlt (1 + u) (WalkArith.wf_i64 (by omega)), fun i hi => ?_, HZ1.out.ext (Ext.set (X := [b]) _ _ _ (by simp)) (by simpa using hbs.symm), by omega, by omega, (HP7.out.ext HZ4.out (by simpa using hs6.symm)).setOther (by simp; omega) _, (HT7.out.ext HZ4.out (by simpa using hsA.symm)).setOther (by simp; omega) _, (HX7.out.trans HZ4.out).more (Ext.set (X := [b]) _ _ _ (by simp)) (by simp; left; omega)⟩⟩
          have := HK.out i hi
          unfold putF
          split <;> omega
        case measure => simp [intOf]; omega
      · have hv' : decide (v < v3) = false := decide_eq_false hv
        go_wp2
        go_roundw
        case rel => exact ⟨j + 1, by omega, by go_num, Lib.hid ⟨g, kk2, HO7.out, HK.out, HS7.out, by omega, by omega, HP7.out, HT7.out, HX7.out⟩⟩
        case measure => simp [intOf]; omega
    · have e : j = n := by omega
      have t0 := HT.out.cellv (i := 0) rfl
      have t1 := HT.out.cellv (i := 1) rfl
      have t2 := HT.out.cellv (i := 2) rfl
      have u0 := HT.out.frozen 0
      have u1 := HT.out.frozen 1
      have u2 := HT.out.frozen 2
      go_wp2
      refine bodyPost_ret ?_ rfl ⟨1 + v1, 1 + v2, A, n, c, g, kk, rfl, hW, hH, by omega, by omega, HN.out, kinds_iff.2 (fun i hi => HK.out i hi), (ownRow_setBox HO.out (by omega) _ _ _).mono (by omega), (((HS.out.ext (Ext.set (X := [w.heap.size]) _ _ _ (by simp)) (by simpa using hsA)).ext (Ext.set (X := [w.heap.size]) _ _ _ (by simp)) (by simpa using hsA)).ext (Ext.set (X := [w.heap.size]) _ _ _ (by simp)) (by simpa using hsA)), by omega, by omega, ((HX.out.more (Ext.set (X := [w.heap.size]) _ _ _ (by simp)) (by simp)).more (Ext.set (X := [w.heap.size]) _ _ _ (by simp)) (by simp)).more (Ext.set (X := [w.heap.size]) _ _ _ (by simp)) (by simp)⟩
      simp [results, Try.results61, go_sem, t0, t1, t2]

/-- A2Panel -/
def PanelDrawn (w : World) (e : Ending) (w' : World) : Prop :=
  ∃ (W H : Int) (A : Option Addr) (n c : Nat) (g : Nat → Int), e = .returned (.agg #[.int .i64 W, .int .i64 H, .slice A n c]) ∧ sideB W = true ∧ sideB H = true ∧ W ≤ 5 ∧ H ≤ 5 ∧ (n : Int) = inner W H ∧ kindsB n g = true ∧ OwnRow w' w.heap.size A n c g ∧ Below w.heap.size w w'
end Go.Proofs.Ytbpdjmjkjiddjaa.Base
