/-
  Points and panels moved by a symmetry: the specification's.
-/
import Derived.Test.YtdofeonkgaceeaaDoorSym
import Derived.Test.YtdofeonkgaceeaaDoorCms
import Derived.Test.YtdofeonkgaceeaaDoorShape
import Derived.Test.YtdofeonkgaceeaaDoorNew
import Derived.Test.YtdofeonkgaceeaaDoorSetB
import Derived.Deep.DeepCutAuto
namespace Go.Proofs.YtdofeonkgaceeaaDoor.Base
open Go Go.RowKit
set_option linter.unusedVariables false
set_option linter.unusedSimpArgs false

theorem spec_kind {s : Int} (h : inB s 0 7 = true) {z : Int} (z0 : 0 ≤ z) (z2 : z ≤ 2) (w : World) : Calls Tryd.prog 74 #[.int .i64 z, .int .i64 s] w fun e w' => e = .returned (.int .i64 (kdS s z)) ∧ w = w' := by
  have hz : z = 0 ∨ z = 1 ∨ z = 2 := by omega
  clear z0 z2
  rcases eight h with rfl | rfl | rfl | rfl | rfl | rfl | rfl | rfl <;> rcases hz with rfl | rfl | rfl
  all_goals
    clear h
    go_enter Tryd.func74, Tryd.ntmps74
    go_wp2
    go_ret
    exact ⟨rfl, rfl⟩
theorem spec_pt (w : World) (W H x y s : Int) (hW : sideB W = true) (hH : sideB H = true) (x1 : 0 ≤ x) (x2 : x ≤ 16) (y1 : 0 ≤ y) (y2 : y ≤ 16) (hs : inB s 0 7 = true) :
    Calls Tryd.prog 59 #[.int .i64 W, .int .i64 H, .agg #[.int .i64 x, .int .i64 y], .int .i64 s] w (Gives (.agg #[.int .i64 (mvX W H s x y), .int .i64 (mvY W H s x y)]) w) := by
  obtain ⟨a1, a2⟩ := side_mk hW
  obtain ⟨b1, b2⟩ := side_mk hH
  clear hW hH
  rcases eight hs with rfl | rfl | rfl | rfl | rfl | rfl | rfl | rfl
  all_goals
    clear hs
    go_enter Tryd.func59, Tryd.ntmps59
    go_wp2
    refine bodyPost_ret ?_ rfl ⟨rfl, by go_grown⟩
    simp [results, Tryd.results59, go_sem, mvX, mvY, mvW, mvH, swB, acB, dnB]
theorem spec_code6 {w : World} {p : Nat} {W H : Int} {A : Option Addr} {n c : Nat} {f : Nat → Int} (s : Int) (hb : Box w p W H A n c) (hr : Row .i64 w A n c f) :
    Calls Tryd.prog 49 #[.pointer (some ⟨p, 0, none⟩), .int .i64 s] w (Drew (.int .i64 (mpC W H n f s)) w) := by
  cases hv : validB W H n f
  · rw [mpC_1 hv]
    have HV := Lib.hid hv
    clear hv
    go_enter Tryd.func49, Tryd.ntmps49
    go_wp2_with fail
    refine (specOk_is HV.out hb hr).mono ?_
    rintro e w1 ⟨m, rfl, rfl⟩
    go_wp2
    go_ret
    exact ⟨m, rfl, rfl⟩
  · have HV := Lib.hid hv
    cases hs : inB s 0 7
    · rw [mpC_2 hv hs]
      clear hv
      go_enter Tryd.func49, Tryd.ntmps49
      go_wp2_with fail
      refine (specOk_is HV.out hb hr).mono ?_
      rintro e w1 ⟨m, rfl, rfl⟩
      go_wp2_with fail
      refine (spec_sym hs _).mono ?_
      rintro e w1 ⟨rfl, rfl⟩
      go_wp2
      go_ret
      exact ⟨m, rfl, rfl⟩
    · rw [mpC_0 hv hs]
      clear hv
      go_enter Tryd.func49, Tryd.ntmps49
      go_wp2_with fail
      refine (specOk_is HV.out hb hr).mono ?_
      rintro e w1 ⟨m, rfl, rfl⟩
      go_wp2_with fail
      refine (spec_sym hs _).mono ?_
      rintro e w1 ⟨rfl, rfl⟩
      go_wp2
      go_ret
      exact ⟨m, rfl, rfl⟩
/-- two rows that agree -/
theorem own_eq {w : World} {base : Nat} {A : Option Addr} {n c : Nat} {f g : Nat → Int} (h : OwnRow w base A n c f) (e : ∀ t, t < n → f t = g t) : OwnRow w base A n c g := by
  refine ⟨h.1, h.2.1, fun i hi => by rw [← e i hi]; exact h.2.2.1 i hi, fun hn => ?_⟩
  obtain ⟨b, o, e1, e2, e3, e4⟩ := h.2.2.2 hn
  exact ⟨b, o, e1, e2, e3, fun i hi => by rw [← e i hi]; exact e4 i hi⟩
/-- a panel's box b, and its row of zeros, made from block B on -/
structure NewB (B b : Nat) (W H : Int) (A : Option Addr) (n c : Nat) (w : World) : Prop where
  box : At w b #[.int .i64 W, .int .i64 H, .slice A n c] 26
  row : OwnRow w (B + 1) A n c (fun _ => 0)
  ne : ∀ bb, 0 < n → blk A = some bb → bb ≠ b
  ge : B < b
theorem cell_be2 {B : Nat} {w w' : World} {b o : Nat} {v : Value} (h : w.cell? ⟨b, o, none⟩ = some v) (hb : Below B w w') (hB : b < B) : w'.cell? ⟨b, o, none⟩ = some v := (hb.cell (p := ⟨b, o, none⟩) hB).trans h
theorem Box.old {W w' : World} {p : Nat} {Wp Hp : Int} {A : Option Addr} {n c : Nat} (h : Box W p Wp Hp A n c) (hS : (∀ b o, b < W.heap.size → w'.cell? ⟨b, o, none⟩ = W.cell? ⟨b, o, none⟩) ∧ Below W.heap.size W w') : Box w' p Wp Hp A n c := h.below hS.2 h.1
theorem at_set2m {w : World} {b : Nat} {u v u' v' : Value} {T : TypeId} (h : At w b #[u, v] T) : At ((w.setCell ⟨b, 0, none⟩ u').setCell ⟨b, 1, none⟩ v') b #[u', v'] T := (h.set 0 u').set 1 v'
theorem nb_new {B : Nat} {W H : Int} {A : Option Addr} {n c : Nat} {w1 wa : World} (ho : OwnRow wa w1.heap.size A n c (fun _ => 0)) (ba : Below w1.heap.size w1 wa) (hB : B < w1.heap.size) :
    NewB B wa.heap.size W H A n c (wa.alloc (.cells #[.int .i64 W, .int .i64 H, .slice A n c] 26)) ∧ Below w1.heap.size w1 (wa.alloc (.cells #[.int .i64 W, .int .i64 H, .slice A n c] 26)) :=
  ⟨⟨At.new _ _ _, (ho.below ((Below.refl _ _).alloc (Nat.le_refl _) _) (Nat.le_refl _)).mono (by omega), fun bb h e => by have := ho.base_lt h bb e; omega, by have := ba.size; omega⟩, ba.alloc ba.size _⟩
theorem own_fill {w : World} {base p : Nat} {A : Option Addr} {n c : Nat} {f : Nat → Int} (h : OwnRow w base A n c f) (hp : ∀ bb, 0 < n → blk A = some bb → bb ≠ p) (x y z : Value) :
    OwnRow (((w.setCell ⟨p, 0, none⟩ x).setCell ⟨p, 1, none⟩ y).setCell ⟨p, 2, none⟩ z) base A n c f :=
  ⟨h.1, h.2.1, h.2.2.1, fun hn => by
    obtain ⟨b, o, e, h1, h2, hc⟩ := h.2.2.2 hn
    have hne := hp b hn (by rw [e]; rfl)
    refine ⟨b, o, e, h1, by simpa [World.setCell] using h2, fun i hi => ⟨?_, ?_⟩⟩
    · rw [World.cell?_setCell_other _ _ _ _ (fun e => hne (by injection e; omega)), World.cell?_setCell_other _ _ _ _ (fun e => hne (by injection e; omega)), World.cell?_setCell_other _ _ _ _ (fun e => hne (by injection e; omega))]
      exact (hc i hi).1
    · rw [World.frozen?_setCell, World.frozen?_setCell, World.frozen?_setCell]
      exact (hc i hi).2⟩
theorem nb_fill {B b L : Nat} {W H : Int} {A : Option Addr} {n c : Nat} {w1 wa : World} {u v x : Value} (ya : At wa b #[u, v, x] 26) (ho : OwnRow wa L A n c (fun _ => 0)) (ba : Below w1.heap.size w1 wa) (hb : w1.heap.size ≤ b) (hL : b < L) (hB : B < w1.heap.size) :
    NewB B b W H A n c (((wa.setCell ⟨b, 0, none⟩ (.int .i64 W)).setCell ⟨b, 1, none⟩ (.int .i64 H)).setCell ⟨b, 2, none⟩ (.slice A n c)) ∧ Below w1.heap.size w1 (((wa.setCell ⟨b, 0, none⟩ (.int .i64 W)).setCell ⟨b, 1, none⟩ (.int .i64 H)).setCell ⟨b, 2, none⟩ (.slice A n c)) := by
  have hne : ∀ bb, 0 < n → blk A = some bb → bb ≠ b := fun bb h e => by have := ho.base_lt h bb e; omega
  exact ⟨⟨((ya.set 0 _).set 1 _).set 2 _, (own_fill ho hne _ _ _).mono (by omega), hne, by omega⟩, ((ba.setCell (p := ⟨b, 0, none⟩) hb _).setCell (p := ⟨b, 1, none⟩) hb _).setCell (p := ⟨b, 2, none⟩) hb _⟩
theorem NewB.below {B b : Nat} {W H : Int} {A : Option Addr} {n c : Nat} {w w' : World} (h : NewB B b W H A n c w) (hb : Below w.heap.size w w') : NewB B b W H A n c w' :=
  ⟨h.box.below hb h.box.lt, h.row.below hb (Nat.le_refl _), h.ne, h.ge⟩
set_option maxHeartbeats 8000000 in
set_option maxRecDepth 100000 in
theorem spec_map_no (w : World) (p : Nat) (W H : Int) (A : Option Addr) (n c : Nat) (f : Nat → Int) (s : Int) (hb : Box w p W H A n c) (hr : Row .i64 w A n c f) (hv : validB W H n f = true) (hs : inB s 0 7 = true) (hsw : swB s = false) :
    Calls Tryd.prog 50 #[.pointer (some ⟨p, 0, none⟩), .int .i64 s] w (PanelMade (mvW W H s) (mvH W H s) n (mpF W H s f) w) := by
  obtain ⟨hW, hH, hn, hK⟩ := validB_yes hv
  have HWs := Lib.hid hW
  have HHs := Lib.hid hH
  have HN := Lib.hid hn
  have HK := Lib.hid hK
  have HSs := Lib.hid hs
  have hp0 := hb.1
  have b0 := (Below.refl w.heap.size w).alloc (Nat.le_refl _) (.cells #[.int .i64 0, .int .i64 0, .slice none 0 0] 26)
  have HX := Lib.hid hb
  have HR := Lib.hid hr
  have HZ := Lib.hid (At.new w #[.int .i64 0, .int .i64 0, .slice none 0 0] 26)
  have HL := Lib.hid b0
  have HSN := Lib.hid (fun w => specNew w W H n hW hH hn)
  have t4 : (bits BinOp.and .i64 s 4 != 0) = false := by rw [← hsw]; rcases eight hs with rfl | rfl | rfl | rfl | rfl | rfl | rfl | rfl <;> kernel_rfl
  have EW := Lib.hid (show mvW W H s = W by unfold mvW; rw [hsw]; rfl)
  have EH := Lib.hid (show mvH W H s = H by unfold mvH; rw [hsw]; rfl)
  obtain ⟨-, k0, k1, k2⟩ := hb
  clear hr hv hs b0 hW hH hn hK hsw
  go_enter Tryd.func50, Tryd.ntmps50
  go_wp2
  have kz := HZ.out.lt
  have hp1 : p < (w.alloc (.cells #[.int .i64 0, .int .i64 0, .slice none 0 0] 26)).heap.size := by simp; omega
  have k0' := cell_be2 k0 HL.out hp0
  have k1' := cell_be2 k1 HL.out hp0
  clear k0 k1 k2
  generalize w.alloc (.cells #[.int .i64 0, .int .i64 0, .slice none 0 0] 26) = w1 at *
  have hz1 := HL.out.size
  have hz1' : w.heap.size < w1.heap.size := kz
  go_cut [5] (fun s5 wx => ∃ b5 A3 c3, s5 = .pointer (some ⟨b5, 0, none⟩) ∧ Hid (NewB w.heap.size b5 W H A3 n c3 wx) ∧ Hid (Below w1.heap.size w1 wx) ∧ w1.heap.size ≤ b5)
  case first =>
    have OL := Lib.hid (Old.mk_ (Below.refl w1.heap.size w1).drew)
    go_region_held3 (fun w' => (∀ b o, b < (w1).heap.size → w'.cell? ⟨b, o, none⟩ = (w1).cell? ⟨b, o, none⟩) ∧ Below (w1).heap.size (w1) w') (first | assumption | exact OL.out | exact Old.trans (by assumption) (by assumption) | exact Old.trans (by assumption) ((Below.refl _ _).alloc (Nat.le_refl _) _) | exact Old.set (Old.set (Old.set (by assumption) (by exact hge)) (by exact hge)) (by exact hge) | exact Old.set (Old.set (by assumption) (by exact hge)) (by exact hge)) (first | (go_at_call 83; refine (HSN.out _).mono ?_; rintro e wa ⟨A3, c3, rfl, ho, ba⟩; have bO : Below w1.heap.size w1 wa := (by first | exact ((Below.refl w1.heap.size w1).drew).trans ba | exact (((Below.refl w1.heap.size w1).alloc (Nat.le_refl _) _).drew).trans (ba.mono (by simp))); have hOl := Old.mk_ bO; (first | (have hge : w1.heap.size ≤ w1.heap.size := Nat.le_refl _; have ya : At wa w1.heap.size #[.int .i64 0, .int .i64 0, .slice none 0 0] 26 := (by first | exact (At.new w1 _ _).below ba (by simp) | exact (At.new w1.drew _ _).below ba (by simp)); have yz := ya.lt; have y0 := ya.cellv (i := 0) rfl; have y1 := ya.cellv (i := 1) rfl; have y2 := ya.cellv (i := 2) rfl; have f0 := ya.frozen 0; have f1 := ya.frozen 1; have f2 := ya.frozen 2) | skip)))
    all_goals (go_wp2_with fail; go_meet)
    all_goals first
      | (have bb : Below w1.heap.size w1 wa := Below.trans (Below.refl w1.heap.size w1).drew ba
         have hf := nb_new (B := w.heap.size) (W := W) (H := H) (w1 := w1) ho bb kz
         exact ⟨_, _, _, rfl, Lib.hid hf.1, Lib.hid hf.2, bb.size⟩)
      | (have bb : Below w1.heap.size w1 wa := ((Below.refl w1.heap.size w1).alloc (Nat.le_refl _) _).drew.trans (ba.mono (by simp))
         have hf := nb_fill (B := w.heap.size) (W := W) (H := H) ya ho bb (Nat.le_refl _) (by simp) kz
         exact ⟨_, _, _, rfl, Lib.hid hf.1, Lib.hid hf.2, Nat.le_refl _⟩)
  case rest =>
    obtain ⟨b5, A3, c3, rfl, HNB, HL1, hb5⟩ := hcut
    clear k0' k1'
    have HAt0 : Hid (At wc b5 #[.int .i64 (mvW W H s), .int .i64 (mvH W H s), .slice A3 n c3] 26) := Lib.hid (by rw [EW.out, EH.out]; exact HNB.out.box)
    have HO0 := Lib.hid HNB.out.row
    have HNE := Lib.hid HNB.out.ne
    have HL0 := Lib.hid (HL.out.trans (HL1.out.mono hz1))
    have HZ0 := Lib.hid (HZ.out.below HL1.out kz)
    have hbge := HNB.out.ge
    clear HNB HL1 HL HZ hp1 kz
    go_wp2
    generalize wc = w3 at *
    have hO : Hid (OwnRow w3 (w.heap.size + 1) A3 n c3 (mpK W H s f 0)) := Lib.hid (own_eq HO0.out (fun t ht => (mpK_zero HWs.out HHs.out HN.out t ht).symm))
    clear HO0
    go_loopw [6] (fun kv wr => ∃ j : Nat, j ≤ n ∧ kv = .int .i64 j ∧ Hid (OwnRow wr (w.heap.size + 1) A3 n c3 (mpK W H s f j)) ∧ Hid (At wr b5 #[.int .i64 (mvW W H s), .int .i64 (mvH W H s), .slice A3 n c3] 26) ∧ Hid (At wr w.heap.size #[.int .i64 0, .int .i64 0, .slice none 0 0] 26) ∧ Hid (Below w.heap.size w wr)) (fun kv _ => n - (intOf kv).toNat)
    case atStart => exact ⟨0, Nat.zero_le _, rfl, hO, HAt0, HZ0, HL0⟩
    case round =>
      clear hO HAt0 HL0 HZ0
      obtain ⟨j, hj, rfl, HO, HAt, HZ, HL⟩ := hrel
      have hLz := HL.out.size
      have HXr := Lib.hid (HX.out.below HL.out hp0)
      have HRr := Lib.hid (HR.out.below HL.out (Nat.le_refl _))
      obtain ⟨kp, k0, k1, k2⟩ := id HXr.out
      have kz := HAt.out.lt
      have kz0 := HZ.out.lt
      by_cases hlt : j < n
      · have hdec : decide ((j : Int) < (n : Int)) = true := decide_eq_true (by omega)
        have hX : 0 ≤ (j : Int) ∧ (j : Int) < inner W H := by have := HN.out; omega
        obtain ⟨h1, h2, -⟩ := ptn_is HWs.out HHs.out hX.1 hX.2
        obtain ⟨x1, x2, y1, y2, -⟩ := has_yes h1
        have HSP : Hid (∀ w : World, Box w p W H A n c → Calls Tryd.prog 91 #[.pointer (some ⟨p, 0, none⟩), .int .i64 j] w (Gives (.agg #[.int .i64 (ptX W j), .int .i64 (ptY W j)]) w)) := Lib.hid (fun w hb => specPoint w p W H A n c j hb HWs.out HHs.out hX.1 hX.2)
        have HPT := Lib.hid (fun w => spec_pt w W H (ptX W j) (ptY W j) s HWs.out HHs.out x1 (by have := (side_mk HWs.out).2; omega) y1 (by have := (side_mk HHs.out).2; omega) HSs.out)
        obtain ⟨m1, m2⟩ := mv_side (s := s) HWs.out HHs.out
        obtain ⟨q1, q2, q3, q4⟩ := inside m1 m2 (mv_has (s := s) h1) (mv_edge (s := s) h2)
        have HNB : Hid (∀ w : World, Box w b5 (mvW W H s) (mvH W H s) A3 n c3 → Calls Tryd.prog 92 #[.pointer (some ⟨b5, 0, none⟩), .agg #[.int .i64 (mvX W H s (ptX W j) (ptY W j)), .int .i64 (mvY W H s (ptX W j) (ptY W j))]] w (Gives (.int .i64 (dstI W H s j)) w)) :=
          Lib.hid (fun w hb => specNumber w b5 (mvW W H s) (mvH W H s) A3 n c3 _ _ hb m1 q1 q2 q3 q4)
        have hd := dst_bd (s := s) HWs.out HHs.out hX.1 hX.2
        have HDP := Lib.hid (fun i (hi : i < n) => mpK_put (s := s) (f := f) HWs.out HHs.out HN.out hlt i hi)
        obtain ⟨d, hdd⟩ : ∃ d : Nat, dstI W H s j = d := ⟨(dstI W H s j).toNat, by omega⟩
        rw [hdd] at HNB hd HDP
        rw [Int.toNat_natCast] at HDP
        have hdn : d < n := by have := HN.out; omega
        obtain ⟨X, hXX⟩ : ∃ X, mvX W H s (ptX W j) (ptY W j) = X := ⟨_, rfl⟩
        obtain ⟨Y, hYY⟩ : ∃ Y, mvY W H s (ptX W j) (ptY W j) = Y := ⟨_, rfl⟩
        rw [hXX, hYY] at HPT HNB
        obtain ⟨PX, hPX⟩ : ∃ PX, ptX W j = PX := ⟨_, rfl⟩
        obtain ⟨PY, hPY⟩ : ∃ PY, ptY W j = PY := ⟨_, rfl⟩
        rw [hPX, hPY] at HPT HSP
        have hkf := kinds_iff.1 HK.out j hlt
        obtain ⟨bA, oA, rfl, hbA0, hcA0⟩ := HR.out.2.2.2 (by omega)
        have hbA : bA < wr.heap.size := by omega
        have hcm := HRr.out.2.1
        have hnc := HRr.out.1
        unfold maxLen at hcm
        have e4 : wr.cell? ⟨bA, oA + j, none⟩ = some (.int .i64 (f j)) := cell_be2 (hcA0 j hlt) HL.out hbA0
        have HKD := Lib.hid (fun w => spec_kind HSs.out hkf.1 hkf.2 w)
        have hkb := kd_bd (s := s) hkf
        obtain ⟨fk, hfk⟩ : ∃ fk, f j = fk := ⟨_, rfl⟩
        rw [hfk] at e4 HKD HDP hkb
        obtain ⟨kq, hkq⟩ : ∃ kq, kdS s fk = kq := ⟨_, rfl⟩
        rw [hkq] at HKD HDP hkb
        obtain ⟨bR, oR, rfl, hR0, hR1, hRc⟩ := HO.out.2.2.2 (by omega)
        have hN2 := HO.out.1
        have hN3 := HO.out.2.1
        unfold maxLen at hN3
        have HRC := Lib.hid hRc
        clear h1 h2 x1 x2 y1 y2 m1 m2 q1 q2 q3 q4 hXX hYY hPX hPY hkq hfk hkf hdd hX hcA0 hRc
        have hbRne : bR ≠ b5 := HNE.out bR (by omega) rfl
        go_wp2
        go_cut [7] (fun s7 wx => ∃ b7, s7 = .pointer (some ⟨b7, 0, none⟩) ∧ Hid (At wx b7 #[.int .i64 X, .int .i64 Y] 43) ∧ Hid (Below wr.heap.size wr wx) ∧ wr.heap.size ≤ b7)
        case first =>
          have OL := Lib.hid (Old.mk_ (Below.refl wr.heap.size wr).drew)
          go_region_held3 (fun w' => (∀ b o, b < (wr).heap.size → w'.cell? ⟨b, o, none⟩ = (wr).cell? ⟨b, o, none⟩) ∧ Below (wr).heap.size (wr) w') (first | assumption | exact OL.out | exact Old.trans (by assumption) (by assumption) | exact Old.trans (by assumption) ((Below.refl _ _).alloc (Nat.le_refl _) _) | exact Old.set (Old.set (by assumption) (by exact hge)) (by exact hge)) (first
            | (go_at_call 91; refine (HSP.out _ ?_).mono ?_; (first | exact HXr.out.below ((Below.refl _ _).drew) HXr.out.1 | exact HXr.out.below (((Below.refl _ _).alloc (Nat.le_refl _) _).drew) HXr.out.1 | exact HXr.out.below (((Below.refl _ _).drew).alloc (Nat.le_refl _) _) HXr.out.1); rintro e wa ⟨rfl, ba⟩; have bw : Below wr.heap.size wr wa := (by first | exact ((Below.refl wr.heap.size wr).drew).trans ba | exact (((Below.refl wr.heap.size wr).alloc (Nat.le_refl _) _).drew).trans (ba.mono (by simp))); have hOl := Old.mk_ bw; have k0 := cell_be2 k0 bw kp; have k1 := cell_be2 k1 bw kp; have kpa : p < wa.heap.size := Nat.lt_of_lt_of_le kp bw.size; (first | (have hge : wr.heap.size ≤ wr.heap.size := Nat.le_refl _; have ya : At wa wr.heap.size #[.int .i64 0, .int .i64 0] 43 := (by first | exact (At.new wr _ _).below ba (by simp) | exact (At.new wr.drew _ _).below ba (by simp)); have yl := ya.lt; have y0 := ya.cellv (i := 0) rfl; have y1 := ya.cellv (i := 1) rfl; have f0 := ya.frozen 0; have f1 := ya.frozen 1) | skip))
            | (go_at_call 59; refine (HPT.out _).mono ?_; rintro e wb ⟨rfl, bb⟩; have bw2 : Below wr.heap.size wr wb := (by first | exact bw.trans (bb.mono bw.size) | exact (bw.alloc bw.size _).trans (bb.mono (by have := bw.size; simp; omega))); have hOl2 := Old.mk_ bw2; (first | (have yb : At wb wr.heap.size #[.int .i64 0, .int .i64 0] 43 := ya.below bb ya.lt; have yl := yb.lt; have hge : wr.heap.size ≤ wr.heap.size := Nat.le_refl _; have y0 := yb.cellv (i := 0) rfl; have y1 := yb.cellv (i := 1) rfl; have f0 := yb.frozen 0; have f1 := yb.frozen 1) | (have yb : At wb wa.heap.size #[.int .i64 0, .int .i64 0] 43 := (At.new wa _ _).below bb (by simp); have yl := yb.lt; have hge : wr.heap.size ≤ wa.heap.size := bw.size; have y0 := yb.cellv (i := 0) rfl; have y1 := yb.cellv (i := 1) rfl; have f0 := yb.frozen 0; have f1 := yb.frozen 1) | skip)))
          all_goals (go_wp2_with fail; go_meet)
          all_goals first
            | exact ⟨_, rfl, Lib.hid (at_set2m yb), Lib.hid ((bw2.setCell (by exact hge) _).setCell (by exact hge) _), hge⟩
            | exact ⟨_, rfl, Lib.hid (At.new _ _ _), Lib.hid (bw2.alloc bw2.size _), bw2.size⟩
        case rest =>
          obtain ⟨b7, rfl, HP7, HL7, hb7⟩ := hcut
          have hz7 := HL7.out.size
          have HAt7 := Lib.hid (HAt.out.below HL7.out kz)
          have HZ7 := Lib.hid (HZ.out.below HL7.out kz0)
          have HO7 := Lib.hid (HO.out.below HL7.out (Nat.le_refl _))
          have HLc := Lib.hid (HL.out.trans (HL7.out.mono hLz))
          have s3 := cell_be2 k2 HL7.out kp
          have s4 := cell_be2 e4 HL7.out hbA
          have s0 := HAt7.out.cellv (i := 2) rfl
          have s1 := HP7.out.cellv (i := 0) rfl
          have s2 := HP7.out.cellv (i := 1) rfl
          have l5 := HAt7.out.lt
          have l7 := HP7.out.lt
          have lp := Nat.lt_of_lt_of_le kp hz7
          have lA := Nat.lt_of_lt_of_le hbA hz7
          have lR := Nat.lt_of_lt_of_le hR1 hz7
          have HBX := Lib.hid (show Box _ b5 (mvW W H s) (mvH W H s) (some ⟨bR, oR, none⟩) n c3 from ⟨HAt7.out.lt, HAt7.out.cellv (i := 0) rfl, HAt7.out.cellv (i := 1) rfl, HAt7.out.cellv (i := 2) rfl⟩)
          obtain ⟨bq, oq, hRe, -, -, hRq⟩ := HO7.out.2.2.2 (by omega)
          injection hRe with hRe
          injection hRe with e1 e2 _
          subst e1 e2
          obtain ⟨hcd, hfd⟩ := hRq d hdn
          clear HAt HZ HO HL HXr HRr k0 k1 k2 kp kz kz0 e4 hRq HRC
          generalize hwo : wc = wo at *
          clear hwo
          go_wp2
          go_region_held3 (fun w' => w'.cell? ⟨b5, 2, none⟩ = some (.slice (some ⟨bR, oR, none⟩) n c3) ∧ w'.cell? ⟨b7, 0, none⟩ = some (.int .i64 X) ∧ w'.cell? ⟨b7, 1, none⟩ = some (.int .i64 Y) ∧ w'.cell? ⟨p, 2, none⟩ = some (.slice (some ⟨bA, oA, none⟩) n c) ∧ w'.cell? ⟨bA, oA + j, none⟩ = some (.int .i64 fk))
            (first | exact ⟨s0, s1, s2, s3, s4⟩ | exact ⟨u0, u1, u2, u3, u4⟩ | exact ⟨t0, t1, t2, t3, t4'⟩ | go_keep | assumption)
            (first
              | (go_at_call 92; refine (HNB.out _ ?_).mono ?_; exact HBX.out; rintro e wd ⟨rfl, bd⟩; have bd' := (Below.refl wo.heap.size wo).drew.trans bd; have u0 := cell_be2 s0 bd' l5; have u1 := cell_be2 s1 bd' l7; have u2 := cell_be2 s2 bd' l7; have u3 := cell_be2 s3 bd' lp; have u4 := cell_be2 s4 bd' lA; have hcd := cell_be2 hcd bd' lR; have hfd := ((bcell bd').2 bR (oR + d) lR).trans hfd; have lR' := Nat.lt_of_lt_of_le lR bd'.size
                 have t0 : (wd.setCell ⟨bR, oR + d, none⟩ (.int .i64 kq)).cell? ⟨b5, 2, none⟩ = _ := (World.cell?_setCell_other _ _ _ _ (fun h => by injection h; omega)).trans u0
                 have t1 : (wd.setCell ⟨bR, oR + d, none⟩ (.int .i64 kq)).cell? ⟨b7, 0, none⟩ = _ := (World.cell?_setCell_other _ _ _ _ (fun h => by injection h; omega)).trans u1
                 have t2 : (wd.setCell ⟨bR, oR + d, none⟩ (.int .i64 kq)).cell? ⟨b7, 1, none⟩ = _ := (World.cell?_setCell_other _ _ _ _ (fun h => by injection h; omega)).trans u2
                 have t3 : (wd.setCell ⟨bR, oR + d, none⟩ (.int .i64 kq)).cell? ⟨p, 2, none⟩ = _ := (World.cell?_setCell_other _ _ _ _ (fun h => by injection h; omega)).trans u3
                 have t4' : (wd.setCell ⟨bR, oR + d, none⟩ (.int .i64 kq)).cell? ⟨bA, oA + j, none⟩ = _ := (World.cell?_setCell_other _ _ _ _ (fun h => by injection h; omega)).trans u4)
              | (go_at_call 74; refine (HKD.out _).mono ?_; rintro e we ⟨rfl, rfl⟩))
          rename_i hSx
          have HO8 := Lib.hid (OwnRow.put (HO7.out.below bd' (Nat.le_refl _)) hdn kq (WalkArith.wf_i64 (by omega)))
          have HAt8 := Lib.hid ((HAt7.out.below bd' l5).setOther (a := ⟨bR, oR + d, none⟩) hbRne (.int .i64 kq))
          have HZ8 := Lib.hid ((HZ7.out.below bd' (by omega)).setOther (a := ⟨bR, oR + d, none⟩) (by show bR ≠ w.heap.size; omega) (.int .i64 kq))
          have HL8 := Lib.hid ((HLc.out.trans (bd'.mono HLc.out.size)).setCell (p := ⟨bR, oR + d, none⟩) (by show w.heap.size ≤ bR; omega) (.int .i64 kq))
          clear hSx t0 t1 t2 t3 t4' u0 u1 u2 u3 u4 s0 s1 s2 s3 s4 hcd hfd bd bd'
          go_wp2
          go_roundw
          case rel => exact ⟨j + 1, by omega, by go_num, Lib.hid (own_eq HO8.out (fun t ht => HDP.out t ht)), HAt8, HZ8, HL8⟩
          case measure => simp [intOf]; omega
      · have hjn : j = n := by omega
        have hdec : decide ((j : Int) < (n : Int)) = false := decide_eq_false (by omega)
        have HOf := Lib.hid (own_eq (g := mpF W H s f) HO.out (fun t ht => by rw [hjn]; exact mpK_all HWs.out HHs.out HN.out t ht))
        have m0 := HAt.out.cellv (i := 0) rfl
        have m1 := HAt.out.cellv (i := 1) rfl
        have m2 := HAt.out.cellv (i := 2) rfl
        have y0 := HZ.out.cellv (i := 0) rfl
        have y1 := HZ.out.cellv (i := 1) rfl
        have y2 := HZ.out.cellv (i := 2) rfl
        have g0 := HZ.out.frozen 0
        have g1 := HZ.out.frozen 1
        have g2 := HZ.out.frozen 2
        clear HAt hjn
        go_wp2
        refine bodyPost_ret ?_ rfl ⟨A3, c3, rfl, (ownRow_setBox HOf.out (by omega) _ _ _).mono (by omega), ((HL.out.setCell (p := ⟨w.heap.size, 0, none⟩) (Nat.le_refl _) _).setCell (p := ⟨w.heap.size, 1, none⟩) (Nat.le_refl _) _).setCell (p := ⟨w.heap.size, 2, none⟩) (Nat.le_refl _) _⟩
        simp [results, Tryd.results50, go_sem, y0, y1, y2]
set_option maxHeartbeats 8000000 in
set_option maxRecDepth 100000 in
theorem spec_map_sw (w : World) (p : Nat) (W H : Int) (A : Option Addr) (n c : Nat) (f : Nat → Int) (s : Int) (hb : Box w p W H A n c) (hr : Row .i64 w A n c f) (hv : validB W H n f = true) (hs : inB s 0 7 = true) (hsw : swB s = true) :
    Calls Tryd.prog 50 #[.pointer (some ⟨p, 0, none⟩), .int .i64 s] w (PanelMade (mvW W H s) (mvH W H s) n (mpF W H s f) w) := by
  obtain ⟨hW, hH, hn, hK⟩ := validB_yes hv
  have HWs := Lib.hid hW
  have HHs := Lib.hid hH
  have HN := Lib.hid hn
  have HK := Lib.hid hK
  have HSs := Lib.hid hs
  have hp0 := hb.1
  have b0 := (Below.refl w.heap.size w).alloc (Nat.le_refl _) (.cells #[.int .i64 0, .int .i64 0, .slice none 0 0] 26)
  have HX := Lib.hid hb
  have HR := Lib.hid hr
  have HZ := Lib.hid (At.new w #[.int .i64 0, .int .i64 0, .slice none 0 0] 26)
  have HL := Lib.hid b0
  have HSN := Lib.hid (fun w => specNew w W H n hW hH hn)
  have t4 : (bits BinOp.and .i64 s 4 != 0) = true := by rw [← hsw]; rcases eight hs with rfl | rfl | rfl | rfl | rfl | rfl | rfl | rfl <;> kernel_rfl
  have EW := Lib.hid (show mvW W H s = H by unfold mvW; rw [hsw]; rfl)
  have EH := Lib.hid (show mvH W H s = W by unfold mvH; rw [hsw]; rfl)
  have HSM := Lib.hid (fun w => specNew w H W n hH hW (by rw [hn]; unfold inner; exact Int.add_comm _ _))
  obtain ⟨-, k0, k1, k2⟩ := hb
  clear hr hv hs b0 hW hH hn hK hsw
  go_enter Tryd.func50, Tryd.ntmps50
  go_wp2
  have kz := HZ.out.lt
  have hp1 : p < (w.alloc (.cells #[.int .i64 0, .int .i64 0, .slice none 0 0] 26)).heap.size := by simp; omega
  have k0' := cell_be2 k0 HL.out hp0
  have k1' := cell_be2 k1 HL.out hp0
  clear k0 k1 k2
  generalize w.alloc (.cells #[.int .i64 0, .int .i64 0, .slice none 0 0] 26) = w1 at *
  have hz1 := HL.out.size
  have hz1' : w.heap.size < w1.heap.size := kz
  go_cut [5] (fun s5 wx => ∃ b5 A3 c3, s5 = .pointer (some ⟨b5, 0, none⟩) ∧ Hid (NewB w.heap.size b5 W H A3 n c3 wx) ∧ Hid (Below w1.heap.size w1 wx) ∧ w1.heap.size ≤ b5)
  case first =>
    have OL := Lib.hid (Old.mk_ (Below.refl w1.heap.size w1).drew)
    go_region_held3 (fun w' => (∀ b o, b < (w1).heap.size → w'.cell? ⟨b, o, none⟩ = (w1).cell? ⟨b, o, none⟩) ∧ Below (w1).heap.size (w1) w') (first | assumption | exact OL.out | exact Old.trans (by assumption) (by assumption) | exact Old.trans (by assumption) ((Below.refl _ _).alloc (Nat.le_refl _) _) | exact Old.set (Old.set (Old.set (by assumption) (by exact hge)) (by exact hge)) (by exact hge) | exact Old.set (Old.set (by assumption) (by exact hge)) (by exact hge)) (first | (go_at_call 83; refine (HSN.out _).mono ?_; rintro e wa ⟨A3, c3, rfl, ho, ba⟩; have bO : Below w1.heap.size w1 wa := (by first | exact ((Below.refl w1.heap.size w1).drew).trans ba | exact (((Below.refl w1.heap.size w1).alloc (Nat.le_refl _) _).drew).trans (ba.mono (by simp))); have hOl := Old.mk_ bO; (first | (have hge : w1.heap.size ≤ w1.heap.size := Nat.le_refl _; have ya : At wa w1.heap.size #[.int .i64 0, .int .i64 0, .slice none 0 0] 26 := (by first | exact (At.new w1 _ _).below ba (by simp) | exact (At.new w1.drew _ _).below ba (by simp)); have yz := ya.lt; have y0 := ya.cellv (i := 0) rfl; have y1 := ya.cellv (i := 1) rfl; have y2 := ya.cellv (i := 2) rfl; have f0 := ya.frozen 0; have f1 := ya.frozen 1; have f2 := ya.frozen 2) | skip)))
    all_goals (go_wp2_with fail; go_meet)
    all_goals first
      | (have bb : Below w1.heap.size w1 wa := Below.trans (Below.refl w1.heap.size w1).drew ba
         have hf := nb_new (B := w.heap.size) (W := W) (H := H) (w1 := w1) ho bb kz
         exact ⟨_, _, _, rfl, Lib.hid hf.1, Lib.hid hf.2, bb.size⟩)
      | (have bb : Below w1.heap.size w1 wa := ((Below.refl w1.heap.size w1).alloc (Nat.le_refl _) _).drew.trans (ba.mono (by simp))
         have hf := nb_fill (B := w.heap.size) (W := W) (H := H) ya ho bb (Nat.le_refl _) (by simp) kz
         exact ⟨_, _, _, rfl, Lib.hid hf.1, Lib.hid hf.2, Nat.le_refl _⟩)
  case rest =>
    obtain ⟨b5, A3, c3, rfl, HNB, HL1, hb5⟩ := hcut
    clear k0' k1'
    have hzx := HL1.out.size
    have j0 := cell_be2 (w' := wc) (HX.out.2.1 : w.cell? _ = _) (HL.out.trans (HL1.out.mono hz1)) hp0
    have j1 := cell_be2 (w' := wc) (HX.out.2.2.1 : w.cell? _ = _) (HL.out.trans (HL1.out.mono hz1)) hp0
    have hpx : p < wc.heap.size := by omega
    go_wp2
    go_cut [] (fun wy => ∃ A4 c4, Hid (NewB w.heap.size b5 H W A4 n c4 wy) ∧ Hid (Below w1.heap.size w1 wy))
    case first =>
      go_region_with (first | (go_at_call 83; refine (HSM.out _).mono ?_; rintro e wa ⟨A4, c4, rfl, ho, ba⟩; have ya : At wa b5 #[.int .i64 W, .int .i64 H, .slice A3 n c3] 26 := HNB.out.box.drew.below ba HNB.out.box.lt; have yz := ya.lt; have y0 := ya.cellv (i := 0) rfl; have y1 := ya.cellv (i := 1) rfl; have y2 := ya.cellv (i := 2) rfl; have f0 := ya.frozen 0; have f1 := ya.frozen 1; have f2 := ya.frozen 2))
      all_goals (go_wp2_with fail; go_meet)
      all_goals
        have bb : Below w1.heap.size w1 wa := (HL1.out.drew).trans (ba.mono hzx)
        have hf := nb_fill (B := w.heap.size) (W := H) (H := W) ya ho bb hb5 HNB.out.box.lt kz
        exact ⟨_, _, Lib.hid hf.1, Lib.hid hf.2⟩
    case rest =>
    obtain ⟨A4, c4, HNC, HL2⟩ := hcut
    clear HNB HL1 j0 j1 hpx hzx
    rename Hid (NewB w.heap.size b5 H W A4 n c4 _) => HNB
    have HAt0 : Hid (At wc b5 #[.int .i64 (mvW W H s), .int .i64 (mvH W H s), .slice A4 n c4] 26) := Lib.hid (by rw [EW.out, EH.out]; exact HNB.out.box)
    have HO0 := Lib.hid HNB.out.row
    have HNE := Lib.hid HNB.out.ne
    have HL0 := Lib.hid (HL.out.trans (HL2.out.mono hz1))
    have HZ0 := Lib.hid (HZ.out.below HL2.out kz)
    have hbge := HNB.out.ge
    clear HNB HL2 HL HZ hp1 kz
    go_wp2
    generalize wc = w3 at *
    have hO : Hid (OwnRow w3 (w.heap.size + 1) A4 n c4 (mpK W H s f 0)) := Lib.hid (own_eq HO0.out (fun t ht => (mpK_zero HWs.out HHs.out HN.out t ht).symm))
    clear HO0
    go_loopw [6] (fun kv wr => ∃ j : Nat, j ≤ n ∧ kv = .int .i64 j ∧ Hid (OwnRow wr (w.heap.size + 1) A4 n c4 (mpK W H s f j)) ∧ Hid (At wr b5 #[.int .i64 (mvW W H s), .int .i64 (mvH W H s), .slice A4 n c4] 26) ∧ Hid (At wr w.heap.size #[.int .i64 0, .int .i64 0, .slice none 0 0] 26) ∧ Hid (Below w.heap.size w wr)) (fun kv _ => n - (intOf kv).toNat)
    case atStart => exact ⟨0, Nat.zero_le _, rfl, hO, HAt0, HZ0, HL0⟩
    case round =>
      clear hO HAt0 HL0 HZ0
      obtain ⟨j, hj, rfl, HO, HAt, HZ, HL⟩ := hrel
      have hLz := HL.out.size
      have HXr := Lib.hid (HX.out.below HL.out hp0)
      have HRr := Lib.hid (HR.out.below HL.out (Nat.le_refl _))
      obtain ⟨kp, k0, k1, k2⟩ := id HXr.out
      have kz := HAt.out.lt
      have kz0 := HZ.out.lt
      by_cases hlt : j < n
      · have hdec : decide ((j : Int) < (n : Int)) = true := decide_eq_true (by omega)
        have hX : 0 ≤ (j : Int) ∧ (j : Int) < inner W H := by have := HN.out; omega
        obtain ⟨h1, h2, -⟩ := ptn_is HWs.out HHs.out hX.1 hX.2
        obtain ⟨x1, x2, y1, y2, -⟩ := has_yes h1
        have HSP : Hid (∀ w : World, Box w p W H A n c → Calls Tryd.prog 91 #[.pointer (some ⟨p, 0, none⟩), .int .i64 j] w (Gives (.agg #[.int .i64 (ptX W j), .int .i64 (ptY W j)]) w)) := Lib.hid (fun w hb => specPoint w p W H A n c j hb HWs.out HHs.out hX.1 hX.2)
        have HPT := Lib.hid (fun w => spec_pt w W H (ptX W j) (ptY W j) s HWs.out HHs.out x1 (by have := (side_mk HWs.out).2; omega) y1 (by have := (side_mk HHs.out).2; omega) HSs.out)
        obtain ⟨m1, m2⟩ := mv_side (s := s) HWs.out HHs.out
        obtain ⟨q1, q2, q3, q4⟩ := inside m1 m2 (mv_has (s := s) h1) (mv_edge (s := s) h2)
        have HNB : Hid (∀ w : World, Box w b5 (mvW W H s) (mvH W H s) A4 n c4 → Calls Tryd.prog 92 #[.pointer (some ⟨b5, 0, none⟩), .agg #[.int .i64 (mvX W H s (ptX W j) (ptY W j)), .int .i64 (mvY W H s (ptX W j) (ptY W j))]] w (Gives (.int .i64 (dstI W H s j)) w)) :=
          Lib.hid (fun w hb => specNumber w b5 (mvW W H s) (mvH W H s) A4 n c4 _ _ hb m1 q1 q2 q3 q4)
        have hd := dst_bd (s := s) HWs.out HHs.out hX.1 hX.2
        have HDP := Lib.hid (fun i (hi : i < n) => mpK_put (s := s) (f := f) HWs.out HHs.out HN.out hlt i hi)
        obtain ⟨d, hdd⟩ : ∃ d : Nat, dstI W H s j = d := ⟨(dstI W H s j).toNat, by omega⟩
        rw [hdd] at HNB hd HDP
        rw [Int.toNat_natCast] at HDP
        have hdn : d < n := by have := HN.out; omega
        obtain ⟨X, hXX⟩ : ∃ X, mvX W H s (ptX W j) (ptY W j) = X := ⟨_, rfl⟩
        obtain ⟨Y, hYY⟩ : ∃ Y, mvY W H s (ptX W j) (ptY W j) = Y := ⟨_, rfl⟩
        rw [hXX, hYY] at HPT HNB
        obtain ⟨PX, hPX⟩ : ∃ PX, ptX W j = PX := ⟨_, rfl⟩
        obtain ⟨PY, hPY⟩ : ∃ PY, ptY W j = PY := ⟨_, rfl⟩
        rw [hPX, hPY] at HPT HSP
        have hkf := kinds_iff.1 HK.out j hlt
        obtain ⟨bA, oA, rfl, hbA0, hcA0⟩ := HR.out.2.2.2 (by omega)
        have hbA : bA < wr.heap.size := by omega
        have hcm := HRr.out.2.1
        have hnc := HRr.out.1
        unfold maxLen at hcm
        have e4 : wr.cell? ⟨bA, oA + j, none⟩ = some (.int .i64 (f j)) := cell_be2 (hcA0 j hlt) HL.out hbA0
        have HKD := Lib.hid (fun w => spec_kind HSs.out hkf.1 hkf.2 w)
        have hkb := kd_bd (s := s) hkf
        obtain ⟨fk, hfk⟩ : ∃ fk, f j = fk := ⟨_, rfl⟩
        rw [hfk] at e4 HKD HDP hkb
        obtain ⟨kq, hkq⟩ : ∃ kq, kdS s fk = kq := ⟨_, rfl⟩
        rw [hkq] at HKD HDP hkb
        obtain ⟨bR, oR, rfl, hR0, hR1, hRc⟩ := HO.out.2.2.2 (by omega)
        have hN2 := HO.out.1
        have hN3 := HO.out.2.1
        unfold maxLen at hN3
        have HRC := Lib.hid hRc
        clear h1 h2 x1 x2 y1 y2 m1 m2 q1 q2 q3 q4 hXX hYY hPX hPY hkq hfk hkf hdd hX hcA0 hRc
        have hbRne : bR ≠ b5 := HNE.out bR (by omega) rfl
        go_wp2
        go_cut [7] (fun s7 wx => ∃ b7, s7 = .pointer (some ⟨b7, 0, none⟩) ∧ Hid (At wx b7 #[.int .i64 X, .int .i64 Y] 43) ∧ Hid (Below wr.heap.size wr wx) ∧ wr.heap.size ≤ b7)
        case first =>
          have OL := Lib.hid (Old.mk_ (Below.refl wr.heap.size wr).drew)
          go_region_held3 (fun w' => (∀ b o, b < (wr).heap.size → w'.cell? ⟨b, o, none⟩ = (wr).cell? ⟨b, o, none⟩) ∧ Below (wr).heap.size (wr) w') (first | assumption | exact OL.out | exact Old.trans (by assumption) (by assumption) | exact Old.trans (by assumption) ((Below.refl _ _).alloc (Nat.le_refl _) _) | exact Old.set (Old.set (by assumption) (by exact hge)) (by exact hge)) (first
            | (go_at_call 91; refine (HSP.out _ ?_).mono ?_; (first | exact HXr.out.below ((Below.refl _ _).drew) HXr.out.1 | exact HXr.out.below (((Below.refl _ _).alloc (Nat.le_refl _) _).drew) HXr.out.1 | exact HXr.out.below (((Below.refl _ _).drew).alloc (Nat.le_refl _) _) HXr.out.1); rintro e wa ⟨rfl, ba⟩; have bw : Below wr.heap.size wr wa := (by first | exact ((Below.refl wr.heap.size wr).drew).trans ba | exact (((Below.refl wr.heap.size wr).alloc (Nat.le_refl _) _).drew).trans (ba.mono (by simp))); have hOl := Old.mk_ bw; have k0 := cell_be2 k0 bw kp; have k1 := cell_be2 k1 bw kp; have kpa : p < wa.heap.size := Nat.lt_of_lt_of_le kp bw.size; (first | (have hge : wr.heap.size ≤ wr.heap.size := Nat.le_refl _; have ya : At wa wr.heap.size #[.int .i64 0, .int .i64 0] 43 := (by first | exact (At.new wr _ _).below ba (by simp) | exact (At.new wr.drew _ _).below ba (by simp)); have yl := ya.lt; have y0 := ya.cellv (i := 0) rfl; have y1 := ya.cellv (i := 1) rfl; have f0 := ya.frozen 0; have f1 := ya.frozen 1) | skip))
            | (go_at_call 59; refine (HPT.out _).mono ?_; rintro e wb ⟨rfl, bb⟩; have bw2 : Below wr.heap.size wr wb := (by first | exact bw.trans (bb.mono bw.size) | exact (bw.alloc bw.size _).trans (bb.mono (by have := bw.size; simp; omega))); have hOl2 := Old.mk_ bw2; (first | (have yb : At wb wr.heap.size #[.int .i64 0, .int .i64 0] 43 := ya.below bb ya.lt; have yl := yb.lt; have hge : wr.heap.size ≤ wr.heap.size := Nat.le_refl _; have y0 := yb.cellv (i := 0) rfl; have y1 := yb.cellv (i := 1) rfl; have f0 := yb.frozen 0; have f1 := yb.frozen 1) | (have yb : At wb wa.heap.size #[.int .i64 0, .int .i64 0] 43 := (At.new wa _ _).below bb (by simp); have yl := yb.lt; have hge : wr.heap.size ≤ wa.heap.size := bw.size; have y0 := yb.cellv (i := 0) rfl; have y1 := yb.cellv (i := 1) rfl; have f0 := yb.frozen 0; have f1 := yb.frozen 1) | skip)))
          all_goals (go_wp2_with fail; go_meet)
          all_goals first
            | exact ⟨_, rfl, Lib.hid (at_set2m yb), Lib.hid ((bw2.setCell (by exact hge) _).setCell (by exact hge) _), hge⟩
            | exact ⟨_, rfl, Lib.hid (At.new _ _ _), Lib.hid (bw2.alloc bw2.size _), bw2.size⟩
        case rest =>
          obtain ⟨b7, rfl, HP7, HL7, hb7⟩ := hcut
          have hz7 := HL7.out.size
          have HAt7 := Lib.hid (HAt.out.below HL7.out kz)
          have HZ7 := Lib.hid (HZ.out.below HL7.out kz0)
          have HO7 := Lib.hid (HO.out.below HL7.out (Nat.le_refl _))
          have HLc := Lib.hid (HL.out.trans (HL7.out.mono hLz))
          have s3 := cell_be2 k2 HL7.out kp
          have s4 := cell_be2 e4 HL7.out hbA
          have s0 := HAt7.out.cellv (i := 2) rfl
          have s1 := HP7.out.cellv (i := 0) rfl
          have s2 := HP7.out.cellv (i := 1) rfl
          have l5 := HAt7.out.lt
          have l7 := HP7.out.lt
          have lp := Nat.lt_of_lt_of_le kp hz7
          have lA := Nat.lt_of_lt_of_le hbA hz7
          have lR := Nat.lt_of_lt_of_le hR1 hz7
          have HBX := Lib.hid (show Box _ b5 (mvW W H s) (mvH W H s) (some ⟨bR, oR, none⟩) n c4 from ⟨HAt7.out.lt, HAt7.out.cellv (i := 0) rfl, HAt7.out.cellv (i := 1) rfl, HAt7.out.cellv (i := 2) rfl⟩)
          obtain ⟨bq, oq, hRe, -, -, hRq⟩ := HO7.out.2.2.2 (by omega)
          injection hRe with hRe
          injection hRe with e1 e2 _
          subst e1 e2
          obtain ⟨hcd, hfd⟩ := hRq d hdn
          clear HAt HZ HO HL HXr HRr k0 k1 k2 kp kz kz0 e4 hRq HRC
          generalize hwo : wc = wo at *
          clear hwo
          go_wp2
          go_region_held3 (fun w' => w'.cell? ⟨b5, 2, none⟩ = some (.slice (some ⟨bR, oR, none⟩) n c4) ∧ w'.cell? ⟨b7, 0, none⟩ = some (.int .i64 X) ∧ w'.cell? ⟨b7, 1, none⟩ = some (.int .i64 Y) ∧ w'.cell? ⟨p, 2, none⟩ = some (.slice (some ⟨bA, oA, none⟩) n c) ∧ w'.cell? ⟨bA, oA + j, none⟩ = some (.int .i64 fk))
            (first | exact ⟨s0, s1, s2, s3, s4⟩ | exact ⟨u0, u1, u2, u3, u4⟩ | exact ⟨t0, t1, t2, t3, t4'⟩ | go_keep | assumption)
            (first
              | (go_at_call 92; refine (HNB.out _ ?_).mono ?_; exact HBX.out; rintro e wd ⟨rfl, bd⟩; have bd' := (Below.refl wo.heap.size wo).drew.trans bd; have u0 := cell_be2 s0 bd' l5; have u1 := cell_be2 s1 bd' l7; have u2 := cell_be2 s2 bd' l7; have u3 := cell_be2 s3 bd' lp; have u4 := cell_be2 s4 bd' lA; have hcd := cell_be2 hcd bd' lR; have hfd := ((bcell bd').2 bR (oR + d) lR).trans hfd; have lR' := Nat.lt_of_lt_of_le lR bd'.size
                 have t0 : (wd.setCell ⟨bR, oR + d, none⟩ (.int .i64 kq)).cell? ⟨b5, 2, none⟩ = _ := (World.cell?_setCell_other _ _ _ _ (fun h => by injection h; omega)).trans u0
                 have t1 : (wd.setCell ⟨bR, oR + d, none⟩ (.int .i64 kq)).cell? ⟨b7, 0, none⟩ = _ := (World.cell?_setCell_other _ _ _ _ (fun h => by injection h; omega)).trans u1
                 have t2 : (wd.setCell ⟨bR, oR + d, none⟩ (.int .i64 kq)).cell? ⟨b7, 1, none⟩ = _ := (World.cell?_setCell_other _ _ _ _ (fun h => by injection h; omega)).trans u2
                 have t3 : (wd.setCell ⟨bR, oR + d, none⟩ (.int .i64 kq)).cell? ⟨p, 2, none⟩ = _ := (World.cell?_setCell_other _ _ _ _ (fun h => by injection h; omega)).trans u3
                 have t4' : (wd.setCell ⟨bR, oR + d, none⟩ (.int .i64 kq)).cell? ⟨bA, oA + j, none⟩ = _ := (World.cell?_setCell_other _ _ _ _ (fun h => by injection h; omega)).trans u4)
              | (go_at_call 74; refine (HKD.out _).mono ?_; rintro e we ⟨rfl, rfl⟩))
          rename_i hSx
          have HO8 := Lib.hid (OwnRow.put (HO7.out.below bd' (Nat.le_refl _)) hdn kq (WalkArith.wf_i64 (by omega)))
          have HAt8 := Lib.hid ((HAt7.out.below bd' l5).setOther (a := ⟨bR, oR + d, none⟩) hbRne (.int .i64 kq))
          have HZ8 := Lib.hid ((HZ7.out.below bd' (by omega)).setOther (a := ⟨bR, oR + d, none⟩) (by show bR ≠ w.heap.size; omega) (.int .i64 kq))
          have HL8 := Lib.hid ((HLc.out.trans (bd'.mono HLc.out.size)).setCell (p := ⟨bR, oR + d, none⟩) (by show w.heap.size ≤ bR; omega) (.int .i64 kq))
          clear hSx t0 t1 t2 t3 t4' u0 u1 u2 u3 u4 s0 s1 s2 s3 s4 hcd hfd bd bd'
          go_wp2
          go_roundw
          case rel => exact ⟨j + 1, by omega, by go_num, Lib.hid (own_eq HO8.out (fun t ht => HDP.out t ht)), HAt8, HZ8, HL8⟩
          case measure => simp [intOf]; omega
      · have hjn : j = n := by omega
        have hdec : decide ((j : Int) < (n : Int)) = false := decide_eq_false (by omega)
        have HOf := Lib.hid (own_eq (g := mpF W H s f) HO.out (fun t ht => by rw [hjn]; exact mpK_all HWs.out HHs.out HN.out t ht))
        have m0 := HAt.out.cellv (i := 0) rfl
        have m1 := HAt.out.cellv (i := 1) rfl
        have m2 := HAt.out.cellv (i := 2) rfl
        have y0 := HZ.out.cellv (i := 0) rfl
        have y1 := HZ.out.cellv (i := 1) rfl
        have y2 := HZ.out.cellv (i := 2) rfl
        have g0 := HZ.out.frozen 0
        have g1 := HZ.out.frozen 1
        have g2 := HZ.out.frozen 2
        clear HAt hjn
        go_wp2
        refine bodyPost_ret ?_ rfl ⟨A4, c4, rfl, (ownRow_setBox HOf.out (by omega) _ _ _).mono (by omega), ((HL.out.setCell (p := ⟨w.heap.size, 0, none⟩) (Nat.le_refl _) _).setCell (p := ⟨w.heap.size, 1, none⟩) (Nat.le_refl _) _).setCell (p := ⟨w.heap.size, 2, none⟩) (Nat.le_refl _) _⟩
        simp [results, Tryd.results50, go_sem, y0, y1, y2]
theorem spec_map (w : World) (p : Nat) (W H : Int) (A : Option Addr) (n c : Nat) (f : Nat → Int) (s : Int) (hb : Box w p W H A n c) (hr : Row .i64 w A n c f) (hv : validB W H n f = true) (hs : inB s 0 7 = true) :
    Calls Tryd.prog 50 #[.pointer (some ⟨p, 0, none⟩), .int .i64 s] w (PanelMade (mvW W H s) (mvH W H s) n (mpF W H s f) w) := by
  cases hsw : swB s
  · exact spec_map_no w p W H A n c f s hb hr hv hs hsw
  · exact spec_map_sw w p W H A n c f s hb hr hv hs hsw
end Go.Proofs.YtdofeonkgaceeaaDoor.Base
