/-
  Panels moved by a symmetry: the program's.
-/
import Derived.Test.YtdofeonkgaceeaaDoorMov
import Derived.Test.YtdofeonkgaceeaaDoorYm
namespace Go.Proofs.YtdofeonkgaceeaaDoor.Base
open Go Go.RowKit
set_option linter.unusedVariables false
set_option linter.unusedSimpArgs false

theorem impl_exch_is {s : Int} {v : Bool} (h : inB s 0 7 = true) (hv : swB s = v) (w : World) : Calls Tryd.prog 88 #[.int .i64 s] w fun e w' => e = .returned (.bool v) ∧ w = w' := hv ▸ impl_exch h w
theorem impl_kind {s z : Int} (w : World) (hT : Cel w 0 [.int .i64 0, .int .i64 2, .int .i64 1]) (h : inB s 0 7 = true) (z0 : 0 ≤ z) (z2 : z ≤ 2) : Calls Tryd.prog 94 #[.int .i64 z, .int .i64 s] w fun e w' => e = .returned (.int .i64 (kdS s z)) ∧ w = w' := by
  have hz : z = 0 ∨ z = 1 ∨ z = 2 := by omega
  have g0 := hT.2 0 _ rfl
  have g1 := hT.2 1 _ rfl
  have g2 := hT.2 2 _ rfl
  have gl := hT.1
  have gn : w.heap.size ≠ 0 := by omega
  cases hs : swB s
  · have e : kdS s z = z := by unfold kdS; rw [hs]; rfl
    rw [e]
    have HE := Lib.hid (fun w => impl_exch_is h hs w)
    clear hs h e hT z0 z2 hz
    go_enter Tryd.func94, Tryd.ntmps94
    go_wp2_with (go_at_call 88; refine (HE.out _).mono ?_; rintro e w' ⟨rfl, rfl⟩)
    go_ret
    exact ⟨rfl, rfl⟩
  · have e : kdS s z = if z = 0 then 0 else 3 - z := by
      unfold kdS
      rw [hs]
      by_cases h0 : z = 0
      · simp [h0]
      · simp [h0]
    rw [e]
    have HE := Lib.hid (fun w => impl_exch_is h hs w)
    clear hs h e hT z0 z2
    rcases hz with rfl | rfl | rfl
    all_goals
      go_enter Tryd.func94, Tryd.ntmps94
      go_wp2_with (go_at_call 88; refine (HE.out _).mono ?_; rintro e w' ⟨rfl, rfl⟩)
      go_ret
      exact ⟨rfl, rfl⟩
theorem cel_set {w : World} {p : Nat} {cs : List Value} (h : Cel w p cs) {a : Addr} (ha : p ≠ a.block) (v : Value) : Cel (w.setCell a v) p cs :=
  ⟨by simpa [World.setCell] using h.1, fun i u hu => (World.cell?_setCell_other _ _ _ _ (fun e => ha (by rw [e]))).trans (h.2 i u hu)⟩
theorem Mov.set {w : World} {p q b : Nat} {W H s : Int} (h : Mov w p q b W H s) {a : Addr} (h1 : p ≠ a.block) (h2 : q ≠ a.block) (h3 : b ≠ a.block) (v : Value) : Mov (w.setCell a v) p q b W H s :=
  ⟨cel_set h.1 h1 v, cel_set h.2.1 h2 v, cel_set h.2.2 h3 v⟩
set_option maxHeartbeats 8000000 in
set_option maxRecDepth 100000 in
theorem impl_moved (w : World) (W H : Int) (A : Option Addr) (n c : Nat) (f : Nat → Int) (s : Int) (hr : Row .i64 w A n c f) (hv : validB W H n f = true) (hs : inB s 0 7 = true) (hT : Cel w 0 [.int .i64 0, .int .i64 2, .int .i64 1]) :
    Calls Tryd.prog 53 #[.agg #[.int .i64 W, .int .i64 H, .slice A n c], .int .i64 s] w (PanelMade (mvW W H s) (mvH W H s) n (mpF W H s f) w) := by
  obtain ⟨hW, hH, hn, hK⟩ := validB_yes hv
  have HWs := Lib.hid hW
  have HHs := Lib.hid hH
  have HN := Lib.hid hn
  have HK := Lib.hid hK
  have HSs := Lib.hid hs
  have HR := Lib.hid hr
  have HT := Lib.hid hT
  have hib := inner_bd' hW hH
  have hn112 : n ≤ 112 := by omega
  have HP0 := Lib.hid ((At.new w #[.int .i64 W, .int .i64 H, .slice A n c] 26).below ((Below.refl _ _).alloc (Nat.le_refl _) (.cells #[.int .i64 0, .int .i64 0, .slice none 0 0] 26)) (by simp))
  have hz0 := At.new (w.alloc (.cells #[.int .i64 W, .int .i64 H, .slice A n c] 26)) #[.int .i64 0, .int .i64 0, .slice none 0 0] 26
  rw [World.size_alloc] at hz0
  have HZ0 := Lib.hid hz0
  have HL0 := Lib.hid ((((Below.refl w.heap.size w).alloc (Nat.le_refl _) (.cells #[.int .i64 W, .int .i64 H, .slice A n c] 26)).alloc (by simp) (.cells #[.int .i64 0, .int .i64 0, .slice none 0 0] 26)))
  clear hr hv hs hT hW hH hn hK hz0 hib
  go_enter Tryd.func53, Tryd.ntmps53
  go_wp2_with fail
  refine (sizeOf_any _ W H A n c).mono ?_
  rintro e w3 ⟨rfl, b3⟩
  have HP3 := Lib.hid (HP0.out.below b3 HP0.out.lt)
  have HZ3 := Lib.hid (HZ0.out.below b3 HZ0.out.lt)
  have HL3 := Lib.hid (HL0.out.trans (b3.mono HL0.out.size))
  have hz3 := HZ3.out.lt
  clear b3 HP0 HZ0 HL0
  have b4 := (Below.refl w3.heap.size w3).alloc (Nat.le_refl _) (.cells #[.int .i64 W, .int .i64 H] 74)
  have HF4 := Lib.hid (At.new w3 #[.int .i64 W, .int .i64 H] 74)
  have HP4 := Lib.hid (HP3.out.below b4 HP3.out.lt)
  have HZ4 := Lib.hid (HZ3.out.below b4 HZ3.out.lt)
  have HL4 := Lib.hid (HL3.out.trans (b4.mono HL3.out.size))
  go_wp2
  clear b4 HP3 HZ3 HL3
  obtain ⟨b5, hb5⟩ : ∃ b5, w3.heap.size = b5 := ⟨_, rfl⟩
  rw [hb5] at hz3 HF4 ⊢
  clear hb5
  generalize w3.alloc (.cells #[.int .i64 W, .int .i64 H] 74) = w4 at *
  have hz4 := HL4.out.size
  have l5 := HF4.out.lt
  have q0 := HF4.out.cellv (i := 0) rfl
  have q1 := HF4.out.cellv (i := 1) rfl
  go_cut [6, 7] (fun s6 s7 wx => ∃ b6 mp mq mb, s6 = .pointer (some ⟨b6, 0, none⟩) ∧ s7 = .func (.func 104) #[] #[.pointer (some ⟨mp, 0, none⟩), .pointer (some ⟨mq, 0, none⟩)] ∧ Hid (At wx b6 #[.int .i64 (mvW W H s), .int .i64 (mvH W H s)] 74) ∧ Hid (Mov wx mp mq mb W H s) ∧ Hid (Below w4.heap.size w4 wx))
  case first =>
    have OL := Lib.hid (Old.mk_ (Below.refl w4.heap.size w4).drew)
    go_region_held3 (fun w' => (∀ b o, b < (w4).heap.size → w'.cell? ⟨b, o, none⟩ = (w4).cell? ⟨b, o, none⟩) ∧ Below (w4).heap.size (w4) w') (first | assumption | exact OL.out | exact Old.trans (by assumption) (by assumption) | exact Old.trans (by assumption) ((Below.refl _ _).alloc (Nat.le_refl _) _) | exact Old.set (Old.set (by assumption) (by exact hge)) (by exact hge))
      (first
        | (go_at_call 75; refine (sizeMoved_any _ W H s HSs.out).mono ?_; rintro e wa ⟨rfl, ba⟩; have bw : Below w4.heap.size w4 wa := (by first | exact ((Below.refl w4.heap.size w4).drew).trans ba | exact (((Below.refl w4.heap.size w4).alloc (Nat.le_refl _) _).drew).trans (ba.mono (by simp))); have hOl := Old.mk_ bw; (first | (have hge : w4.heap.size ≤ w4.heap.size := Nat.le_refl _; have ya : At wa w4.heap.size #[.int .i64 0, .int .i64 0] 74 := (by first | exact (At.new w4 _ _).below ba (by simp) | exact (At.new w4.drew _ _).below ba (by simp)); have yl := ya.lt; have y0 := ya.cellv (i := 0) rfl; have y1 := ya.cellv (i := 1) rfl; have f0 := ya.frozen 0; have f1 := ya.frozen 1) | skip))
        | (go_at_call 63; refine (mover_any _ W H s HSs.out).mono ?_; rintro e wb ⟨mp, mq, mb, rfl, hmv, bb, gp, gq, gb⟩; have bw2 : Below w4.heap.size w4 wb := (by first | exact bw.trans (bb.mono bw.size) | exact (bw.alloc bw.size _).trans (bb.mono (by have := bw.size; simp; omega))); have hOl2 := Old.mk_ bw2; (first | (have yb : At wb w4.heap.size #[.int .i64 0, .int .i64 0] 74 := ya.below bb ya.lt; have gy : w4.heap.size < wa.heap.size := ya.lt; have yl := yb.lt; have hge : w4.heap.size ≤ w4.heap.size := Nat.le_refl _; have y0 := yb.cellv (i := 0) rfl; have y1 := yb.cellv (i := 1) rfl; have f0 := yb.frozen 0; have f1 := yb.frozen 1) | (have yb : At wb wa.heap.size #[.int .i64 0, .int .i64 0] 74 := (At.new wa _ _).below bb (by simp); have yl := yb.lt; have hge : w4.heap.size ≤ wa.heap.size := bw.size; have y0 := yb.cellv (i := 0) rfl; have y1 := yb.cellv (i := 1) rfl; have f0 := yb.frozen 0; have f1 := yb.frozen 1) | skip)))
    all_goals (go_wp2_with fail; go_meet)
    all_goals first
      | exact ⟨_, _, _, _, rfl, rfl, Lib.hid (At.new _ _ _), Lib.hid (hmv.below ((Below.refl _ _).alloc (Nat.le_refl _) _) (Nat.le_refl _)), Lib.hid (bw2.alloc bw2.size _)⟩
      | ((try simp only [World.size_alloc] at gp gq gb)
         exact ⟨_, _, _, _, rfl, rfl, Lib.hid (at_set2 yb), Lib.hid ((hmv.set (by simp; omega) (by simp; omega) (by simp; omega) _).set (by simp; omega) (by simp; omega) (by simp; omega) _), Lib.hid ((bw2.setCell (by exact hge) _).setCell (by exact hge) _)⟩)
  case rest =>
    obtain ⟨b6, mp, mq, mb, rfl, rfl, HTo, HMv, HL5⟩ := hcut
    have hz5 := HL5.out.size
    have HP5 := Lib.hid (HP4.out.below HL5.out HP4.out.lt)
    have HZ5 := Lib.hid (HZ4.out.below HL5.out HZ4.out.lt)
    have HF5 := Lib.hid (HF4.out.below HL5.out HF4.out.lt)
    have HLc := Lib.hid (HL4.out.trans (HL5.out.mono hz4))
    have p2 := HP5.out.cellv (i := 2) rfl
    have lp := HP5.out.lt
    have hmk := run_make_row' (P := Tryd.prog) 22 2 (.int .i64 0) 8 Tryd.underlying22 infoI64 rfl .i64 .i64 n (by omega) (by omega)
    clear q0 q1 l5 HP4 HZ4 HF4 HL4 HL5
    generalize hwo : wc = wo at *
    clear hwo
    go_wp2
    clear hmk
    have hrow := World.rowIs_made wo (.int .i64 0) n 2
    have HO := Lib.hid (own_eq (g := mpK W H s f 0) (ownRow_of (base := wo.heap.size) hrow (by unfold maxLen; omega) (fun i hi => rfl) (Nat.le_refl _)) (fun t ht => (mpK_zero HWs.out HHs.out HN.out t ht).symm))
    clear hrow
    have bR0 := (Below.refl wo.heap.size wo).alloc (Nat.le_refl _) (.cells (madeCells #[.int .i64 0] n) 2)
    have HZ6 := Lib.hid (HZ5.out.below bR0 HZ5.out.lt)
    have HF6 := Lib.hid (HF5.out.below bR0 HF5.out.lt)
    have HTo6 := Lib.hid (HTo.out.below bR0 HTo.out.lt)
    have HMv6 := Lib.hid (HMv.out.below bR0 (Nat.le_refl _))
    have HL6 := Lib.hid (HLc.out.trans (bR0.mono HLc.out.size))
    have hR6 : wo.heap.size < (wo.alloc (.cells (madeCells #[.int .i64 0] n) 2)).heap.size := by simp
    have n5 := HF5.out.lt
    have n6 := HTo.out.lt
    have nz := HZ5.out.lt
    have np := HMv.out.1.1
    have nq := HMv.out.2.1.1
    have nb := HMv.out.2.2.1
    have hlo := HLc.out.size
    clear bR0 HZ5 HF5 HTo HMv HLc HP5 p2 lp
    generalize wo.alloc (.cells (madeCells #[.int .i64 0] n) 2) = w6 at *
    obtain ⟨bR, hbR⟩ : ∃ bR, wo.heap.size = bR := ⟨_, rfl⟩
    rw [hbR] at HO hR6 n5 n6 nz np nq nb hlo ⊢
    clear hbR hz5
    go_loopw [27] (fun kv wr => ∃ j : Nat, j ≤ n ∧ kv = .int .i64 j ∧ Hid (OwnRow wr bR (some ⟨bR, 0, none⟩) n n (mpK W H s f j)) ∧ Hid (At wr (w.heap.size + 1) #[.int .i64 0, .int .i64 0, .slice none 0 0] 26) ∧ Hid (At wr b5 #[.int .i64 W, .int .i64 H] 74) ∧ Hid (At wr b6 #[.int .i64 (mvW W H s), .int .i64 (mvH W H s)] 74) ∧ Hid (Mov wr mp mq mb W H s) ∧ Hid (Below w.heap.size w wr) ∧ bR < wr.heap.size) (fun kv _ => n - (intOf kv).toNat)
    case atStart => exact ⟨0, Nat.zero_le _, rfl, HO, HZ6, HF6, HTo6, HMv6, HL6, hR6⟩
    case round =>
      clear HO HZ6 HF6 HTo6 HMv6 HL6 hR6
      obtain ⟨j, hj, rfl, HO, HZ, HF, HTo, HMv, HL, hR⟩ := hrel
      by_cases hlt : j < n
      · have hX : 0 ≤ (j : Int) ∧ (j : Int) < inner W H := by have := HN.out; omega
        have hj112 : (j : Int) ≤ 112 := by omega
        obtain ⟨h1, h2, -⟩ := ptn_is HWs.out HHs.out hX.1 hX.2
        obtain ⟨x1, x2, y1, y2, -⟩ := has_yes h1
        have HPA := Lib.hid (fun w => pointAt_any w W H j HWs.out hX.1 hj112)
        have HMC : Hid (∀ w : World, Mov w mp mq mb W H s → Calls Tryd.prog 104 #[.agg #[.int .i64 (ptX W j), .int .i64 (ptY W j)], .pointer (some ⟨mp, 0, none⟩), .pointer (some ⟨mq, 0, none⟩)] w (Gives (.agg #[.int .i64 (mvX W H s (ptX W j) (ptY W j)), .int .i64 (mvY W H s (ptX W j) (ptY W j))]) w)) :=
          Lib.hid (fun w h => mover_call w mp mq mb W H s _ _ h HWs.out HHs.out HSs.out x1 x2 y1 y2)
        obtain ⟨m1, m2⟩ := mv_side (s := s) HWs.out HHs.out
        obtain ⟨q1, q2, q3, q4⟩ := inside m1 m2 (mv_has (s := s) h1) (mv_edge (s := s) h2)
        have HNB : Hid (∀ w : World, Calls Tryd.prog 95 #[.agg #[.int .i64 (mvW W H s), .int .i64 (mvH W H s)], .agg #[.int .i64 (mvX W H s (ptX W j) (ptY W j)), .int .i64 (mvY W H s (ptX W j) (ptY W j))]] w (Gives (.int .i64 (dstI W H s j)) w)) :=
          Lib.hid (fun w => numberOf_any w (mvW W H s) (mvH W H s) _ _ m1 q1 q2 q3 q4)
        have hd := dst_bd (s := s) HWs.out HHs.out hX.1 hX.2
        have HDP := Lib.hid (fun i (hi : i < n) => mpK_put (s := s) (f := f) HWs.out HHs.out HN.out hlt i hi)
        obtain ⟨d, hdd⟩ : ∃ d : Nat, dstI W H s j = d := ⟨(dstI W H s j).toNat, by omega⟩
        rw [hdd] at HNB hd HDP
        rw [Int.toNat_natCast] at HDP
        have hdn : d < n := by have := HN.out; omega
        obtain ⟨X, hXX⟩ : ∃ X, mvX W H s (ptX W j) (ptY W j) = X := ⟨_, rfl⟩
        obtain ⟨Y, hYY⟩ : ∃ Y, mvY W H s (ptX W j) (ptY W j) = Y := ⟨_, rfl⟩
        rw [hXX, hYY] at HMC HNB
        obtain ⟨PX, hPX⟩ : ∃ PX, ptX W j = PX := ⟨_, rfl⟩
        obtain ⟨PY, hPY⟩ : ∃ PY, ptY W j = PY := ⟨_, rfl⟩
        rw [hPX, hPY] at HMC HPA
        have hkf := kinds_iff.1 HK.out j hlt
        obtain ⟨bA, oA, rfl, hbA0, hcA0⟩ := HR.out.2.2.2 (by omega)
        have hcm := HR.out.2.1
        have hnc := HR.out.1
        unfold maxLen at hcm
        have hLz := HL.out.size
        have hbA : bA < wr.heap.size := by omega
        have e4 : wr.cell? ⟨bA, oA + j, none⟩ = some (.int .i64 (f j)) := cell_be2 (hcA0 j hlt) HL.out hbA0
        have HKD : Hid (∀ w : World, Cel w 0 [.int .i64 0, .int .i64 2, .int .i64 1] → Calls Tryd.prog 94 #[.int .i64 (f j), .int .i64 s] w fun e w' => e = .returned (.int .i64 (kdS s (f j))) ∧ w = w') := Lib.hid (fun w h => impl_kind w h HSs.out hkf.1 hkf.2)
        have hkb := kd_bd (s := s) hkf
        obtain ⟨fk, hfk⟩ : ∃ fk, f j = fk := ⟨_, rfl⟩
        rw [hfk] at e4 HKD HDP hkb
        obtain ⟨kq, hkq⟩ : ∃ kq, kdS s fk = kq := ⟨_, rfl⟩
        rw [hkq] at HKD HDP hkb
        clear h1 h2 x1 x2 y1 y2 m1 m2 q1 q2 q3 q4 hXX hYY hPX hPY hkq hfk hkf hdd hX hcA0
        have r0 := HF.out.cellv (i := 0) rfl
        have r1 := HF.out.cellv (i := 1) rfl
        have rl := HF.out.lt
        go_wp2_with fail
        clear e4 r0 r1 rl
        refine (HPA.out _).mono ?_
        rintro e wa ⟨rfl, ba⟩
        have HMa := Lib.hid (HMv.out.below ba (Nat.le_refl _))
        go_wp2_with fail
        refine (HMC.out _ HMa.out).mono ?_
        rintro e wb ⟨rfl, bb⟩
        have bab := ba.trans (bb.mono ba.size)
        have HTb := Lib.hid (HTo.out.below bab HTo.out.lt)
        have bN := (Below.refl wb.heap.size wb).alloc (Nat.le_refl _) (.cells #[.int .i64 X, .int .i64 Y] 43)
        have hBN := Lib.hid (bab.trans (bN.mono bab.size))
        have t0 := HTb.out.cellv (i := 0) rfl
        have t1 := HTb.out.cellv (i := 1) rfl
        have tl := HTb.out.lt
        clear HMa ba bb bab bN
        go_wp2_with fail
        clear t0 t1 tl
        refine (HNB.out _).mono ?_
        rintro e wd ⟨rfl, bd⟩
        have hBD := Lib.hid (hBN.out.trans (bd.mono hBN.out.size))
        clear bd
        go_wp2_with fail
        refine (HKD.out _ ?_).mono ?_
        · exact HT.out.below (HL.out.trans (hBD.out.mono hLz)) HT.out.1
        rintro e we ⟨rfl, rfl⟩
        have HO7 := Lib.hid (HO.out.below hBD.out (Nat.le_refl _))
        obtain ⟨bq, oq, hRe, -, -, hRq⟩ := HO7.out.2.2.2 (by omega)
        injection hRe with hRe
        injection hRe with e1 e2 _
        subst e1 e2
        obtain ⟨hcd, hfd⟩ := hRq d hdn
        rw [Nat.zero_add] at hcd hfd
        have lR : bR < wd.heap.size := by have := hBD.out.size; omega
        clear hRq
        go_wp2
        have hO8 := OwnRow.put HO7.out hdn kq (WalkArith.wf_i64 (by omega))
        rw [Nat.zero_add] at hO8
        have HO8 := Lib.hid hO8
        have HZ8 := Lib.hid ((HZ.out.below hBD.out HZ.out.lt).setOther (a := ⟨bR, d, none⟩) (by show bR ≠ w.heap.size + 1; omega) (.int .i64 kq))
        have HF8 := Lib.hid ((HF.out.below hBD.out HF.out.lt).setOther (a := ⟨bR, d, none⟩) (by show bR ≠ b5; omega) (.int .i64 kq))
        have HT8 := Lib.hid ((HTo.out.below hBD.out HTo.out.lt).setOther (a := ⟨bR, d, none⟩) (by show bR ≠ b6; omega) (.int .i64 kq))
        have HM8 := Lib.hid ((HMv.out.below hBD.out (Nat.le_refl _)).set (a := ⟨bR, d, none⟩) (by show mp ≠ bR; omega) (by show mq ≠ bR; omega) (by show mb ≠ bR; omega) (.int .i64 kq))
        have HL8 := Lib.hid ((HL.out.trans (hBD.out.mono hLz)).setCell (p := ⟨bR, d, none⟩) (by show w.heap.size ≤ bR; omega) (.int .i64 kq))
        clear hO8 hcd hfd
        go_roundw
        case rel => exact ⟨j + 1, by omega, by go_num, Lib.hid (own_eq HO8.out (fun t ht => HDP.out t ht)), HZ8, HF8, HT8, HM8, HL8, by simpa [World.setCell] using lR⟩
        case measure => simp [intOf]; omega
      · have hjn : j = n := by omega
        have HOf := Lib.hid (own_eq (g := mpF W H s f) HO.out (fun t ht => by rw [hjn]; exact mpK_all HWs.out HHs.out HN.out t ht))
        have m0 := HTo.out.cellv (i := 0) rfl
        have m1 := HTo.out.cellv (i := 1) rfl
        have ml := HTo.out.lt
        have y0 := HZ.out.cellv (i := 0) rfl
        have y1 := HZ.out.cellv (i := 1) rfl
        have y2 := HZ.out.cellv (i := 2) rfl
        have g0 := HZ.out.frozen 0
        have g1 := HZ.out.frozen 1
        have g2 := HZ.out.frozen 2
        have yl := HZ.out.lt
        clear hjn
        go_wp2
        refine bodyPost_ret ?_ rfl ⟨some ⟨bR, 0, none⟩, n, rfl, (ownRow_setBox HOf.out nz _ _ _).mono (by omega), ((HL.out.setCell (p := ⟨w.heap.size + 1, 0, none⟩) (by show w.heap.size ≤ w.heap.size + 1; omega) _).setCell (p := ⟨w.heap.size + 1, 1, none⟩) (by show w.heap.size ≤ w.heap.size + 1; omega) _).setCell (p := ⟨w.heap.size + 1, 2, none⟩) (by show w.heap.size ≤ w.heap.size + 1; omega) _⟩
        simp [results, Tryd.results53, go_sem, y0, y1, y2]
end Go.Proofs.YtdofeonkgaceeaaDoor.Base
