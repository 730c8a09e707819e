/-
  The specification's ReadPicture.
-/
import Derived.Test.YtdofeonkgaceeacDoorRda
import Derived.Test.YtdofeonkgaceeacDoorFls
import Derived.Test.YtdofeonkgaceeacDoorRps
import Derived.Test.YtdofeonkgaceeacDoorNum
import Derived.Test.YtdofeonkgaceeacDoorSetB
namespace Go.Proofs.YtdofeonkgaceeacDoor.Base
open Go Go.RowKit
open Go.PlainAid (bt get_bt bt_nonneg bt_le)
set_option linter.unusedVariables false
set_option linter.unusedSimpArgs false

/-- what ReadPicture answers: the code, or the panel with the kinds at the inner points -/
def RdqOut (n : Nat) (g : Nat → ByteArray) (w : World) (e : Ending) (w' : World) : Prop :=
  ∃ q y x : Int, FltIs n g q y x ∧
    ((q ≠ 0 ∧ PanelOut 0 0 0 (fun _ => 0) 8 w e w') ∨
     (q = 0 ∧ ∃ N : Nat, (N : Int) = inner (((g 0).size / 2 : Nat) : Int) ((n / 2 : Nat) : Int) ∧ PanelOut (((g 0).size / 2 : Nat) : Int) ((n / 2 : Nat) : Int) N (picF (((g 0).size / 2 : Nat) : Int) g) 0 w e w'))
theorem pt_ok {W H : Int} (hW : sideB W = true) (hH : sideB H = true) {k : Int} (h0 : 0 ≤ k) (h1 : k < inner W H) : 0 ≤ ptX W k ∧ ptX W k ≤ 2 * W ∧ 0 ≤ ptY W k ∧ ptY W k ≤ 2 * H := by
  obtain ⟨a1, a2⟩ := side_mk hW
  obtain ⟨b1, b2⟩ := side_mk hH
  have h := pt_rows (W := W) a1 h0
  have he := pt_end a1 b1 h0 h1
  have hm := Int.emod_nonneg k (show 2 * W - 1 ≠ 0 by omega)
  have hm' := Int.emod_lt_of_pos k (show 0 < 2 * W - 1 by omega)
  refine ⟨?_, ?_, by omega, by omega⟩
  · unfold ptX; split <;> omega
  · unfold ptX; split <;> omega
theorem own_congr2 {w : World} {base : Nat} {A : Option Addr} {n c : Nat} {f g : Nat → Int} (h : OwnRow w base A n c f) (e : ∀ t, t < n → f t = g t) : OwnRow w base A n c g := by
  refine ⟨h.1, h.2.1, fun i hi => by rw [← e i hi]; exact h.2.2.1 i hi, fun hn => ?_⟩
  obtain ⟨b, o, e1, e2, e3, e4⟩ := h.2.2.2 hn
  exact ⟨b, o, e1, e2, e3, fun i hi => by rw [← e i hi]; exact e4 i hi⟩
set_option maxHeartbeats 4000000 in
set_option maxRecDepth 100000 in
theorem spec_ReadPicture (w : World) (A : Option Addr) (n c : Nat) (g : Nat → ByteArray) (hr : VRow w A n c (fun i => .string (g i))) (hn : n ≤ 1048576) (hg : ∀ i, i < n → (g i).size ≤ 1048576) :
    Calls Tryd.prog 14 #[.slice A n c] w (RdqOut n g w) := by
  have b0 := (Below.refl w.heap.size w).alloc (Nat.le_refl _) (.cells #[.int .i64 0, .int .i64 0, .slice none 0 0] 33)
  have HP := Lib.hid (spec_fault (w.alloc (.cells #[.int .i64 0, .int .i64 0, .slice none 0 0] 33)) A n c g (hr.below b0 (Nat.le_refl _)) hn hg)
  have HR := Lib.hid hr
  have HG := Lib.hid hg
  clear b0 hr hg
  go_enter Tryd.func14, Tryd.ntmps14
  go_wp2_with fail
  refine HP.out.mono ?_
  rintro e w1 ⟨q, y, x, rfl, hF, hb⟩
  obtain ⟨z0, z1, z2, f0, f1, f2, hB, hzz⟩ := out_cells hb
  have HF := Lib.hid hF
  have HB := Lib.hid hB
  clear HP hb hB hF
  by_cases hq : q = 0
  · subst hq
    rcases HF.out with ⟨-, h, -⟩ | ⟨hs, hin⟩
    · exact absurd h (by decide)
    rcases hin with ⟨hgood, -⟩ | ⟨j, -, -, -, ⟨-, h, -⟩ | ⟨-, k, -, -, h, h', -⟩⟩
    · obtain ⟨p1, p2, p3, p4⟩ := szB_yes hs
      have hn0 : 0 < n := by omega
      generalize ha : (((g 0).size / 2 : Nat) : Int) = a at *
      generalize hbb : ((n / 2 : Nat) : Int) = b at *
      generalize hM : (g 0).size = M at *
      have hMa : (M : Int) = 2 * a + 1 := by omega
      have hnb : (n : Int) = 2 * b + 1 := by omega
      obtain ⟨a1, a2⟩ := side_mk p4
      obtain ⟨b1, b2⟩ := side_mk p2
      obtain ⟨i1, i2'⟩ := inner_bd' p4 p2
      obtain ⟨N, hN⟩ : ∃ N : Nat, (N : Int) = inner a b := ⟨(inner a b).toNat, by omega⟩
      have hN112 : N ≤ 112 := by omega
      obtain ⟨bA, oA, rfl, hbA, hcA⟩ := HR.out.2.2 hn0
      have hnc := HR.out.1
      have hcm := HR.out.2.1
      unfold maxLen at hcm
      have s0 : w1.cell? ⟨bA, oA + 0, none⟩ = some (.string (g 0)) := cell_be (hcA 0 hn0) HB.out hbA
      have s0' : w1.cell? ⟨bA, oA, none⟩ = some (.string (g 0)) := s0
      have hbA1 : bA < w1.heap.size := by omega
      have hg0 := HG.out 0 hn0
      have hi0 : (0 : Int) < (n : Int) := by omega
      have HN := Lib.hid hN
      have HWs := Lib.hid p4
      have HHs := Lib.hid p2
      have HA := Lib.hid ha
      have HBB := Lib.hid hbb
      have HMM := Lib.hid hM
      have HCA := Lib.hid hcA
      have HGD := Lib.hid hgood
      have HSN : Hid (∀ u v : Int, u = a → v = b → Calls Tryd.prog 44 #[.int .i64 u, .int .i64 v] w1 (PanelMade a b N (fun _ => 0) w1)) := Lib.hid (fun u v h1 h2 => by rw [h1, h2]; exact specNew w1 a b N HWs.out HHs.out HN.out)
      have HMA := Lib.hid hMa
      have HNB := Lib.hid hnb
      have hn17 : n ≤ 17 := by omega
      have hM17 : M ≤ 17 := by omega
      clear hN p1 p2 p3 p4 ha hbb hM hcA hgood hs i1 i2' hMa hnb
      go_wp2_with fail
      refine (HSN.out _ _ (by have h1 := HA.out; have h2 := HMM.out; omega) (by have h1 := HBB.out; omega)).mono ?_
      rintro e w2 ⟨A2, c2, rfl, o2, hb2⟩
      have HO0 := Lib.hid (o2.below ((Below.refl w2.heap.size w2).alloc (Nat.le_refl _) (.cells #[.int .i64 a, .int .i64 b, .slice A2 N c2] 33)) (Nat.le_refl _))
      have HL0 := Lib.hid (hb2.trans ((Below.refl w1.heap.size w2).alloc hb2.size (.cells #[.int .i64 a, .int .i64 b, .slice A2 N c2] 33)))
      have HAt0 := Lib.hid (At.new w2 #[.int .i64 a, .int .i64 b, .slice A2 N c2] 33)
      have hz2 := hb2.size
      have HAL : Hid (0 < N → ∀ bb, blk A2 = some bb → w1.heap.size ≤ bb ∧ bb < w2.heap.size) := Lib.hid o2.base_lt
      clear o2 hb2 s0 s0' hbA1
      go_wp2
      generalize w2.alloc (.cells #[.int .i64 a, .int .i64 b, .slice A2 N c2] 33) = w3 at *
      have hO : Hid (OwnRow w3 w1.heap.size A2 N c2 (fun i => if i < 0 then picF a g i else 0)) := Lib.hid (own_congr2 HO0.out (fun t ht => by simp))
      clear HO0
      go_loopw [8] (fun kv wr => ∃ j : Nat, j ≤ N ∧ kv = .int .i64 j ∧ Hid (OwnRow wr w1.heap.size A2 N c2 (fun i => if i < j then picF a g i else 0)) ∧ Hid (At wr w2.heap.size #[.int .i64 a, .int .i64 b, .slice A2 N c2] 33) ∧ Hid (Below w1.heap.size w1 wr)) (fun kv _ => N - (intOf kv).toNat)
      case atStart => exact ⟨0, Nat.zero_le _, rfl, hO, HAt0, HL0⟩
      case round =>
        clear hO HAt0 HL0
        generalize hwo : wr = wo at *
        clear hwo wr
        obtain ⟨j, hj, rfl, HO, HAt, HL⟩ := hrel
        have k2 : wo.cell? ⟨w2.heap.size, 2, none⟩ = some (.slice A2 N c2) := HAt.out.cellv (i := 2) rfl
        have kz := HAt.out.lt
        have hLz := HL.out.size
        by_cases hlt : j < N
        · have hdec : decide ((j : Int) < (N : Int)) = true := decide_eq_true (by omega)
          have hX : 0 ≤ (j : Int) ∧ (j : Int) < inner a b := by have := HN.out; omega
          have hpt := pt_ok HWs.out HHs.out hX.1 hX.2
          obtain ⟨X, hXX⟩ : ∃ X : Nat, ptX a j = X := ⟨(ptX a j).toNat, by omega⟩
          obtain ⟨Y, hYY⟩ : ∃ Y : Nat, ptY a j = Y := ⟨(ptY a j).toNat, by omega⟩
          have HSP := Lib.hid (specPoint wo w2.heap.size a b A2 N c2 j ⟨HAt.out.lt, HAt.out.cellv (i := 0) rfl, HAt.out.cellv (i := 1) rfl, HAt.out.cellv (i := 2) rfl⟩ HWs.out HHs.out hX.1 hX.2)
          rw [hXX, hYY] at HSP hpt
          have hYn : Y < n := by have := HNB.out; omega
          have hXM : X < M := by have := HMA.out; omega
          have HPF : Hid (picF a g j = kindI (bt (g Y) X)) := Lib.hid (by unfold picF; rw [hXX, hYY]; rfl)
          have hYc : Y < c := by omega
          obtain ⟨T, hT⟩ : ∃ T, g Y = T := ⟨_, rfl⟩
          have hXT : X < T.size := by have h := (HGD.out Y hYn).1; rw [hT] at h; omega
          have hTm := HG.out Y (by omega)
          have hcY := HCA.out Y hYn
          rw [hT] at hcY hTm HPF
          have HT := Lib.hid hT
          obtain ⟨bR, oR, rfl, hR0, hR1, -⟩ := HO.out.2.2.2 (by omega)
          have hN2 := HO.out.1
          have hN3 := HO.out.2.1
          unfold maxLen at hN3
          have hal := HAL.out (by omega) bR rfl
          have hbt := get_bt T X hXT
          have hb1 := bt_nonneg T X
          have hb2 := bt_le T X
          obtain ⟨kq, hkq⟩ : ∃ kq, kindI (bt T X) = kq := ⟨_, rfl⟩
          have hkb := kindI_bd (bt T X)
          rw [hkq] at hkb
          have HKQ : Hid (∀ w, Calls Tryd.prog 46 #[.int .u8 (bt T X)] w fun e w' => e = .returned (.int .i64 kq) ∧ w = w') := Lib.hid (fun w => hkq ▸ kindS_is w (bt T X))
          have HPK := Lib.hid (HPF.out.trans hkq)
          clear hX hXX hYY hpt hT hkq HPF
          go_wp2_with fail
          refine HSP.out.mono ?_
          rintro e w4 ⟨rfl, b4⟩
          have b5 := b4.trans ((Below.refl wo.heap.size w4).alloc b4.size (.cells #[.int .i64 (X : Int), .int .i64 (Y : Int)] 48))
          have HO5 := Lib.hid (HO.out.below b5 (Nat.le_refl _))
          have HAt5 := Lib.hid (HAt.out.below b5 kz)
          have HL5 := Lib.hid (HL.out.trans (b5.mono hLz))
          have hp5 := At.new w4 #[.int .i64 (X : Int), .int .i64 (Y : Int)] 48
          have hz4 := b4.size
          have s0 : (w4.alloc (.cells #[.int .i64 (X : Int), .int .i64 (Y : Int)] 48)).cell? ⟨w2.heap.size, 2, none⟩ = some (.slice (some ⟨bR, oR, none⟩) N c2) := HAt5.out.cellv (i := 2) rfl
          have s1 : (w4.alloc (.cells #[.int .i64 (X : Int), .int .i64 (Y : Int)] 48)).cell? ⟨w4.heap.size, 0, none⟩ = some (.int .i64 (X : Int)) := hp5.cellv (i := 0) rfl
          have s2 : (w4.alloc (.cells #[.int .i64 (X : Int), .int .i64 (Y : Int)] 48)).cell? ⟨w4.heap.size, 1, none⟩ = some (.int .i64 (Y : Int)) := hp5.cellv (i := 1) rfl
          have hb15 : Below w.heap.size w (w4.alloc (.cells #[.int .i64 (X : Int), .int .i64 (Y : Int)] 48)) := HB.out.trans (HL5.out.mono (by omega))
          have s3 : (w4.alloc (.cells #[.int .i64 (X : Int), .int .i64 (Y : Int)] 48)).cell? ⟨bA, oA + Y, none⟩ = some (.string T) := cell_be hcY hb15 hbA
          obtain ⟨bR', oR', hRe, -, hR5, hRc⟩ := HO5.out.2.2.2 (by omega)
          have hcf := hRc j hlt
          injection hRe with hRe
          injection hRe with e1 e2 _
          subst e1 e2
          have hcj := hcf.1
          have hfj := hcf.2
          clear hRc hcf b4 b5 hp5 hb15 hcY HSP
          have t0 : ((w4.alloc (.cells #[.int .i64 (X : Int), .int .i64 (Y : Int)] 48)).setCell ⟨bR, oR + j, none⟩ (.int .i64 kq)).cell? ⟨w2.heap.size, 2, none⟩ = _ := (World.cell?_setCell_other _ _ _ _ (fun h => by injection h; omega)).trans s0
          have t1 : ((w4.alloc (.cells #[.int .i64 (X : Int), .int .i64 (Y : Int)] 48)).setCell ⟨bR, oR + j, none⟩ (.int .i64 kq)).cell? ⟨w4.heap.size, 0, none⟩ = _ := (World.cell?_setCell_other _ _ _ _ (fun h => by injection h; omega)).trans s1
          have t2 : ((w4.alloc (.cells #[.int .i64 (X : Int), .int .i64 (Y : Int)] 48)).setCell ⟨bR, oR + j, none⟩ (.int .i64 kq)).cell? ⟨w4.heap.size, 1, none⟩ = _ := (World.cell?_setCell_other _ _ _ _ (fun h => by injection h; omega)).trans s2
          have t3 : ((w4.alloc (.cells #[.int .i64 (X : Int), .int .i64 (Y : Int)] 48)).setCell ⟨bR, oR + j, none⟩ (.int .i64 kq)).cell? ⟨bA, oA + Y, none⟩ = _ := (World.cell?_setCell_other _ _ _ _ (fun h => by injection h; omega)).trans s3
          go_wp2_with fail
          go_region_held3 (fun w' => w'.cell? ⟨w2.heap.size, 2, none⟩ = some (.slice (some ⟨bR, oR, none⟩) N c2) ∧ w'.cell? ⟨w4.heap.size, 0, none⟩ = some (.int .i64 (X : Int)) ∧ w'.cell? ⟨w4.heap.size, 1, none⟩ = some (.int .i64 (Y : Int)) ∧ w'.cell? ⟨bA, oA + Y, none⟩ = some (.string T))
            (first | exact ⟨s0, s1, s2, s3⟩ | exact ⟨t0, t1, t2, t3⟩ | go_keep | assumption)
            (first | (go_at_call 46; refine (HKQ.out _).mono ?_; rintro e wb ⟨rfl, rfl⟩))
          rename_i hSx
          clear hSx t0 t1 t2 t3 s0 s1 s2 s3
          have HO6 := Lib.hid (OwnRow.put HO5.out hlt kq (WalkArith.wf_i64 (by omega)))
          have HAt6 := Lib.hid (HAt5.out.setOther (a := ⟨bR, oR + j, none⟩) (by simp; omega) (.int .i64 kq))
          have HL6 := Lib.hid (HL5.out.setCell (p := ⟨bR, oR + j, none⟩) hal.1 (.int .i64 kq))
          clear HO5 HAt5 HL5 hcj hfj
          generalize (w4.alloc (.cells #[.int .i64 (X : Int), .int .i64 (Y : Int)] 48)).setCell ⟨bR, oR + j, none⟩ (.int .i64 kq) = w6 at *
          go_wp2
          go_roundw
          case rel =>
            refine ⟨j + 1, by omega, by go_num, Lib.hid (own_congr2 (HO6.out.below ((Below.refl _ _).drew) (Nat.le_refl _)) (fun t ht => ?_)), Lib.hid HAt6.out.drew, Lib.hid HL6.out.drew⟩
            unfold putF
            by_cases h1 : t = j
            · subst h1
              rw [if_pos rfl, if_pos (by omega)]
              exact HPK.out.symm
            · rw [if_neg h1]
              show (if t < j then picF a g t else 0) = _
              by_cases h2 : t < j
              · rw [if_pos h2, if_pos (by omega)]
              · rw [if_neg h2, if_neg (by omega)]
          case measure => simp [intOf]; omega
        · have hjN : j = N := by omega
          have hdec : decide ((j : Int) < (N : Int)) = false := decide_eq_false (by omega)
          have HOf := Lib.hid (own_congr2 (g := picF a g) HO.out (fun t ht => by rw [if_pos (by omega)]))
          have m0 : wo.cell? ⟨w2.heap.size, 0, none⟩ = some (.int .i64 a) := HAt.out.cellv (i := 0) rfl
          have m1 : wo.cell? ⟨w2.heap.size, 1, none⟩ = some (.int .i64 b) := HAt.out.cellv (i := 1) rfl
          have y0 := cell_be z0 HL.out hzz
          have y1 := cell_be z1 HL.out hzz
          have y2 := cell_be z2 HL.out hzz
          have g0 := ((bcell HL.out).2 w.heap.size 0 hzz).trans f0
          have g1 := ((bcell HL.out).2 w.heap.size 1 hzz).trans f1
          have g2 := ((bcell HL.out).2 w.heap.size 2 hzz).trans f2
          have hwo : w.heap.size < wo.heap.size := by omega
          clear HO HAt z0 z1 z2 f0 f1 f2 hjN
          go_wp2
          refine bodyPost_ret ?_ rfl ⟨0, y, x, HF.out, .inr ⟨rfl, N, ?_, A2, c2, rfl, ?_, ?_⟩⟩
          · rw [HMM.out, HA.out, HBB.out]
            simp [results, Tryd.results14, go_sem, y0, y1, y2]
          · rw [HMM.out, HA.out, HBB.out]
            exact HN.out
          · rw [HMM.out, HA.out]
            exact (ownRow_setBox HOf.out hzz _ _ _).mono (by omega)
          · exact (((HB.out.trans (HL.out.mono (by omega))).setCell (p := ⟨w.heap.size, 0, none⟩) (Nat.le_refl _) _).setCell (p := ⟨w.heap.size, 1, none⟩) (Nat.le_refl _) _).setCell (p := ⟨w.heap.size, 2, none⟩) (Nat.le_refl _) _
    · exact absurd h (by decide)
    · exact absurd rfl h'
  · have HQ := Lib.hid hq
    have hq' : (q != 0) = true := bne_iff_ne.2 hq
    clear hq
    go_wp2
    refine bodyPost_ret ?_ rfl ⟨q, y, x, HF.out, .inl ⟨HQ.out, none, 0, rfl, ownRow_nil _ _ _, ((HB.out.setCell (by simp) _).setCell (by simp) _).setCell (by simp) _⟩⟩
    simp [results, Tryd.results14, go_sem, z0, z1, z2]
/-- a list of numbers of one's own, as a row -/
theorem ownRow_list {w : World} {base : Nat} {L : List Value} {A : Option Addr} {c : Nat} {e : TypeId} {f : Nat → Int} (h : w.ownsRow base e 1 (.slice A L.length c) L.length L) (hf : ∀ i, i < L.length → L[i]? = some (.int .i64 (f i))) (hw : ∀ i, i < L.length → (Lit.int .i64 (f i)).wf = true) (hn : L.length ≤ maxLen) : OwnRow w base A L.length c f := by
  rcases h.2 with ⟨h1, h2⟩ | ⟨b, cap, cur, h1, hb, hg, h3, h4, h5, h6⟩
  · injection h1 with e1 e2 e3
    subst e1 e3
    rw [h2]
    exact ownRow_nil _ _ _
  · injection h1 with e1 e2 e3
    subst e1 e3
    refine ⟨h3, h4, hw, fun hn0 => ⟨b, 0, rfl, hb, (Array.getElem?_eq_some_iff.1 hg).1, fun i hi => ?_⟩⟩
    have hat : At w b cur e := hg
    refine ⟨?_, ?_⟩
    · rw [Nat.zero_add, hat.cell i, ← Array.getElem?_toList, ← hf i hi]
      conv => rhs; rw [← h6]
      rw [List.getElem?_take, if_pos (by omega)]
    · rw [Nat.zero_add]
      exact hat.frozen i
theorem picF_wf (W : Int) (g : Nat → ByteArray) (i : Nat) : (Lit.int .i64 (picF W g i)).wf = true := by
  have h := kindI_bd (bt (g (ptY W i).toNat) (ptX W i).toNat)
  exact WalkArith.wf_i64 (by unfold picF; omega)
theorem impl_readPic (w : World) (A : Option Addr) (n c : Nat) (g : Nat → ByteArray) (hr : VRow w A n c (fun i => .string (g i))) (hn : n ≤ 1048576) (hg : ∀ i, i < n → (g i).size ≤ 1048576) (tt : TypeId) (p : Int → Value) (hE : Ers tt p w) :
    Calls Tryd.prog 15 #[.slice A n c] w (RdqOut n g w) := by
  refine (impl_ReadPicture w A n c g hr hn hg tt p hE).mono ?_
  rintro e w' ⟨q, y, x, hF, hb, ⟨hq, rfl⟩ | ⟨rfl, u, L, hL, rfl, how⟩⟩
  · exact ⟨q, y, x, hF, .inl ⟨hq, none, 0, rfl, ownRow_nil _ _ _, hb⟩⟩
  · have hF' := hF
    rcases hF' with ⟨-, h, -⟩ | ⟨hs, hin⟩
    · exact absurd h (by decide)
    rcases hin with ⟨hgood, -⟩ | ⟨j, -, -, -, ⟨-, h, -⟩ | ⟨-, k, -, -, h, h', -⟩⟩
    · obtain ⟨p1, p2, p3, p4⟩ := szB_yes hs
      obtain ⟨h1, h2⟩ := all_inner p4 p2 (M := (g 0).size) (n := n) (by omega) (by omega) hgood
      rw [← hL] at h1 h2
      obtain ⟨i1, i2⟩ := inner_bd' p4 p2
      obtain ⟨uA, uc, rfl⟩ : ∃ A' c', u = .slice A' L.length c' := (by
        rcases how.2 with ⟨rfl, h⟩ | ⟨g', cap, cur, rfl, -⟩
        · exact ⟨none, 0, by rw [h]⟩
        · exact ⟨_, _, rfl⟩)
      exact ⟨0, y, x, hF, .inr ⟨rfl, L.length, h2, uA, uc, rfl, ownRow_list how h1 (fun i _ => picF_wf _ _ _) (by unfold maxLen; omega), hb⟩⟩
    · exact absurd h (by decide)
    · exact absurd rfl h'
end Go.Proofs.YtdofeonkgaceeacDoor.Base
