/-
  PictureFault: the specification's.
-/
import Derived.Test.YtdofeonkgaceeacDoorFlm
import Derived.Test.YtdofeonkgaceeacDoorRps
import Derived.Test.YtdofeonkgaceeacDoorSpt
namespace Go.Proofs.YtdofeonkgaceeacDoor.Base
open Go Go.RowKit
open Go.PlainAid (bt get_bt bt_nonneg bt_le)
set_option linter.unusedVariables false
set_option linter.unusedSimpArgs false

theorem charS_is (w : World) (p : Nat) (W H : Int) (A : Option Addr) (n c : Nat) (x y : Nat) (cv : Int) (hb : Box w p W H A n c) (hW : sideB W = true) (hH : sideB H = true) :
    Calls Tryd.prog 76 #[.pointer (some ⟨p, 0, none⟩), .agg #[.int .i64 (x : Int), .int .i64 (y : Int)], .int .u8 cv] w (Gives (.int .i64 (chF W H x y cv)) w) := by
  obtain ⟨R, hR⟩ : ∃ R, chF W H x y cv = R := ⟨_, rfl⟩
  rw [hR]
  have HR := Lib.hid hR
  have HWs := Lib.hid hW
  have HHs := Lib.hid hH
  have bN := (Below.refl w.heap.size w).alloc (Nat.le_refl _) (.cells #[.int .i64 (x : Int), .int .i64 (y : Int)] 48)
  have HX := Lib.hid (hb.below bN hb.1)
  have HD := Lib.hid (Cel.new w [.int .i64 (x : Int), .int .i64 (y : Int)] 48)
  have HL := Lib.hid bN
  have d0 := HD.out.2 0 _ rfl
  have d1 := HD.out.2 1 _ rfl
  have dz := HD.out.1
  clear hR hW hH hb bN
  go_enter Tryd.func76, Tryd.ntmps76
  go_wp2_with fail
  generalize w.alloc (.cells #[.int .i64 (x : Int), .int .i64 (y : Int)] 48) = w0 at *
  generalize hP : w.heap.size = P at *
  have HPe := Lib.hid hP
  clear hP
  cases hh : hasB W H x y
  · refine (specHas_is hh HX.out HWs.out HHs.out).mono ?_
    rintro e w1 ⟨rfl, b1⟩
    have HB1 := Lib.hid (HL.out.trans (b1.mono (by omega)))
    have HH := Lib.hid hh
    clear b1 hh d0 d1 dz
    by_cases hc : cv = 32
    · have e1 : (cv != 32) = false := by rw [bne_eq_false_iff_eq]; exact hc
      have HC := Lib.hid hc
      clear hc
      go_wp2
      go_ret
      refine ⟨?_, by rw [HPe.out]; exact HB1.out⟩
      rw [← HR.out]
      unfold chF
      rw [HH.out, HC.out]
      rfl
    · have e1 : (cv != 32) = true := bne_iff_ne.2 hc
      have HC := Lib.hid hc
      clear hc
      go_wp2
      go_ret
      refine ⟨?_, by rw [HPe.out]; exact HB1.out⟩
      rw [← HR.out]
      unfold chF
      rw [HH.out, if_neg HC.out]
      rfl
  · refine (specHas_is hh HX.out HWs.out HHs.out).mono ?_
    rintro e w1 ⟨rfl, b1⟩
    have HX1 := Lib.hid (HX.out.below b1 HX.out.1)
    have HD1 := Lib.hid (HD.out.below b1 HD.out.1)
    have HB1 := Lib.hid (HL.out.trans (b1.mono (by omega)))
    have HH := Lib.hid hh
    have hz1 := b1.size
    clear b1 hh d0 d1 dz
    have d0 := HD1.out.2 0 _ rfl
    have d1 := HD1.out.2 1 _ rfl
    have dz := HD1.out.1
    go_wp2_with fail
    cases he : edgeB W H x y
    · refine (specEdge_is he HX1.out HWs.out HHs.out).mono ?_
      rintro e w2 ⟨rfl, b2⟩
      have HB2 := Lib.hid (HB1.out.trans (b2.mono (by omega)))
      have HE := Lib.hid he
      clear b2 he d0 d1 dz
      have hkb := kindI_bd cv
      go_wp2_with fail
      refine (kindS_is w2 cv).mono ?_
      rintro e w3 ⟨rfl, rfl⟩
      by_cases hk : kindI cv < 0
      · have e1 : decide (kindI cv < 0) = true := decide_eq_true hk
        have HK := Lib.hid hk
        clear hk
        generalize hkk : kindI cv = kk at *
        have HKK := Lib.hid hkk
        clear hkk
        go_wp2
        go_ret
        refine ⟨?_, by rw [HPe.out]; exact HB2.out⟩
        rw [← HR.out]
        unfold chF
        rw [HH.out, HE.out, HKK.out, if_pos HK.out]
        rfl
      · have e1 : decide (kindI cv < 0) = false := decide_eq_false hk
        have HK := Lib.hid hk
        clear hk
        generalize hkk : kindI cv = kk at *
        have HKK := Lib.hid hkk
        clear hkk
        go_wp2
        go_ret
        refine ⟨?_, by rw [HPe.out]; exact HB2.out⟩
        rw [← HR.out]
        unfold chF
        rw [HH.out, HE.out, HKK.out, if_neg (show ¬ kk < 0 by have := HK.out; omega)]
        rfl
    · refine (specEdge_is he HX1.out HWs.out HHs.out).mono ?_
      rintro e w2 ⟨rfl, b2⟩
      have HB2 := Lib.hid (HB1.out.trans (b2.mono (by omega)))
      have HE := Lib.hid he
      clear b2 he d0 d1 dz
      by_cases hc : cv = 46
      · have e1 : (cv != 46) = false := by rw [bne_eq_false_iff_eq]; exact hc
        have HC := Lib.hid hc
        clear hc
        go_wp2
        go_ret
        refine ⟨?_, by rw [HPe.out]; exact HB2.out⟩
        rw [← HR.out]
        unfold chF
        rw [HH.out, HE.out, HC.out]
        rfl
      · have e1 : (cv != 46) = true := bne_iff_ne.2 hc
        have HC := Lib.hid hc
        clear hc
        go_wp2
        go_ret
        refine ⟨?_, by rw [HPe.out]; exact HB2.out⟩
        rw [← HR.out]
        unfold chF
        rw [HH.out, HE.out, if_neg HC.out]
        rfl
theorem sideS_is {w : World} {z : Int} {v : Bool} (h : sideB z = v) : Calls Tryd.prog 75 #[.int .i64 z] w fun e w' => e = .returned (.bool v) ∧ w = w' := by rw [← h]; exact side_any z w
theorem tmod2 (n : Nat) : ((n : Int).tmod 2 == 0) = decide (n % 2 = 0) := by
  rw [show (n : Int).tmod 2 = ((n % 2 : Nat) : Int) from rfl]
  by_cases h : n % 2 = 0
  · rw [h]; rfl
  · rw [beq_eq_false_iff_ne.2 (by omega), decide_eq_false h]
theorem szB_yes {n : Nat} {g : Nat → ByteArray} (h : szB n g = true) : n % 2 = 1 ∧ sideB ((n / 2 : Nat) : Int) = true ∧ (g 0).size % 2 = 1 ∧ sideB (((g 0).size / 2 : Nat) : Int) = true := by
  simp only [szB, Bool.and_eq_true, decide_eq_true_eq] at h
  exact ⟨h.1.1.1, h.1.1.2, h.1.2, h.2⟩
set_option maxHeartbeats 2000000 in
set_option maxRecDepth 100000 in
theorem spec_fault (w : World) (A : Option Addr) (n c : Nat) (g : Nat → ByteArray) (hr : VRow w A n c (fun i => .string (g i))) (hn : n ≤ 1048576) (hg : ∀ i, i < n → (g i).size ≤ 1048576) :
    Calls Tryd.prog 40 #[.slice A n c] w (Flt3 n g w) := by
  have hm := tmod2 n
  by_cases h1 : n % 2 = 0
  · have HF : Hid (FltIs n g 1 0 0) := Lib.hid (.inl ⟨by simp [szB, h1], rfl, rfl, rfl⟩)
    have e1 : ((n : Int).tmod 2 == 0) = true := by rw [hm, decide_eq_true h1]
    have e2 : ((n : Int) % 2 == 0) = true := beq_iff_eq.2 (by omega)
    clear hm h1 hg
    go_enter Tryd.func40, Tryd.ntmps40
    go_wp2
    go_ret3
    exact ⟨1, 0, 0, rfl, HF.out, Below.refl _ _⟩
  · have e1 : ((n : Int).tmod 2 == 0) = false := by rw [hm, decide_eq_false h1]
    have e2 : ((n : Int) % 2 == 0) = false := beq_eq_false_iff_ne.2 (by omega)
    have e3 : (n : Int).tdiv 2 = ((n / 2 : Nat) : Int) := rfl
    obtain ⟨b, hb⟩ : ∃ b, n / 2 = b := ⟨_, rfl⟩
    rw [hb] at e3
    have hbn : n = 2 * b + 1 := by omega
    have HBN := Lib.hid hbn
    have hb20 : b ≤ 1048576 := by omega
    clear hm
    cases hs : sideB ((b : Nat) : Int)
    · have HF : Hid (FltIs n g 1 0 0) := Lib.hid (.inl ⟨by simp [szB, hb, hs], rfl, rfl, rfl⟩)
      have HS := Lib.hid hs
      clear hs hg h1 hb hbn
      go_enter Tryd.func40, Tryd.ntmps40
      go_wp2_with fail
      refine (sideS_is HS.out).mono ?_
      rintro e w' ⟨rfl, rfl⟩
      go_wp2
      go_ret3
      exact ⟨1, 0, 0, rfl, HF.out, Below.refl _ _⟩
    · have hn0 : 0 < n := by omega
      obtain ⟨bA, oA, rfl, hbA, hcA⟩ := hr.2.2 hn0
      have hnc := hr.1
      have hcm := hr.2.1
      unfold maxLen at hcm
      have s0 : w.cell? ⟨bA, oA + 0, none⟩ = some (.string (g 0)) := hcA 0 hn0
      have hg0 := hg 0 hn0
      obtain ⟨M, hM⟩ : ∃ M, (g 0).size = M := ⟨_, rfl⟩
      have hm := tmod2 M
      rw [hM] at hg0
      have HCA := Lib.hid hcA
      have HG := Lib.hid hg
      have HS := Lib.hid hs
      have HBb := Lib.hid hb
      have HMm := Lib.hid hM
      have hi0 : (0 : Int) < (n : Int) := by omega
      have HBA := Lib.hid hbA
      have s0' : w.cell? ⟨bA, oA, none⟩ = some (.string (g 0)) := s0
      obtain ⟨g0, hg00⟩ : ∃ x, g 0 = x := ⟨_, rfl⟩
      rw [hg00] at s0 s0'
      have hM0 : g0.size = M := by rw [← hg00]; exact hM
      by_cases k1 : M % 2 = 0
      · have HF : Hid (FltIs n g 1 0 0) := Lib.hid (.inl ⟨by simp [szB, hM, k1], rfl, rfl, rfl⟩)
        have e4 : ((M : Int).tmod 2 == 0) = true := by rw [hm, decide_eq_true k1]
        have e5 : ((M : Int) % 2 == 0) = true := beq_iff_eq.2 (by omega)
        clear hm k1 h1 hg hcA hs hb hbn hM hr hg00
        go_enter Tryd.func40, Tryd.ntmps40
        go_wp2_with (go_at_call 75; refine (sideS_is HS.out).mono ?_; rintro e w' ⟨rfl, rfl⟩)
        go_ret3
        exact ⟨1, 0, 0, rfl, HF.out, Below.refl _ _⟩
      · have e4 : ((M : Int).tmod 2 == 0) = false := by rw [hm, decide_eq_false k1]
        have e5 : ((M : Int) % 2 == 0) = false := beq_eq_false_iff_ne.2 (by omega)
        have e6 : (M : Int).tdiv 2 = ((M / 2 : Nat) : Int) := rfl
        obtain ⟨a, ha⟩ : ∃ a, M / 2 = a := ⟨_, rfl⟩
        rw [ha] at e6
        have ha20 : a ≤ 1048576 := by omega
        cases hs2 : sideB ((a : Nat) : Int)
        · have HF : Hid (FltIs n g 1 0 0) := Lib.hid (.inl ⟨by simp [szB, hM, ha, hs2], rfl, rfl, rfl⟩)
          have HS2 := Lib.hid hs2
          clear hm k1 h1 hg hcA hs hb hbn hM hr hg00 ha hs2
          go_enter Tryd.func40, Tryd.ntmps40
          go_wp2_with (go_at_call 75; first | (refine (sideS_is HS.out).mono ?_; rintro e w' ⟨rfl, rfl⟩) | (refine (sideS_is HS2.out).mono ?_; rintro e w' ⟨rfl, rfl⟩))
          go_ret3
          exact ⟨1, 0, 0, rfl, HF.out, Below.refl _ _⟩
        · have HS2 := Lib.hid hs2
          obtain ⟨a1, a2⟩ := side_mk hs2
          obtain ⟨b1, b2⟩ := side_mk hs
          have HSZ : Hid (szB n g = true) := Lib.hid (by
            have p1 : n % 2 = 1 := by omega
            have p2 : M % 2 = 1 := by omega
            simp [szB, hM, ha, hb, hs2, hs, p1, p2])
          have HIN : Hid (∀ q y x : Int, FltIn n g (a : Int) (b : Int) M q y x → FltIs n g q y x) := Lib.hid (fun q y x h => .inr ⟨HSZ.out, by rw [hM, ha, hb]; exact h⟩)
          have hMa : M = 2 * a + 1 := by omega
          have HMA := Lib.hid hMa
          have hM17 : M ≤ 17 := by omega
          have hn17 : n ≤ 17 := by omega
          clear hm k1 h1 hg hcA hs hb hbn hM hr hg00 ha hs2 hMa
          have bN := (Below.refl w.heap.size w).alloc (Nat.le_refl _) (.cells #[.int .i64 (a : Int), .int .i64 (b : Int), .slice none 0 0] 33)
          have HP := Lib.hid (Box.new w 33 a b none 0 0)
          have HL := Lib.hid bN
          clear bN
          go_enter Tryd.func40, Tryd.ntmps40
          go_wp2_with (go_at_call 75; first | (refine (sideS_is HS.out).mono ?_; rintro e w' ⟨rfl, rfl⟩) | (refine (sideS_is HS2.out).mono ?_; rintro e w' ⟨rfl, rfl⟩))
          generalize w.alloc (.cells #[.int .i64 (a : Int), .int .i64 (b : Int), .slice none 0 0] 33) = w0 at *
          generalize hPP : w.heap.size = P at *
          have HPe := Lib.hid hPP
          clear hPP s0 s0' e4 e5 e6
          have hbP : bA < P := by have h1 := HBA.out; have h2 := HPe.out; omega
          go_loopw [8] (fun yv wr => ∃ y : Nat, y ≤ n ∧ yv = .int .i64 y ∧ Hid (∀ j, j < y → GoodL (a : Int) (b : Int) M g j) ∧ Hid (Box wr P (a : Int) (b : Int) none 0 0) ∧ Hid (Below P w wr)) (fun yv _ => n - (intOf yv).toNat)
          case atStart => exact ⟨0, Nat.zero_le _, rfl, Lib.hid (fun j hj => absurd hj (Nat.not_lt_zero _)), HP, HL⟩
          case round =>
            clear HP HL
            generalize hwo : wr = wo at *
            clear hwo wr
            obtain ⟨y, hy, rfl, HGd, HP, HB⟩ := hrel
            have hB : P ≤ wo.heap.size := by have h1 := HB.out.size; have h2 := HPe.out; omega
            by_cases hlt : y < n
            · have hdec : decide ((y : Int) < (n : Int)) = true := decide_eq_true (by omega)
              have s1 : wo.cell? ⟨bA, oA + y, none⟩ = some (.string (g y)) := (HB.out.cell (p := ⟨bA, oA + y, none⟩) (by omega)).trans (HCA.out y hlt)
              have hgy := HG.out y hlt
              have hbAo : bA < wo.heap.size := by omega
              obtain ⟨t, ht⟩ : ∃ t, g y = t := ⟨_, rfl⟩
              rw [ht] at s1 hgy
              have HTt := Lib.hid ht
              clear ht
              by_cases hsz : t.size = M
              · have e1 : ((t.size : Int) != (M : Int)) = false := by rw [bne_eq_false_iff_eq]; omega
                go_wp2
                clear e1 hdec s1
                go_loopw [9] (fun xv wr => ∃ x : Nat, x ≤ M ∧ xv = .int .i64 x ∧ Hid (∀ i, i < x → ltF (a : Int) (b : Int) g y i = 0) ∧ Hid (Box wr P (a : Int) (b : Int) none 0 0) ∧ Hid (Below P w wr)) (fun xv _ => M - (intOf xv).toNat)
                case atStart => exact ⟨0, Nat.zero_le _, rfl, Lib.hid (fun j hj => absurd hj (Nat.not_lt_zero _)), HP, HB⟩
                case round =>
                  clear HP HB
                  obtain ⟨x, hx, rfl, HZ, HP, HB⟩ := hrel
                  have hB : P ≤ wr.heap.size := by have h1 := HB.out.size; have h2 := HPe.out; omega
                  by_cases hlx : x < M
                  · have hdec : decide ((x : Int) < (M : Int)) = true := decide_eq_true (by omega)
                    have s1 : wr.cell? ⟨bA, oA + y, none⟩ = some (.string t) := by rw [← HTt.out]; exact (HB.out.cell (p := ⟨bA, oA + y, none⟩) (by omega)).trans (HCA.out y hlt)
                    have hbAr : bA < wr.heap.size := by omega
                    have hbt := get_bt t x (by omega)
                    have hxt : x < t.size := by omega
                    have hb1 := bt_nonneg t x
                    have hb2 := bt_le t x
                    have HLT : Hid (ltF (a : Int) (b : Int) g y x = chF (a : Int) (b : Int) x y (bt t x)) := Lib.hid (by unfold ltF; rw [HTt.out])
                    obtain ⟨q, hq⟩ : ∃ q, chF (a : Int) (b : Int) x y (bt t x) = q := ⟨_, rfl⟩
                    have hqb := chF_bd (a : Int) (b : Int) x y (bt t x)
                    rw [hq] at hqb HLT
                    have HCH := Lib.hid (charS_is wr P (a : Int) (b : Int) none 0 0 x y (bt t x) HP.out HS2.out HS.out)
                    rw [hq] at HCH
                    clear hq
                    go_wp2_with fail
                    refine HCH.out.mono ?_
                    rintro e w6 ⟨rfl, b6⟩
                    have HP6 := Lib.hid (HP.out.below b6 HP.out.1)
                    have HB6 := Lib.hid (HB.out.trans (b6.mono (by omega)))
                    clear b6 HCH
                    by_cases hq0 : q = 0
                    · subst hq0
                      go_wp2
                      go_roundw
                      case rel =>
                        refine ⟨x + 1, by omega, by go_num, Lib.hid (fun i hi => ?_), HP6, HB6⟩
                        rcases Nat.lt_succ_iff_lt_or_eq.1 hi with h | rfl
                        · exact HZ.out i h
                        · exact HLT.out
                      case measure => simp [intOf]; omega
                    · have e1 : (q != 0) = true := bne_iff_ne.2 hq0
                      have HF : Hid (FltIs n g q y x) := Lib.hid (HIN.out q y x (.inr ⟨y, hlt, HGd.out, rfl, .inr ⟨by rw [HTt.out]; exact hsz, x, hlx, HZ.out, HLT.out, hq0, rfl⟩⟩))
                      clear hq0
                      go_wp2
                      go_ret3
                      exact ⟨q, y, x, rfl, HF.out, by rw [HPe.out]; exact HB6.out⟩
                  · obtain rfl : x = M := by omega
                    have hdec : decide ((x : Int) < (x : Int)) = false := decide_eq_false (by omega)
                    go_wp2
                    go_roundw
                    case rel =>
                      refine ⟨y + 1, by omega, by go_num, Lib.hid (fun i hi => ?_), HP, HB⟩
                      rcases Nat.lt_succ_iff_lt_or_eq.1 hi with h | rfl
                      · exact HGd.out i h
                      · exact ⟨by rw [HTt.out]; exact hsz, HZ.out⟩
                    case measure => simp [intOf]; omega
              · have e1 : ((t.size : Int) != (M : Int)) = true := bne_iff_ne.2 (by omega)
                have HF : Hid (FltIs n g 2 y 0) := Lib.hid (HIN.out 2 y 0 (.inr ⟨y, hlt, HGd.out, rfl, .inl ⟨by rw [HTt.out]; exact hsz, rfl, rfl⟩⟩))
                clear hsz
                go_wp2
                go_ret3
                exact ⟨2, y, 0, rfl, HF.out, by rw [HPe.out]; exact HB.out⟩
            · obtain rfl : y = n := by omega
              have hdec : decide ((y : Int) < (y : Int)) = false := decide_eq_false (by omega)
              have HF : Hid (FltIs y g 0 0 0) := Lib.hid (HIN.out 0 0 0 (.inl ⟨HGd.out, rfl, rfl, rfl⟩))
              go_wp2
              go_ret3
              exact ⟨0, 0, 0, rfl, HF.out, by rw [HPe.out]; exact HB.out⟩
end Go.Proofs.YtdofeonkgaceeacDoor.Base
