/-
  The loops of two pairings, the model's and the program's.
-/
import Derived.Test.YtpkajonnopmciaaDoorPrc
import Derived.Test.YtpkajonnopmciaaDoorMps
import Derived.WalkMore
import Derived.ScopeJumps
import Derived.Deep.CutBlock
namespace Go.Proofs.YtpkajonnopmciaaDoor.Base
open Go Go.RowKit
set_option linter.unusedVariables false
set_option linter.unusedSimpArgs false

/-- how many rounds from k come to x -/
noncomputable def lpI (f g : Nat → Int) (k m x : Nat) : Nat := open Classical in if h : ∃ j, j < m ∧ lpW f g j k = x then Classical.choose h else 0
theorem or3 (a b c : Bool) : (b || (a || c)) = (c || a || b) := by cases a <;> cases b <;> cases c <;> rfl
section
variable {n : Nat} {f g : Nat → Int}
theorem PR.al_is (h : PR n f) {x y : Nat} (e : f x = (y : Int)) : al f x = y := by unfold al; omega
theorem lpI_at (hf : PR n f) (hg : PR n g) {k m j : Nat} (hk : k < n) (hm : LPer f g k m) (hj : j < m) : lpI f g k m (lpW f g j k) = j := by
  have h : ∃ i, i < m ∧ lpW f g i k = lpW f g j k := ⟨j, hj, rfl⟩
  unfold lpI
  rw [dif_pos h]
  obtain ⟨a, b⟩ := Classical.choose_spec h
  rcases Nat.lt_trichotomy (Classical.choose h) j with h' | h' | h'
  · exact absurd b.symm (lp_ne hf hg hk hm h' hj)
  · exact h'
  · exact absurd b (lp_ne hf hg hk hm h' a)
noncomputable def lpM (f g : Nat → Int) (k m p : Nat) (v : Value) (w : World) : Nat := open Classical in if w.cell? ⟨p, (intOf v).toNat, none⟩ = some (.bool true) then 0 else m - lpI f g k m (intOf v).toNat
theorem lpM_lt (hf : PR n f) (hg : PR n g) {k m j : Nat} (hk : k < n) (hm : LPer f g k m) (h0 : snB f g k k = false) (hj : j < m) {w1 w2 : World} {p : Nat} {T : TypeId} (h1 : w1.rowIs p T n (fun t => .bool (wkS f g k j t))) (h2 : w2.rowIs p T n (fun t => .bool (wkS f g k (j + 1) t))) :
    lpM f g k m p (.int .i64 ((lpW f g (j + 1) k : Nat) : Int)) w2 < lpM f g k m p (.int .i64 ((lpW f g j k : Nat) : Int)) w1 := by
  classical
  have c1 := h1.cell (lpW_lt hf hg hk j)
  have c2 := h2.cell (lpW_lt hf hg hk (j + 1))
  rw [wk_new hf hg hk hm h0 hj] at c1
  have e1 : lpM f g k m p (.int .i64 ((lpW f g j k : Nat) : Int)) w1 = m - j := by
    unfold lpM
    rw [if_neg (by show ¬ w1.cell? ⟨p, lpW f g j k, none⟩ = _; rw [c1]; simp)]
    show m - lpI f g k m (lpW f g j k) = _
    rw [lpI_at hf hg hk hm hj]
  rw [e1]
  by_cases h : j + 1 < m
  · rw [wk_new hf hg hk hm h0 h] at c2
    have e2 : lpM f g k m p (.int .i64 ((lpW f g (j + 1) k : Nat) : Int)) w2 = m - (j + 1) := by
      unfold lpM
      rw [if_neg (by show ¬ w2.cell? ⟨p, lpW f g (j + 1) k, none⟩ = _; rw [c2]; simp)]
      show m - lpI f g k m (lpW f g (j + 1) k) = _
      rw [lpI_at hf hg hk hm h]
    rw [e2]
    omega
  · obtain rfl : j + 1 = m := by omega
    rw [wk_end hm] at c2
    have e2 : lpM f g k (j + 1) p (.int .i64 ((lpW f g (j + 1) k : Nat) : Int)) w2 = 0 := by
      unfold lpM
      exact if_pos c2
    rw [e2]
    omega
end
theorem infoBoolP : (Tryd.prog.info? 4).map (fun i => (i.zero, i.size, i.bytes)) = some (some (.bool false), 1, 1) := by kernel_rfl
attribute [local go_sem] Oper.semAt_some
set_option maxHeartbeats 4000000 in
theorem impl_loops (w : World) (A : Option Addr) (n c : Nat) (f : Nat → Int) (B : Option Addr) (d : Nat) (g : Nat → Int) (hr : Row .i64 w A n c f) (hr' : Row .i64 w B n d g) (hf : PR n f) (hg : PR n g) (n2 : n ≤ 16) :
    Calls Tryd.prog 21 #[.slice A n c, .slice B n d] w (Gives (.int .i64 (lcN f g n : Nat)) w) := by
  have HR := Lib.hid hr
  have HR' := Lib.hid hr'
  have HF := Lib.hid hf
  have HG := Lib.hid hg
  have HS0 := SetIs.new w
  have HS := Lib.hid HS0
  have HB0 := Lib.hid ((Below.refl w.heap.size w).alloc (Nat.le_refl _) (.map #[] 0))
  have hmm := @run_makeMap Tryd.prog
  clear hr hr' hf hg HS0
  go_enter Tryd.func21, Tryd.ntmps21
  go_wp2
  clear hmm
  go_loopw [5, 12] (fun cv iv wr => ∃ k q : Nat, k ≤ n ∧ q ≤ 40 * k ∧ iv = .int .i64 k ∧ cv = .int .i64 (lcN f g k : Nat) ∧ Hid (SetIs wr w.heap.size q (snB f g k)) ∧ Hid (Below w.heap.size w wr)) (fun _ i _ => n - (intOf i).toNat)
  case atStart => exact ⟨0, 0, Nat.zero_le _, Nat.zero_le _, rfl, rfl, Lib.hid (HS.out.congr (fun x => by rw [sn_zero])), HB0⟩
  case round =>
    obtain ⟨k, q, hk, hq, rfl, rfl, HL, HB⟩ := hrel
    clear HS HB0
    have hle := lc_le (f := f) (g := g) k
    by_cases hlt : k < n
    · cases hs : snB f g k k
      · have HS0 := Lib.hid hs
        obtain ⟨m, hmn, hm⟩ := lper_exists HF.out HG.out hlt
        have HM := Lib.hid hm
        have HN := Lib.hid (lc_no hs)
        have hm1 := hm.1
        clear hs hm
        go_wp2
        refine wp_scope_jumps 0 (fun a' w' => ∃ (j q' : Nat) (v14 v15 v16 v17 v18 v19 v20 v21 v22 v23 v24 v25 v26 v27 v28 v29 v30 v31 v32 v33 v34 v35 v36 v37 v38 v39 : Value), a' = { tmps := #[.slice A n c, .slice B n d, undef, undef, .int .i64 0, .int .i64 ((lcN f g k : Nat) + 1 : Int), .map (some w.heap.size), .int .i64 k, .int .i64 (lpW f g j k : Nat), .map (some w.heap.size), .slice A n c, .int .i64 n, .int .i64 k, .bool true, v14, v15, v16, v17, v18, v19, v20, v21, v22, v23, v24, v25, v26, v27, v28, v29, v30, v31, v32, v33, v34, v35, v36, v37, v38, v39, u40, undef], defers := [] } ∧ 1 ≤ j ∧ j < m ∧ q' ≤ 40 * k + 2 * j ∧ Hid (SetIs w' w.heap.size q' (wkS f g k j)) ∧ Hid (Below w.heap.size w w')) (fun a' _ => m - lpI f g k m (intOf (a'.tmps.getD 8 undef)).toNat) rfl ?_ ?_
        · have hzk : k < 16 := by omega
          go_wp2_with fail
          refine (set_has _ _ q _ HL.out k (WalkArith.wf_i64 (by omega))).mono ?_
          rintro e w2 ⟨rfl, rfl⟩
          rw [HS0.out]
          go_wp2
          go_step3
          replace HL := Lib.hid (HL.out.congr (S' := wkS f g k 0) (fun t => by rw [wk_zero]))
          go_wp2_with fail
          have HWE := Lib.hid (show lpW f g (0 + 1) k = al g (al f (lpW f g 0 k)) from rfl)
          have HXE := Lib.hid (show lpW f g 0 k = k from rfl)
          have hx := hlt
          have hy := HF.out.lt hx
          have hv := HF.out.val hx
          obtain ⟨y, hye⟩ : ∃ y, al f k = y := ⟨_, rfl⟩
          rw [hye] at hy hv
          have HYE := Lib.hid hye
          have hz := HG.out.lt hy
          have hvz := HG.out.val hy
          obtain ⟨z, hze⟩ : ∃ z, al g y = z := ⟨_, rfl⟩
          rw [hze] at hz hvz
          have HZE := Lib.hid hze
          have HV := Lib.hid hv
          have HVZ := Lib.hid hvz
          have HNX := Lib.hid (show lpW f g (0 + 1) k = z by rw [HWE.out, HXE.out, HYE.out, HZE.out])
          clear hye hze hv hvz
          have hx16 : k < 16 := by omega
          have hy16 : y < 16 := by omega
          refine (set_add wr w.heap.size q _ HL.out k (WalkArith.wf_i64 (by omega)) (by unfold maxLen; omega)).mono ?_
          rintro e w2 ⟨⟨v, rfl⟩, s2, g2⟩
          have HL2 := Lib.hid s2
          have HB2 := Lib.hid (HB.out.grown g2 HB.out.size (fun b e => by injection e; omega))
          clear s2 g2
          obtain ⟨b, o, rfl, hbl, hc⟩ := (HR.out.below HB2.out (Nat.le_refl _)).2.2.2 (by omega)
          have hcf := hc k hx
          rw [HV.out] at hcf
          clear hc
          go_wp2_with fail
          refine (set_add w2 w.heap.size (q + 1) _ HL2.out y (WalkArith.wf_i64 (by omega)) (by unfold maxLen; omega)).mono ?_
          rintro e w3 ⟨⟨v', rfl⟩, s3, g3⟩
          have HL3 := Lib.hid (s3.congr (S' := wkS f g k (0 + 1)) (fun t => by
            rw [wk_succ, HXE.out, HF.out.al_is HV.out]
            exact or3 _ _ _))
          have HB3 := Lib.hid (HB2.out.grown g3 HB2.out.size (fun b e => by injection e; omega))
          clear s3 g3
          obtain ⟨b1, o1, e1, hbl1, hc⟩ := (HR.out.below HB3.out (Nat.le_refl _)).2.2.2 (by omega)
          obtain ⟨rfl, rfl⟩ : b1 = b ∧ o1 = o := by injection e1 with e1; injection e1 with e3 e4; exact ⟨e3.symm, e4.symm⟩
          have hcf2 := hc k hx
          rw [HV.out] at hcf2
          clear hc e1 hcf
          obtain ⟨b2, o2, rfl, hbl2, hc⟩ := (HR'.out.below HB3.out (Nat.le_refl _)).2.2.2 (by omega)
          have hcg := hc y hy
          rw [HVZ.out] at hcg
          clear hc
          by_cases hjm : 0 + 1 < m
          · have hne : lpW f g (0 + 1) k ≠ k := HM.out.2.2 (0 + 1) (by omega) hjm
            rw [HNX.out] at hne
            have e9 : ((z : Int) != (k : Int)) = true := bne_iff_ne.2 (by omega)
            have e8 : ((z : Int) == (k : Int)) = false := beq_eq_false_iff_ne.2 (by omega)
            have HLI := Lib.hid (lpI_at HF.out HG.out hlt HM.out hjm)
            clear hne
            go_wp2
            go_step3
            refine ⟨rfl, ?_⟩
            refine ⟨0 + 1, q + 1 + 1, ?_⟩
            rw [HNX.out]
            exact ⟨_, _, _, _, _, _, _, _, _, _, _, _, _, _, _, _, _, _, _, _, _, _, _, _, _, _, rfl, by omega, hjm, by omega, HL3, HB3⟩
          · obtain hjm : m = 0 + 1 := by omega
            have hzk : z = k := by rw [← HNX.out, ← hjm]; exact HM.out.2.1
            have HWA := Lib.hid (fun t => wk_all HF.out HG.out hlt HM.out t)
            have HJM := Lib.hid hjm
            have HZK := Lib.hid hzk
            have e9 : ((z : Int) != (k : Int)) = false := by rw [bne_eq_false_iff_eq]; omega
            have e8 : ((z : Int) == (k : Int)) = true := beq_iff_eq.2 (by omega)
            clear hjm hzk
            go_wp2
            apply_assumption
            go_wp2
            go_roundw
            case rel => exact ⟨k + 1, q + 1 + 1, by omega, by omega, by go_num, by rw [HN.out]; rfl, Lib.hid (HL3.out.congr (fun t => by rw [← HJM.out, HWA.out])), HB3⟩
            case measure => simp [intOf]; omega
        · rintro a' wj ⟨j, q1, v14, v15, v16, v17, v18, v19, v20, v21, v22, v23, v24, v25, v26, v27, v28, v29, v30, v31, v32, v33, v34, v35, v36, v37, v38, v39, rfl, h1, h2, hq1, HLj, HBj⟩
          have HWE := Lib.hid (show lpW f g (j + 1) k = al g (al f (lpW f g j k)) from rfl)
          have hx := lpW_lt HF.out HG.out hlt j
          obtain ⟨x, hxe⟩ : ∃ x, lpW f g j k = x := ⟨_, rfl⟩
          have HXE := Lib.hid hxe
          rw [hxe] at hx ⊢
          have hy := HF.out.lt hx
          have hv := HF.out.val hx
          obtain ⟨y, hye⟩ : ∃ y, al f x = y := ⟨_, rfl⟩
          rw [hye] at hy hv
          have HYE := Lib.hid hye
          have hz := HG.out.lt hy
          have hvz := HG.out.val hy
          obtain ⟨z, hze⟩ : ∃ z, al g y = z := ⟨_, rfl⟩
          rw [hze] at hz hvz
          have HZE := Lib.hid hze
          have HV := Lib.hid hv
          have HVZ := Lib.hid hvz
          have HNX := Lib.hid (show lpW f g (j + 1) k = z by rw [HWE.out, HXE.out, HYE.out, HZE.out])
          clear hye hze hv hvz hxe
          have hx16 : x < 16 := by omega
          have hy16 : y < 16 := by omega
          go_wp2_with fail
          refine (set_add wj w.heap.size q1 _ HLj.out x (WalkArith.wf_i64 (by omega)) (by unfold maxLen; omega)).mono ?_
          rintro e w2 ⟨⟨v, rfl⟩, s2, g2⟩
          have HL2 := Lib.hid s2
          have HB2 := Lib.hid (HBj.out.grown g2 HBj.out.size (fun b e => by injection e; omega))
          clear s2 g2
          obtain ⟨b, o, rfl, hbl, hc⟩ := (HR.out.below HB2.out (Nat.le_refl _)).2.2.2 (by omega)
          have hcf := hc x hx
          rw [HV.out] at hcf
          clear hc
          go_wp2_with fail
          refine (set_add w2 w.heap.size (q1 + 1) _ HL2.out y (WalkArith.wf_i64 (by omega)) (by unfold maxLen; omega)).mono ?_
          rintro e w3 ⟨⟨v', rfl⟩, s3, g3⟩
          have HL3 := Lib.hid (s3.congr (S' := wkS f g k (j + 1)) (fun t => by
            rw [wk_succ, HXE.out, HF.out.al_is HV.out]
            exact or3 _ _ _))
          have HB3 := Lib.hid (HB2.out.grown g3 HB2.out.size (fun b e => by injection e; omega))
          clear s3 g3
          obtain ⟨b1, o1, e1, hbl1, hc⟩ := (HR.out.below HB3.out (Nat.le_refl _)).2.2.2 (by omega)
          obtain ⟨rfl, rfl⟩ : b1 = b ∧ o1 = o := by injection e1 with e1; injection e1 with e3 e4; exact ⟨e3.symm, e4.symm⟩
          have hcf2 := hc x hx
          rw [HV.out] at hcf2
          clear hc e1 hcf
          obtain ⟨b2, o2, rfl, hbl2, hc⟩ := (HR'.out.below HB3.out (Nat.le_refl _)).2.2.2 (by omega)
          have hcg := hc y hy
          rw [HVZ.out] at hcg
          clear hc
          by_cases hjm : j + 1 < m
          · have hne : lpW f g (j + 1) k ≠ k := HM.out.2.2 (j + 1) (by omega) hjm
            rw [HNX.out] at hne
            have e9 : ((z : Int) != (k : Int)) = true := bne_iff_ne.2 (by omega)
            have e8 : ((z : Int) == (k : Int)) = false := beq_eq_false_iff_ne.2 (by omega)
            have HLI := Lib.hid (lpI_at HF.out HG.out hlt HM.out hjm)
            clear hne
            go_wp2
            go_step3
            refine ⟨rfl, ⟨j + 1, q1 + 1 + 1, ?_⟩, ?_⟩
            · rw [HNX.out]
              exact ⟨_, _, _, _, _, _, _, _, _, _, _, _, _, _, _, _, _, _, _, _, _, _, _, _, _, _, rfl, by omega, hjm, by omega, HL3, HB3⟩
            · have hj1 := lpI_at HF.out HG.out hlt HM.out h2
              rw [HXE.out] at hj1
              have hj2 := HLI.out
              rw [HNX.out] at hj2
              show m - lpI f g k m z < m - lpI f g k m x
              rw [hj1, hj2]
              omega
          · obtain hjm : m = j + 1 := by omega
            have hzk : z = k := by rw [← HNX.out, ← hjm]; exact HM.out.2.1
            have HWA := Lib.hid (fun t => wk_all HF.out HG.out hlt HM.out t)
            have HJM := Lib.hid hjm
            have HZK := Lib.hid hzk
            have e9 : ((z : Int) != (k : Int)) = false := by rw [bne_eq_false_iff_eq]; omega
            have e8 : ((z : Int) == (k : Int)) = true := beq_iff_eq.2 (by omega)
            clear hjm hzk
            go_wp2
            apply_assumption
            go_wp2
            go_roundw
            case rel => exact ⟨k + 1, q1 + 1 + 1, by omega, by omega, by go_num, by rw [HN.out]; rfl, Lib.hid (HL3.out.congr (fun t => by rw [← HJM.out, HWA.out])), HB3⟩
            case measure => simp [intOf]; omega
      · have HS0 := Lib.hid hs
        have HN := Lib.hid (lc_yes hs)
        have HO := Lib.hid (sn_old HF.out HG.out hlt hs)
        clear hs
        go_wp2
        go_step3
        go_wp2_with fail
        refine (set_has _ _ q _ HL.out k (WalkArith.wf_i64 (by omega))).mono ?_
        rintro e w2 ⟨rfl, rfl⟩
        rw [HS0.out]
        go_wp2
        apply_assumption
        go_wp2
        go_roundw
        case rel => exact ⟨k + 1, q, by omega, by omega, by go_num, by rw [HN.out], Lib.hid (HL.out.congr (fun t => by rw [HO.out])), HB⟩
        case measure => simp [intOf]; omega
    · obtain rfl : k = n := by omega
      go_wp2
      go_ret
      exact ⟨rfl, HB.out⟩
noncomputable def lpN (n : Nat) (f : Nat → Int) (m : Nat) (g : Nat → Int) : Int := if paB n f = true ∧ paB m g = true ∧ n = m then (lcN f g n : Nat) else 0
noncomputable def lpC (n : Nat) (f : Nat → Int) (m : Nat) (g : Nat → Int) : Int := if paB n f = true ∧ paB m g = true then (if n = m then 0 else 6) else 1
theorem lp_bad {n m : Nat} {f g : Nat → Int} (h : ¬ (paB n f = true ∧ paB m g = true)) : lpN n f m g = 0 ∧ lpC n f m g = 1 := by
  have h' : ¬ (paB n f = true ∧ paB m g = true ∧ n = m) := fun ⟨a, b, _⟩ => h ⟨a, b⟩
  simp only [lpN, lpC, if_neg h, if_neg h']
  exact ⟨trivial, trivial⟩
theorem lp_len {n m : Nat} {f g : Nat → Int} (h1 : paB n f = true) (h2 : paB m g = true) (h : n ≠ m) : lpN n f m g = 0 ∧ lpC n f m g = 6 := by
  have h' : ¬ (paB n f = true ∧ paB m g = true ∧ n = m) := fun ⟨_, _, c⟩ => h c
  simp only [lpN, lpC, if_pos (And.intro h1 h2), if_neg h', if_neg h]
  exact ⟨trivial, trivial⟩
theorem lp_ok {n : Nat} {f g : Nat → Int} (h1 : paB n f = true) (h2 : paB n g = true) : lpN n f n g = (lcN f g n : Nat) ∧ lpC n f n g = 0 := by
  simp [lpN, lpC, h1, h2]
set_option maxHeartbeats 1000000 in
theorem impl_loopsOf (w : World) (A : Option Addr) (n c : Nat) (f : Nat → Int) (B : Option Addr) (m d : Nat) (g : Nat → Int) (hr : Row .i64 w A n c f) (hr' : Row .i64 w B m d g) :
    Calls Tryd.prog 11 #[.slice A n c, .slice B m d] w (Gives (.tuple #[.int .i64 (lpN n f m g), .int .i64 (lpC n f m g)]) w) := by
  have HR := Lib.hid hr
  have HR' := Lib.hid hr'
  clear hr hr'
  cases h1 : paB n f
  · obtain ⟨e1, e2⟩ := lp_bad (n := n) (m := m) (f := f) (g := g) (fun ⟨a, _⟩ => by rw [h1] at a; cases a)
    rw [e1, e2]
    have H1 := Lib.hid h1
    clear h1 e1 e2
    go_enter Tryd.func11, Tryd.ntmps11
    go_wp2_with fail
    refine (isPairing_is H1.out HR.out).mono ?_
    rintro e w1 ⟨rfl, b1⟩
    go_wp2
    go_ret2
    exact ⟨rfl, b1⟩
  · cases h2 : paB m g
    · obtain ⟨e1, e2⟩ := lp_bad (n := n) (m := m) (f := f) (g := g) (fun ⟨_, a⟩ => by rw [h2] at a; cases a)
      rw [e1, e2]
      have H1 := Lib.hid h1
      have H2 := Lib.hid h2
      clear h1 h2 e1 e2
      go_enter Tryd.func11, Tryd.ntmps11
      go_wp2_with fail
      refine (isPairing_is H1.out HR.out).mono ?_
      rintro e w1 ⟨rfl, b1⟩
      go_wp2_with fail
      refine (isPairing_is H2.out (HR'.out.below b1 (Nat.le_refl _))).mono ?_
      rintro e w2 ⟨rfl, b2⟩
      go_wp2
      go_ret2
      exact ⟨rfl, b1.trans (b2.mono b1.size)⟩
    · have H1 := Lib.hid h1
      have H2 := Lib.hid h2
      obtain ⟨p1, p2, p3⟩ := pa_yes h1
      obtain ⟨q1, q2, q3⟩ := pa_yes h2
      have HP := Lib.hid p3
      have HQ := Lib.hid q3
      clear p3 q3
      by_cases hnm : n = m
      · subst hnm
        obtain ⟨e1, e2⟩ := lp_ok h1 h2
        rw [e1, e2]
        clear h1 h2 e1 e2
        go_enter Tryd.func11, Tryd.ntmps11
        go_wp2_with fail
        refine (isPairing_is H1.out HR.out).mono ?_
        rintro e w1 ⟨rfl, b1⟩
        go_wp2_with fail
        refine (isPairing_is H2.out (HR'.out.below b1 (Nat.le_refl _))).mono ?_
        rintro e w2 ⟨rfl, b2⟩
        have HB := Lib.hid (b1.trans (b2.mono b1.size))
        clear b1 b2
        go_wp2_with fail
        refine (impl_loops w2 A n c f B d g (HR.out.below HB.out (Nat.le_refl _)) (HR'.out.below HB.out (Nat.le_refl _)) HP.out HQ.out p2).mono ?_
        rintro e w3 ⟨rfl, b3⟩
        go_wp2
        go_ret2
        exact ⟨rfl, HB.out.trans (b3.mono HB.out.size)⟩
      · obtain ⟨e1, e2⟩ := lp_len h1 h2 hnm
        rw [e1, e2]
        have e3 : ((n : Int) == (m : Int)) = false := beq_eq_false_iff_ne.2 (by omega)
        have e4 : ((n : Int) != (m : Int)) = true := bne_iff_ne.2 (by omega)
        clear h1 h2 e1 e2 hnm
        go_enter Tryd.func11, Tryd.ntmps11
        go_wp2_with fail
        refine (isPairing_is H1.out HR.out).mono ?_
        rintro e w1 ⟨rfl, b1⟩
        go_wp2_with fail
        refine (isPairing_is H2.out (HR'.out.below b1 (Nat.le_refl _))).mono ?_
        rintro e w2 ⟨rfl, b2⟩
        go_wp2
        go_ret2
        exact ⟨rfl, b1.trans (b2.mono b1.size)⟩
end Go.Proofs.YtpkajonnopmciaaDoor.Base
