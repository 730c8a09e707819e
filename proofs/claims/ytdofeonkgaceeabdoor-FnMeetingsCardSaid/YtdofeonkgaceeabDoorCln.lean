/-
  CurveLengths: spec's and the program's.
-/
import Derived.Test.YtdofeonkgaceeabDoorTch
import Derived.Test.YtdofeonkgaceeabDoorPrt
import Derived.Test.YtdofeonkgaceeabDoorIls
import Derived.Shelf.RegionOpen
namespace Go.Proofs.YtdofeonkgaceeabDoor.Base
open Go Go.RowKit
set_option linter.unusedVariables false
set_option linter.unusedSimpArgs false

/-- the length of the curve i -/
noncomputable def lnF (W H : Int) (f : Nat → Int) (i : Nat) : Int := (per W H f (cuW W H f i) : Int)
noncomputable def lnN (W H : Int) (n : Nat) (f : Nat → Int) : Nat := if validB W H n f then cnN W H f else 0
noncomputable def lns (W H : Int) (f : Nat → Int) : Nat → List Int
  | 0 => []
  | k + 1 => lns W H f k ++ [lnF W H f k]
theorem lns_length (W H : Int) (f : Nat → Int) : ∀ k, (lns W H f k).length = k
  | 0 => rfl
  | k + 1 => by simp [lns, lns_length W H f k]
theorem lns_get (W H : Int) (f : Nat → Int) : ∀ (k i : Nat), i < k → (ivs (lns W H f k))[i]? = some (.int .i64 (lnF W H f i))
  | 0, i, h => absurd h (by omega)
  | k + 1, i, h => by
    have hl : (ivs (lns W H f k)).length = k := by simp [ivs, lns_length]
    rw [show ivs (lns W H f (k + 1)) = ivs (lns W H f k) ++ ivs [lnF W H f k] from ivs_app _ _]
    rcases Nat.lt_or_ge i k with h' | h'
    · rw [List.getElem?_append_left (by omega)]
      exact lns_get W H f k i h'
    · rw [List.getElem?_append_right (by omega), hl, show i - k = 0 by omega, show k = i by omega]
      rfl
theorem lnN_no {W H : Int} {n : Nat} {f : Nat → Int} (h : validB W H n f = false) : lnN W H n f = 0 := by simp [lnN, h]
theorem lnN_yes {W H : Int} {n : Nat} {f : Nat → Int} (h : validB W H n f = true) : lnN W H n f = cnN W H f := by simp [lnN, h]
theorem lnN_le (W H : Int) (n : Nat) (f : Nat → Int) : lnN W H n f ≤ 256 := by
  cases hv : validB W H n f
  · rw [lnN_no hv]; omega
  · rw [lnN_yes hv]; exact cnN_le hv
theorem lnF_rng {W H : Int} {n : Nat} {f : Nat → Int} {i : Nat} (hv : validB W H n f = true) (hi : i < cnN W H f) : 0 ≤ lnF W H f i ∧ lnF W H f i ≤ 1156 := by
  have h := per_is (cuW_ok hv hi)
  unfold lnF
  have h1 := h.1
  have h2 := h.2.1
  omega
/-- how often the curve i is among all segments' curves: its length -/
theorem ln_cnt {W H : Int} {n : Nat} {f : Nat → Int} {i : Nat} (hv : validB W H n f = true) (hi : i < cnN W H f) : (cntE (trE W H f).of i (4 * W * H).toNat : Int) = lnF W H f i := by
  obtain ⟨hW, hH, -, -⟩ := validB_yes hv
  obtain ⟨m0, m1⟩ := segs_bd hW hH
  have h := trs_len hv (4 * W * H).toNat (by omega) i hi
  unfold lnF cuW trE
  rw [h]
/-- an own row of integers is a list for the laws -/
theorem ownS_ivs {w : World} {base base' : Nat} {A : Option Addr} {n c : Nat} {T : TypeId} {l : List Int} {g : Nat → Int} (h : w.ownsRow base T 1 (.slice A n c) n (ivs l)) (hg : ∀ i, i < n → (ivs l)[i]? = some (.int .i64 (g i))) (hw : ∀ i, i < n → (Lit.int .i64 (g i)).wf = true) (hb : base' ≤ base) (hn : n ≤ maxLen) : OwnS 1 w base' A n c g := by
  have hl : l.length = n := by have := h.1; simpa [ivs] using this
  rcases h.2 with ⟨e, rfl⟩ | ⟨b, cap, cur, e, hb', hgb, hnc, hcm, hcs, ht⟩
  · cases e
    exact ⟨Nat.le_refl _, Nat.zero_le _, fun i hi => by omega, fun h => absurd h (by omega)⟩
  · cases e
    refine ⟨hnc, hcm, fun i hi => hw i (by omega), fun hn' => ⟨b, 0, rfl, by omega, (Array.getElem?_eq_some_iff.1 hgb).1, fun i hi => ⟨?_, ?_⟩⟩⟩
    · rw [Nat.zero_add, h.cellAt i hi]
      exact hg i (by omega)
    · rw [Nat.zero_add]
      exact h.frozenAt i

set_option maxRecDepth 100000 in
set_option maxHeartbeats 1000000 in
theorem spec_curveLengths (w : World) (W H : Int) (A : Option Addr) (n c : Nat) (f : Nat → Int) (hr : Row .i64 w A n c f) :
    Calls Tryd.prog 22 #[.agg #[.int .i64 W, .int .i64 H, .slice A n c]] w (ListOut 1 (lnN W H n f) (lnF W H f) (okC W H n f) w.heap.size w) := by
  have HL := Lib.hid (show Below w.heap.size w (w.alloc (.cells #[.int .i64 W, .int .i64 H, .slice A n c] 28)) from (Below.refl _ _).alloc (Nat.le_refl _) _)
  have HR := Lib.hid hr
  clear hr
  cases hv : validB W H n f
  · rw [lnN_no hv, (segN_no hv).2]
    have HV := Lib.hid hv
    clear hv
    go_enter Tryd.func22, Tryd.ntmps22
    go_wp2_with fail
    refine (specOk_is HV.out (Box.new w _ W H A n c) (HR.out.below HL.out (Nat.le_refl _))).mono ?_
    rintro e w1 ⟨m, rfl, rfl⟩
    go_wp2
    go_ret2
    exact ⟨none, 0, rfl, ownS_nil _ _ _ _, below_drewN HL.out m⟩
  · rw [lnN_yes hv, (segN_yes hv).2]
    have hcn := cnN_le hv
    have HLN := Lib.hid (fun i (hi : i < cnN W H f) => lnF_rng hv hi)
    have hcE : (trs W H f (4 * W * H).toNat).cnt = cnN W H f := rfl
    obtain ⟨N, hN⟩ : ∃ N, cnN W H f = N := ⟨_, rfl⟩
    rw [hN] at hcn HLN hcE ⊢
    have HN := Lib.hid hcE
    have HV := Lib.hid hv
    clear hv hN hcE
    go_enter Tryd.func22, Tryd.ntmps22
    go_wp2_with fail
    refine (specOk_is HV.out (Box.new w _ W H A n c) (HR.out.below HL.out (Nat.le_refl _))).mono ?_
    rintro e w1 ⟨m, rfl, rfl⟩
    have HX := Lib.hid ((Box.new w 28 W H A n c).below (below_drewN (Below.refl (w.alloc (.cells #[.int .i64 W, .int .i64 H, .slice A n c] 28)).heap.size (w.alloc (.cells #[.int .i64 W, .int .i64 H, .slice A n c] 28))) m) (by simp))
    have HB := Lib.hid (below_drewN HL.out m)
    clear HL
    go_wp2_with fail
    have hBe : ((w.alloc (.cells #[.int .i64 W, .int .i64 H, .slice A n c] 28)).drewN m).heap.size = w.heap.size + 1 := by simp
    generalize (w.alloc (.cells #[.int .i64 W, .int .i64 H, .slice A n c] 28)).drewN m = w1 at HX HB hBe ⊢
    have hB0 : w.heap.size < w1.heap.size := HX.out.1
    have HA1 := Lib.hid ((Below.refl w1.heap.size w1).alloc (Nat.le_refl _) (.cells #[] 2))
    have HO1 := Lib.hid (owns_new0 (X := w1) (e := 2) (s := 1) rfl (Nat.le_refl w1.heap.size))
    refine (spec_all _ w.heap.size W H A n c f (HX.out.below HA1.out HX.out.1) (HR.out.below (HB.out.trans (HA1.out.mono HB.out.size)) (Nat.le_refl _)) HV.out).mono ?_
    rintro e w2 ⟨A1, d1, L, rfl, h1⟩
    have hob : (w1.alloc (.cells #[] 2)).heap.size = w1.heap.size + 1 := by simp
    rw [hob] at h1 ⊢
    have hbl := h1.below
    rw [← hob] at hbl
    have HO2 := Lib.hid (owns_belowS HO1.out hbl)
    have HB2 := Lib.hid (HA1.out.trans (hbl.mono (by simp)))
    clear hob hbl HO1 HA1
    have hL := h1.out.1
    have hO := h1.out
    have hcur := h1.cur
    rw [HN.out] at hO hL ⊢
    rw [Nat.mul_one] at hL
    have HLS : Hid (∀ i, i < N → ∃ P cP, L[i]? = some (.slice P (per W H f (cuW W H f i)) cP)) := Lib.hid (fun i hi => by
      obtain ⟨P, cP, e, -, -⟩ := hcur i _ (List.getElem?_eq_getElem (show i < L.length by omega))
      exact ⟨P, cP, by rw [List.getElem?_eq_getElem (show i < L.length by omega), e]; rfl⟩)
    clear hcur h1
    have HO := Lib.hid hO
    obtain ⟨i2, hi2, hz0, hz1, hz2⟩ := info_parts infoI64
    rw [hBe] at HO2 HB2 HO hB0
    clear hO
    go_wp2
    go_loopw [4, 7] (fun u kv wr => ∃ k : Nat, k ≤ N ∧ kv = .int .i64 k ∧ Hid (wr.ownsRow (w.heap.size + 1) 2 1 u k (ivs (lns W H f k))) ∧
      Hid ((∀ g, u.ownBlock = some g → g < w2.heap.size → g = w.heap.size + 1) ∧ w2.heap.size ≤ wr.heap.size ∧ (∀ b, b < w2.heap.size → b ≠ w.heap.size + 1 → wr.heap[b]? = w2.heap[b]?) ∧ Below (w.heap.size + 1) w1 wr)) (fun _ kv _ => 300 - (intOf kv).toNat)
    case atStart => exact ⟨0, Nat.zero_le _, rfl, HO2, Lib.hid ⟨fun g e _ => by simp [Value.ownBlock] at e; exact e.symm, Nat.le_refl _, fun _ _ _ => rfl, HB2.out⟩⟩
    case round =>
      obtain ⟨k, hk, rfl, HU, HF⟩ := hrel
      by_cases hlt : k < N
      · obtain ⟨gO, capO, eO, gO1, gO2⟩ := HO.out.form (by omega)
        simp only [Value.slice.injEq] at eO
        obtain ⟨rfl, -, rfl⟩ := eO
        obtain ⟨P, cP, hLk⟩ := HLS.out k hlt
        have hlr := HLN.out k hlt
        obtain ⟨z, hz⟩ : ∃ z, per W H f (cuW W H f k) = z := ⟨_, rfl⟩
        have hzz : lnF W H f k = (z : Int) := by unfold lnF; rw [hz]
        rw [hz] at hLk
        rw [hzz] at hlr
        have HZ := Lib.hid hzz
        clear hzz
        have kO : wr.cell? ⟨gO, k, none⟩ = some (.slice P z cP) := by
          have e1 : wr.cell? ⟨gO, k, none⟩ = w2.cell? ⟨gO, k, none⟩ := World.cell?_of_block (HF.out.2.2.1 gO gO2 (by omega))
          rw [e1, HO.out.cellAt k (by omega)]
          exact hLk
        have hgO : gO < wr.heap.size := Nat.lt_of_lt_of_le gO2 HF.out.2.1
        have hz20 : z ≤ maxLen := by unfold maxLen; omega
        obtain ⟨Ao, co, rfl⟩ := owns_slice HU.out
        have hXa := Lib.hid ((Below.refl wr.heap.size wr).alloc (Nat.le_refl _) (.cells #[.int .i64 (z : Int)] 2))
        have hsz : (wr.alloc (.cells #[.int .i64 (z : Int)] 2)).heap.size = wr.heap.size + 1 := by simp
        have hBr := HF.out.2.2.2.size
        clear hz hLk
        go_wp2_with (first
          | (at_builtin; refine wpList_append_lies _ (by rfl) _ _ _ (by rfl) (w.heap.size + 1) 2 i2 _ 1 8 Tryd.underlying22 hi2 hz0 hz1 hz2 rfl (by omega) _ k (ivs (lns W H f k)) (by rfl) (owns_belowS HU.out hXa.out) ⟨wr.heap.size, 0, none⟩ 1 1 [.int .i64 (z : Int)] (by rfl) (by rfl) (World.news_of_block (cs := #[.int .i64 (z : Int)]) (t := 2) (fr := (0, 0)) (heap_alloc_new wr _)) (fun u hu => by simp at hu; subst hu; rfl) (by omega) (by unfold maxLen; omega) (by omega) (by simp; omega) (wr.heap.size + 1) (by simp) ?_; intro g6 cap6 w6 hown6 hgrow6 hat6 hlt6; have HOW := Lib.hid hown6; have HGR := Lib.hid hgrow6; have HAT := Lib.hid hat6; clear hown6 hgrow6 hat6))
        go_roundw
        case rel =>
          have hf := HF.out
          have hx := hXa.out
          have hg := HGR.out
          have hz5 := hx.size
          have hz6 := hg.size
          have hub : ∀ g, (Value.slice Ao k co).ownBlock = some g → w.heap.size + 1 ≤ g ∧ g < wr.heap.size := fun g e => HU.out.lt g e
          refine ⟨k + 1, by omega, by go_num, Lib.hid ?_, Lib.hid ⟨?_, by omega, ?_, ?_⟩⟩
          · have e : ivs (lns W H f (k + 1)) = ivs (lns W H f k) ++ [.int .i64 (z : Int)] := by
              rw [show ivs (lns W H f (k + 1)) = ivs (lns W H f k) ++ ivs [lnF W H f k] from ivs_app _ _, HZ.out]
              rfl
            rw [e]
            exact HOW.out
          · intro g e hlt'
            have eg : g6 = g := by simpa [Value.ownBlock] using e
            subst eg
            rcases HAT.out with h | h
            · exact hf.1 _ h hlt'
            · have := hf.2.1; omega
          · intro b hb hne
            rw [hg.block b (by have := hf.2.1; omega) (fun e => hne (hf.1 b e.symm hb)), hx.block b (by have := hf.2.1; omega)]
            exact hf.2.2.1 b hb hne
          · exact (hf.2.2.2.trans (hx.mono (by omega))).grown hg (by omega) (fun b e => (hub b e).1)
        case measure => simp [intOf]; omega
      · have ek : k = N := by omega
        subst ek
        obtain ⟨Ao, co, rfl⟩ := owns_slice HU.out
        have hBr := HF.out.2.2.2.size
        go_wp2
        go_ret2
        refine ⟨Ao, co, rfl, ownS_ivs HU.out (fun i hi => lns_get W H f k i hi) (fun i hi => by have := HLN.out i hi; exact WalkArith.wf_i64 (by omega)) (by omega) (by unfold maxLen; omega), HB.out.trans (HF.out.2.2.2.mono (by omega))⟩
set_option maxHeartbeats 1000000 in
theorem impl_curveLengths (w : World) (W H : Int) (A : Option Addr) (n c : Nat) (f : Nat → Int) (hr : Row .i64 w A n c f) (hT : Cel w 2 [.int .i64 1, .int .i64 1, .int .i64 (-1), .int .i64 1, .int .i64 1, .int .i64 (-1)]) :
    Calls Tryd.prog 23 #[.agg #[.int .i64 W, .int .i64 H, .slice A n c]] w (ListOut 1 (lnN W H n f) (lnF W H f) (okC W H n f) w.heap.size w) := by
  have HL := Lib.hid (show Below w.heap.size w (w.alloc (.cells #[.int .i64 W, .int .i64 H, .slice A n c] 28)) from (Below.refl _ _).alloc (Nat.le_refl _) _)
  have HR := Lib.hid hr
  have HT := Lib.hid hT
  clear hr hT
  cases hv : validB W H n f
  · rw [lnN_no hv, (segN_no hv).2]
    have HV := Lib.hid hv
    clear hv
    go_enter Tryd.func23, Tryd.ntmps23
    go_wp2_with fail
    refine (impl_tracedBad _ (HR.out.below HL.out (Nat.le_refl _)) HV.out).mono ?_
    rintro e w1 ⟨rfl, b1⟩
    have HB := Lib.hid (HL.out.trans (b1.mono (by first | exact Nat.le_refl _ | (simp; done) | (simp; omega) | omega)))
    clear b1
    go_wp2
    go_ret2
    exact ⟨none, 0, rfl, ownS_nil _ _ _ _, HB.out.alloc HB.out.size _⟩
  · rw [lnN_yes hv, (segN_yes hv).2]
    obtain ⟨hW, hH, -, -⟩ := validB_yes hv
    obtain ⟨m0, m1⟩ := segs_bd hW hH
    have hcn := cnN_le hv
    have HLN := Lib.hid (fun i (hi : i < cnN W H f) => lnF_rng hv hi)
    have HLC := Lib.hid (fun i (hi : i < cnN W H f) => ln_cnt hv hi)
    have HOF := Lib.hid (fun s (hs : s < (4 * W * H).toNat) => (show 0 ≤ (trE W H f).of s ∧ (trE W H f).of s < cnN W H f from ⟨trs_done hv _ s (by omega) hs, (trs_of_ge W H f _ s).2.1⟩))
    have hcE : (trs W H f (4 * W * H).toNat).cnt = cnN W H f := rfl
    have heE : trs W H f (4 * W * H).toNat = trE W H f := rfl
    obtain ⟨N, hN⟩ : ∃ N, cnN W H f = N := ⟨_, rfl⟩
    obtain ⟨M, hM⟩ : ∃ M, (4 * W * H).toNat = M := ⟨_, rfl⟩
    have HTO := impl_tracedOk (w.alloc (.cells #[.int .i64 W, .int .i64 H, .slice A n c] 28)) W H A n c f (HR.out.below HL.out (Nat.le_refl _)) (HT.out.below HL.out HT.out.1) hv
    unfold TracedOut at HTO
    rw [hcE, heE, hM] at HTO
    rw [hN] at hcn HLN HLC HOF HTO ⊢
    rw [hM] at HLC HOF
    have hM1 : M ≤ 256 := by omega
    have HTO := Lib.hid HTO
    clear hv hN hcE hM heE
    go_enter Tryd.func23, Tryd.ntmps23
    go_wp2_with fail
    refine HTO.out.mono ?_
    rintro e w1 ⟨Au, cu, cv, rfl, h1, h2, h3, b1⟩
    have HB := Lib.hid (HL.out.trans (b1.mono (by first | exact Nat.le_refl _ | (simp; done) | (simp; omega) | omega)))
    have HC := Lib.hid h2
    clear b1 h1 h2 h3 HTO
    go_wp2_with fail
    refine (impl_count _ W H A Au (some ⟨cv, 0, none⟩) n c N cu M M (by unfold maxLen; omega)).mono ?_
    rintro e w3 ⟨rfl, b3⟩
    have HX3 := Lib.hid ((At.new w1 #[.int .i64 W, .int .i64 H, .slice A n c, .slice Au N cu, .slice (some ⟨cv, 0, none⟩) M M] 74).below b3 (by simp))
    have HC3 := Lib.hid (rowIs_below (HC.out.alloc _) b3 (HC.out.alloc _).lt)
    have HB3 := Lib.hid ((HB.out.alloc HB.out.size _).trans (b3.mono (Nat.le_trans HB.out.size (by simp))))
    have hz3 := b3.size
    simp at hz3
    clear b3 HC HB
    have hmk := run_make_row' (P := Tryd.prog) 22 2 (.int .i64 0) 8 Tryd.underlying22 infoI64 rfl .i64 .i64 N (by omega) (by omega)
    have x4 := HX3.out.cellv (i := 4) rfl
    have lx := HX3.out.lt
    go_wp2
    clear hmk x4
    have hX4 := (Below.refl w3.heap.size w3).alloc (Nat.le_refl _) (.cells (madeCells #[.int .i64 0] N) 2)
    have HR4 := Lib.hid ((World.rowIs_made w3 (.int .i64 0) N 2).congr (g := fun j => .int .i64 (cntE (trE W H f).of (j : Int) 0 : Int)) (fun j hj => rfl))
    have HX4 := Lib.hid (HX3.out.below hX4 HX3.out.lt)
    have HC4 := Lib.hid (rowIs_below HC3.out hX4 HC3.out.lt)
    have HB4 := Lib.hid (HB3.out.trans (hX4.mono HB3.out.size))
    have hz4 : (w3.alloc (.cells (madeCells #[.int .i64 0] N) 2)).heap.size = w3.heap.size + 1 := by simp
    have hwz := HB3.out.size
    obtain ⟨LB, hLB⟩ : ∃ LB, w3.heap.size = LB := ⟨_, rfl⟩
    have hcl := HC3.out.lt
    rw [hLB] at HR4 hz4 hz3 hwz lx hcl ⊢
    clear hX4 hLB HX3 HC3 HB3
    generalize w3.alloc (.cells (madeCells #[.int .i64 0] N) 2) = w4 at HR4 HX4 HC4 HB4 hz4 ⊢
    have x4 := HX4.out.cellv (i := 4) rfl
    have lx4 := HX4.out.lt
    go_wp2
    clear x4 lx4
    go_loopw [23] (fun kv wr => ∃ k : Nat, k ≤ M ∧ kv = .int .i64 k ∧ Hid (wr.rowIs LB 2 N (fun j => .int .i64 (cntE (trE W H f).of (j : Int) k : Int))) ∧ Hid (Below LB w4 wr)) (fun kv _ => 300 - (intOf kv).toNat)
    case atStart => exact ⟨0, Nat.zero_le _, rfl, HR4, Lib.hid (Below.refl _ _)⟩
    case round =>
      obtain ⟨k, hk, rfl, HO, HB⟩ := hrel
      by_cases hlt : k < M
      · obtain ⟨o1, o2⟩ := HOF.out k hlt
        have hcc := (rowIs_below HC4.out HB.out (by omega)).cell hlt
        have hcl2 := (rowIs_below HC4.out HB.out (by omega)).lt
        obtain ⟨z, hz⟩ : ∃ z : Nat, (trE W H f).of k = z := ⟨((trE W H f).of k).toNat, by omega⟩
        rw [hz] at hcc o1 o2
        have hzN : z < N := by omega
        have hlc := HO.out.cell hzN
        have hlf := HO.out.frozen z
        have hll := HO.out.lt
        have hle := cntE_le (trE W H f).of (z : Int) k
        obtain ⟨T, hT⟩ : ∃ T, cntE (trE W H f).of (z : Int) k = T := ⟨_, rfl⟩
        rw [hT] at hlc hle
        have HS := Lib.hid (HO.out.set z (.int .i64 ((T : Int) + 1)))
        have HZ := Lib.hid hz
        have HTT := Lib.hid hT
        clear hz hT
        go_wp2
        go_roundw
        case rel =>
          refine ⟨k + 1, by omega, by go_num, Lib.hid (HS.out.congr (fun j hj => ?_)), Lib.hid (HB.out.setCell (p := ⟨LB, z, none⟩) (Nat.le_refl _) _)⟩
          rw [cntE_succ, HZ.out]
          by_cases e : j = z
          · subst e
            simp [HTT.out]
          · rw [if_neg (show ¬ (z : Int) = (j : Int) by omega)]
            simp [e]
        case measure => simp [intOf]; omega
      · have ek : k = M := by omega
        subst ek
        go_wp2
        go_ret2
        refine ⟨_, _, rfl, ownS_row (HO.out.congr (g := fun i => .int .i64 (lnF W H f i)) (fun i hi => by rw [HLC.out i hi])) (by unfold maxLen; omega) (fun i hi => ?_) hwz, HB4.out.trans (HB.out.mono hwz)⟩
        have := HLN.out i hi
        exact WalkArith.wf_i64 (by omega)
end Go.Proofs.YtdofeonkgaceeabDoor.Base
