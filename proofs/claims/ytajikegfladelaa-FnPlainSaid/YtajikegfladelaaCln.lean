/-
  CurveLengths: spec's and the program's.
-/
import Derived.Test.YtajikegfladelaaTch
import Derived.Test.YtajikegfladelaaPrt
import Derived.Test.YtajikegfladelaaIls
import Derived.Shelf.RegionOpen
namespace Go.Proofs.Ytajikegfladelaa.Base
open Go Go.RowKit
set_option linter.unusedVariables false
set_option linter.unusedSimpArgs false

/-- the length of the curve i -/
noncomputable def lnF (W H : Int) (f : Nat → Int) (i : Nat) : Int := (per W H f (cuW W H f i) : Int)
noncomputable def lnN (W H : Int) (n : Nat) (f : Nat → Int) : Nat := if validB W H n f then cnN W H f else 0
noncomputable def lns (W H : Int) (f : Nat → Int) : Nat → List Int
  | 0 => []
  | k + 1 => lns W H f k ++ [lnF W H f k]
theorem lns_length (W H : Int) (f : Nat → Int) : ∀ k, (lns W H f k).length = k
  | 0 => rfl
  | k + 1 => by simp [lns, lns_length W H f k]
theorem lns_get (W H : Int) (f : Nat → Int) : ∀ (k i : Nat), i < k → (ivs (lns W H f k))[i]? = some (.int .i64 (lnF W H f i))
  | 0, i, h => absurd h (by omega)
  | k + 1, i, h => by
    have hl : (ivs (lns W H f k)).length = k := by simp [ivs, lns_length]
    rw [show ivs (lns W H f (k + 1)) = ivs (lns W H f k) ++ ivs [lnF W H f k] from ivs_app _ _]
    rcases Nat.lt_or_ge i k with h' | h'
    · rw [List.getElem?_append_left (by omega)]
      exact lns_get W H f k i h'
    · rw [List.getElem?_append_right (by omega), hl, show i - k = 0 by omega, show k = i by omega]
      rfl
theorem lnN_no {W H : Int} {n : Nat} {f : Nat → Int} (h : validB W H n f = false) : lnN W H n f = 0 := by simp [lnN, h]
theorem lnN_yes {W H : Int} {n : Nat} {f : Nat → Int} (h : validB W H n f = true) : lnN W H n f = cnN W H f := by simp [lnN, h]
theorem lnN_le (W H : Int) (n : Nat) (f : Nat → Int) : lnN W H n f ≤ 256 := by
  cases hv : validB W H n f
  · rw [lnN_no hv]; omega
  · rw [lnN_yes hv]; exact cnN_le hv
theorem lnF_rng {W H : Int} {n : Nat} {f : Nat → Int} {i : Nat} (hv : validB W H n f = true) (hi : i < cnN W H f) : 0 ≤ lnF W H f i ∧ lnF W H f i ≤ 1156 := by
  have h := per_is (cuW_ok hv hi)
  unfold lnF
  have h1 := h.1
  have h2 := h.2.1
  omega
/-- how often the curve i is among all segments' curves: its length -/
theorem ln_cnt {W H : Int} {n : Nat} {f : Nat → Int} {i : Nat} (hv : validB W H n f = true) (hi : i < cnN W H f) : (cntE (trE W H f).of i (4 * W * H).toNat : Int) = lnF W H f i := by
  obtain ⟨hW, hH, -, -⟩ := validB_yes hv
  obtain ⟨m0, m1⟩ := segs_bd hW hH
  have h := trs_len hv (4 * W * H).toNat (by omega) i hi
  unfold lnF cuW trE
  rw [h]

set_option maxRecDepth 100000 in
set_option maxHeartbeats 1000000 in
theorem spec_curveLengths (w : World) (W H : Int) (A : Option Addr) (n c : Nat) (f : Nat → Int) (hr : Row .i64 w A n c f) :
    Calls Try.prog 13 #[.agg #[.int .i64 W, .int .i64 H, .slice A n c]] w (ListOut 1 (lnN W H n f) (lnF W H f) (okC W H n f) w.heap.size w) := by
  have HL := Lib.hid (show Below w.heap.size w (w.alloc (.cells #[.int .i64 W, .int .i64 H, .slice A n c] 26)) from (Below.refl _ _).alloc (Nat.le_refl _) _)
  have HR := Lib.hid hr
  clear hr
  cases hv : validB W H n f
  · rw [lnN_no hv, (segN_no hv).2]
    have HV := Lib.hid hv
    clear hv
    go_enter Try.func13, Try.ntmps13
    go_wp2_with fail
    refine (specOk_is HV.out (Box.new w _ W H A n c) (HR.out.below HL.out (Nat.le_refl _))).mono ?_
    rintro e w1 ⟨m, rfl, rfl⟩
    go_wp2
    go_ret2
    exact ⟨none, 0, rfl, ownS_nil _ _ _ _, below_drewN HL.out m⟩
  · rw [lnN_yes hv, (segN_yes hv).2]
    have hcn := cnN_le hv
    have HLN := Lib.hid (fun i (hi : i < cnN W H f) => lnF_rng hv hi)
    have hcE : (trs W H f (4 * W * H).toNat).cnt = cnN W H f := rfl
    obtain ⟨N, hN⟩ : ∃ N, cnN W H f = N := ⟨_, rfl⟩
    rw [hN] at hcn HLN hcE ⊢
    have HN := Lib.hid hcE
    have HV := Lib.hid hv
    clear hv hN hcE
    go_enter Try.func13, Try.ntmps13
    go_wp2_with fail
    refine (specOk_is HV.out (Box.new w _ W H A n c) (HR.out.below HL.out (Nat.le_refl _))).mono ?_
    rintro e w1 ⟨m, rfl, rfl⟩
    have HX := Lib.hid ((Box.new w 26 W H A n c).below (below_drewN (Below.refl (w.alloc (.cells #[.int .i64 W, .int .i64 H, .slice A n c] 26)).heap.size (w.alloc (.cells #[.int .i64 W, .int .i64 H, .slice A n c] 26))) m) (by simp))
    have HB := Lib.hid (below_drewN HL.out m)
    clear HL
    go_wp2_with fail
    have hBe : ((w.alloc (.cells #[.int .i64 W, .int .i64 H, .slice A n c] 26)).drewN m).heap.size = w.heap.size + 1 := by simp
    generalize (w.alloc (.cells #[.int .i64 W, .int .i64 H, .slice A n c] 26)).drewN m = w1 at HX HB hBe ⊢
    have hB0 : w.heap.size < w1.heap.size := HX.out.1
    have HA1 := Lib.hid ((Below.refl w1.heap.size w1).alloc (Nat.le_refl _) (.cells #[] 2))
    have HO1 := Lib.hid (owns_new0 (X := w1) (e := 2) (s := 1) rfl (Nat.le_refl w1.heap.size))
    refine (spec_all _ w.heap.size W H A n c f (HX.out.below HA1.out HX.out.1) (HR.out.below (HB.out.trans (HA1.out.mono HB.out.size)) (Nat.le_refl _)) HV.out).mono ?_
    rintro e w2 ⟨A1, d1, L, rfl, h1⟩
    have hob : (w1.alloc (.cells #[] 2)).heap.size = w1.heap.size + 1 := by simp
    rw [hob] at h1 ⊢
    have hbl := h1.below
    rw [← hob] at hbl
    have HO2 := Lib.hid (owns_belowS HO1.out hbl)
    have HB2 := Lib.hid (HA1.out.trans (hbl.mono (by simp)))
    clear hob hbl HO1 HA1
    have hL := h1.out.1
    have hO := h1.out
    have hcur := h1.cur
    rw [HN.out] at hO hL ⊢
    rw [Nat.mul_one] at hL
    have HLS : Hid (∀ i, i < N → ∃ P cP, L[i]? = some (.slice P (per W H f (cuW W H f i)) cP)) := Lib.hid (fun i hi => by
      obtain ⟨P, cP, e, -, -⟩ := hcur i _ (List.getElem?_eq_getElem (show i < L.length by omega))
      exact ⟨P, cP, by rw [List.getElem?_eq_getElem (show i < L.length by omega), e]; rfl⟩)
    clear hcur h1
    have HO := Lib.hid hO
    obtain ⟨i2, hi2, hz0, hz1, hz2⟩ := info_parts infoI64
    rw [hBe] at HO2 HB2 HO hB0
    clear hO
    go_wp2
    go_loopw [4, 7] (fun u kv wr => ∃ k : Nat, k ≤ N ∧ kv = .int .i64 k ∧ Hid (wr.ownsRow (w.heap.size + 1) 2 1 u k (ivs (lns W H f k))) ∧
      Hid ((∀ g, u.ownBlock = some g → g < w2.heap.size → g = w.heap.size + 1) ∧ w2.heap.size ≤ wr.heap.size ∧ (∀ b, b < w2.heap.size → b ≠ w.heap.size + 1 → wr.heap[b]? = w2.heap[b]?) ∧ Below (w.heap.size + 1) w1 wr)) (fun _ kv _ => 300 - (intOf kv).toNat)
    case atStart => exact ⟨0, Nat.zero_le _, rfl, HO2, Lib.hid ⟨fun g e _ => by simp [Value.ownBlock] at e; exact e.symm, Nat.le_refl _, fun _ _ _ => rfl, HB2.out⟩⟩
    case round =>
      obtain ⟨k, hk, rfl, HU, HF⟩ := hrel
      by_cases hlt : k < N
      · obtain ⟨gO, capO, eO, gO1, gO2⟩ := HO.out.form (by omega)
        simp only [Value.slice.injEq] at eO
        obtain ⟨rfl, -, rfl⟩ := eO
        obtain ⟨P, cP, hLk⟩ := HLS.out k hlt
        have hlr := HLN.out k hlt
        obtain ⟨z, hz⟩ : ∃ z, per W H f (cuW W H f k) = z := ⟨_, rfl⟩
        have hzz : lnF W H f k = (z : Int) := by unfold lnF; rw [hz]
        rw [hz] at hLk
        rw [hzz] at hlr
        have HZ := Lib.hid hzz
        clear hzz
        have kO : wr.cell? ⟨gO, k, none⟩ = some (.slice P z cP) := by
          have e1 : wr.cell? ⟨gO, k, none⟩ = w2.cell? ⟨gO, k, none⟩ := World.cell?_of_block (HF.out.2.2.1 gO gO2 (by omega))
          rw [e1, HO.out.cellAt k (by omega)]
          exact hLk
        have hgO : gO < wr.heap.size := Nat.lt_of_lt_of_le gO2 HF.out.2.1
        have hz20 : z ≤ maxLen := by unfold maxLen; omega
        obtain ⟨Ao, co, rfl⟩ := owns_slice HU.out
        have hXa := Lib.hid ((Below.refl wr.heap.size wr).alloc (Nat.le_refl _) (.cells #[.int .i64 (z : Int)] 2))
        have hsz : (wr.alloc (.cells #[.int .i64 (z : Int)] 2)).heap.size = wr.heap.size + 1 := by simp
        have hBr := HF.out.2.2.2.size
        clear hz hLk
        go_wp2_with (first
          | (at_builtin; refine wpList_append_lies _ (by rfl) _ _ _ (by rfl) (w.heap.size + 1) 2 i2 _ 1 8 Try.underlying24 hi2 hz0 hz1 hz2 rfl (by omega) _ k (ivs (lns W H f k)) (by rfl) (owns_belowS HU.out hXa.out) ⟨wr.heap.size, 0, none⟩ 1 1 [.int .i64 (z : Int)] (by rfl) (by rfl) (World.news_of_block (cs := #[.int .i64 (z : Int)]) (t := 2) (fr := (0, 0)) (heap_alloc_new wr _)) (fun u hu => by simp at hu; subst hu; rfl) (by omega) (by unfold maxLen; omega) (by omega) (by simp; omega) (wr.heap.size + 1) (by simp) ?_; intro g6 cap6 w6 hown6 hgrow6 hat6 hlt6; have HOW := Lib.hid hown6; have HGR := Lib.hid hgrow6; have HAT := Lib.hid hat6; clear hown6 hgrow6 hat6))
        go_roundw
        case rel =>
          have hf := HF.out
          have hx := hXa.out
          have hg := HGR.out
          have hz5 := hx.size
          have hz6 := hg.size
          have hub : ∀ g, (Value.slice Ao k co).ownBlock = some g → w.heap.size + 1 ≤ g ∧ g < wr.heap.size := fun g e => HU.out.lt g e
          refine ⟨k + 1, by omega, by go_num, Lib.hid ?_, Lib.hid ⟨?_, by omega, ?_, ?_⟩⟩
          · have e : ivs (lns W H f (k + 1)) = ivs (lns W H f k) ++ [.int .i64 (z : Int)] := by
              rw [show ivs (lns W H f (k + 1)) = ivs (lns W H f k) ++ ivs [lnF W H f k] from ivs_app _ _, HZ.out]
              rfl
            rw [e]
            exact HOW.out
          · intro g e hlt'
            have eg : g6 = g := by simpa [Value.ownBlock] using e
            subst eg
            rcases HAT.out with h | h
            · exact hf.1 _ h hlt'
            · have := hf.2.1; omega
          · intro b hb hne
            rw [hg.block b (by have := hf.2.1; omega) (fun e => hne (hf.1 b e.symm hb)), hx.block b (by have := hf.2.1; omega)]
            exact hf.2.2.1 b hb hne
          · exact (hf.2.2.2.trans (hx.mono (by omega))).grown hg (by omega) (fun b e => (hub b e).1)
        case measure => simp [intOf]; omega
      · have ek : k = N := by omega
        subst ek
        obtain ⟨Ao, co, rfl⟩ := owns_slice HU.out
        have hBr := HF.out.2.2.2.size
        go_wp2
        go_ret2
        refine ⟨Ao, co, rfl, ownS_ivs HU.out (fun i hi => lns_get W H f k i hi) (fun i hi => by have := HLN.out i hi; exact WalkArith.wf_i64 (by omega)) (by omega) (by unfold maxLen; omega), HB.out.trans (HF.out.2.2.2.mono (by omega))⟩
end Go.Proofs.Ytajikegfladelaa.Base
