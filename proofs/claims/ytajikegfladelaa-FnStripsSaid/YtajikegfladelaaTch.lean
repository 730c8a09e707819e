/-
  TouchesOf: the border points of a curve: the model, the starts of curves, spec's contract.
-/
import Derived.Test.YtajikegfladelaaCta
namespace Go.Proofs.Ytajikegfladelaa.Base
open Go Go.RowKit
set_option linter.unusedVariables false
set_option linter.unusedSimpArgs false

/-- of the first j points of v's walk, how many lie on the border -/
def tchN (W H : Int) (f : Nat → Int) (v : W4) : Nat → Nat
  | 0 => 0
  | j + 1 => tchN W H f v j + (if edgeB W H (stps W H f j v).1 (stps W H f j v).2.1 then 1 else 0)
theorem tchN_succ (W H : Int) (f : Nat → Int) (v : W4) (j : Nat) : tchN W H f v (j + 1) = tchN W H f v j + (if edgeB W H (stps W H f j v).1 (stps W H f j v).2.1 then 1 else 0) := rfl
theorem tchN_le (W H : Int) (f : Nat → Int) (v : W4) : ∀ j, tchN W H f v j ≤ j
  | 0 => Nat.le_refl _
  | j + 1 => by rw [tchN_succ]; have := tchN_le W H f v j; split <;> omega
/-- the state behind all segments -/
noncomputable def trE (W H : Int) (f : Nat → Int) : Tr := trs W H f (4 * W * H).toNat
/-- the walker with which the curve s starts -/
noncomputable def cuW (W H : Int) (f : Nat → Int) (s : Nat) : W4 := wkr H ((trE W H f).st s)
/-- the code of a panel and the index of a curve -/
noncomputable def cuC (W H : Int) (n : Nat) (f : Nat → Int) (s : Int) : Int := if validB W H n f then (if inB s 0 ((cnN W H f : Int) - 1) then 0 else 2) else 1
noncomputable def toV (W H : Int) (n : Nat) (f : Nat → Int) (s : Int) : Int := if cuC W H n f s = 0 then tchN W H f (cuW W H f s.toNat) (per W H f (cuW W H f s.toNat)) else 0
theorem cu_bad {W H : Int} {n : Nat} {f : Nat → Int} {s : Int} (h : validB W H n f = false) : cuC W H n f s = 1 := by simp [cuC, h]
theorem cu_out {W H : Int} {n : Nat} {f : Nat → Int} {s : Int} (h : validB W H n f = true) (h2 : inB s 0 ((cnN W H f : Int) - 1) = false) : cuC W H n f s = 2 := by simp [cuC, h, h2]
theorem cu_in {W H : Int} {n : Nat} {f : Nat → Int} {s : Int} (h : validB W H n f = true) (h2 : inB s 0 ((cnN W H f : Int) - 1) = true) : cuC W H n f s = 0 := by simp [cuC, h, h2]
theorem toV_0 {W H : Int} {n : Nat} {f : Nat → Int} {s : Int} (h : cuC W H n f s ≠ 0) : toV W H n f s = 0 := by simp [toV, h]
theorem toV_1 {W H : Int} {n : Nat} {f : Nat → Int} {s : Int} (h : cuC W H n f s = 0) : toV W H n f s = tchN W H f (cuW W H f s.toNat) (per W H f (cuW W H f s.toNat)) := by simp [toV, h]

theorem ptl_get (W H : Int) (f : Nat → Int) (v : W4) : ∀ (j i : Nat), i < j → (ivs (ptl W H f v j))[i * 2]? = some (.int .i64 (stps W H f i v).1) ∧ (ivs (ptl W H f v j))[i * 2 + 1]? = some (.int .i64 (stps W H f i v).2.1)
  | 0, i, h => absurd h (by omega)
  | j + 1, i, h => by
    have hl : (ivs (ptl W H f v j)).length = 2 * j := by simp [ivs, ptl_length]
    rw [show ivs (ptl W H f v (j + 1)) = ivs (ptl W H f v j) ++ ivs [(stps W H f j v).1, (stps W H f j v).2.1] from ivs_app _ _]
    rcases Nat.lt_or_ge i j with h' | h'
    · rw [List.getElem?_append_left (by omega), List.getElem?_append_left (by omega)]
      exact ptl_get W H f v j i h'
    · rw [List.getElem?_append_right (by omega), List.getElem?_append_right (by omega), hl, show i * 2 - 2 * j = 0 by omega, show i * 2 + 1 - 2 * j = 1 by omega, show i = j by omega]
      exact ⟨rfl, rfl⟩
theorem stl_length (W H : Int) (f : Nat → Int) : ∀ k, (stl W H f k).length = 4 * (trs W H f k).cnt
  | 0 => rfl
  | k + 1 => by
    have ih := stl_length W H f k
    rcases Int.lt_or_le ((trs W H f k).of k) 0 with h | h
    · rw [trs_no h, stl, if_pos h, List.length_append, ih]
      show _ + 4 = 4 * (_ + 1)
      omega
    · rw [trs_yes h, stl, if_neg (by omega), ih]
theorem stl_get (W H : Int) (f : Nat → Int) : ∀ (k i : Nat), i < (trs W H f k).cnt →
    (ivs (stl W H f k))[i * 4]? = some (.int .i64 (wtX H ((trs W H f k).st i))) ∧ (ivs (stl W H f k))[i * 4 + 1]? = some (.int .i64 (wtY H ((trs W H f k).st i))) ∧
    (ivs (stl W H f k))[i * 4 + 2]? = some (.int .i64 1) ∧ (ivs (stl W H f k))[i * 4 + 3]? = some (.int .i64 (wtD H ((trs W H f k).st i)))
  | 0, i, hi => absurd hi (by show ¬ i < 0; omega)
  | k + 1, i, hi => by
    have hl : (ivs (stl W H f k)).length = 4 * (trs W H f k).cnt := by simp [ivs, stl_length]
    rcases Int.lt_or_le ((trs W H f k).of k) 0 with h | h
    · rw [trs_no h] at hi ⊢
      simp only at hi ⊢
      rw [stl, if_pos h, show ivs (stl W H f k ++ [wtX H k, wtY H k, 1, wtD H k]) = ivs (stl W H f k) ++ ivs [wtX H k, wtY H k, 1, wtD H k] from ivs_app _ _]
      rcases Nat.lt_or_ge i (trs W H f k).cnt with h' | h'
      · rw [if_neg (by omega), List.getElem?_append_left (by omega), List.getElem?_append_left (by omega), List.getElem?_append_left (by omega), List.getElem?_append_left (by omega)]
        exact stl_get W H f k i h'
      · have e : i = (trs W H f k).cnt := by omega
        rw [if_pos e, List.getElem?_append_right (by omega), List.getElem?_append_right (by omega), List.getElem?_append_right (by omega), List.getElem?_append_right (by omega), hl, show i * 4 - 4 * (trs W H f k).cnt = 0 by omega, show i * 4 + 1 - 4 * (trs W H f k).cnt = 1 by omega, show i * 4 + 2 - 4 * (trs W H f k).cnt = 2 by omega, show i * 4 + 3 - 4 * (trs W H f k).cnt = 3 by omega]
        exact ⟨rfl, rfl, rfl, rfl⟩
    · rw [trs_yes h] at hi ⊢
      rw [stl, if_neg (by omega)]
      exact stl_get W H f k i hi
/-- the walker with which a curve starts is valid -/
theorem cuW_ok {W H : Int} {n : Nat} {f : Nat → Int} {i : Nat} (hv : validB W H n f = true) (hi : i < cnN W H f) : okW W H n f (cuW W H f i) = true := by
  obtain ⟨hW, hH, -, -⟩ := validB_yes hv
  obtain ⟨m0, m1⟩ := segs_bd hW hH
  have h := trs_st (W := W) (H := H) (f := f) (4 * W * H).toNat i hi
  exact (wkr_ok hv (k := (trE W H f).st i) (by unfold trE; omega)).1

theorem spec_touchesOf (w : World) (W H : Int) (A : Option Addr) (n c : Nat) (f : Nat → Int) (s : Int) (hr : Row .i64 w A n c f) :
    Calls Try.prog 17 #[.agg #[.int .i64 W, .int .i64 H, .slice A n c], .int .i64 s] w (Gives (.tuple #[.int .i64 (toV W H n f s), .int .i64 (cuC W H n f s)]) w) := by
  have HL := Lib.hid (show Below w.heap.size w (w.alloc (.cells #[.int .i64 W, .int .i64 H, .slice A n c] 26)) from (Below.refl _ _).alloc (Nat.le_refl _) _)
  have HR := Lib.hid hr
  clear hr
  cases hv : validB W H n f
  · rw [toV_0 (by rw [cu_bad hv]; omega), cu_bad hv]
    have HV := Lib.hid hv
    clear hv
    go_enter Try.func17, Try.ntmps17
    go_wp2_with fail
    refine (specOk_is HV.out (Box.new w _ W H A n c) (HR.out.below HL.out (Nat.le_refl _))).mono ?_
    rintro e w1 ⟨m, rfl, rfl⟩
    go_wp2
    go_ret2
    exact ⟨rfl, below_drewN HL.out m⟩
  · obtain ⟨hW, hH, -, -⟩ := validB_yes hv
    obtain ⟨m0, m1⟩ := segs_bd hW hH
    have hcn := cnN_le hv
    cases hk : inB s 0 ((cnN W H f : Int) - 1)
    · rw [toV_0 (by rw [cu_out hv hk]; omega), cu_out hv hk]
      obtain ⟨N, hN⟩ : ∃ N, cnN W H f = N := ⟨_, rfl⟩
      rw [hN] at hk hcn
      have HN := Lib.hid (show (trs W H f (4 * W * H).toNat).cnt = N from hN)
      have HK := Lib.hid hk
      have HV := Lib.hid hv
      clear hv hk hN
      go_enter Try.func17, Try.ntmps17
      go_wp2_with fail
      refine (specOk_is HV.out (Box.new w _ W H A n c) (HR.out.below HL.out (Nat.le_refl _))).mono ?_
      rintro e w1 ⟨m, rfl, rfl⟩
      go_wp2_with fail
      have HB := Lib.hid (below_drewN HL.out m)
      refine (spec_all _ w.heap.size W H A n c f ((Box.new w 26 W H A n c).below (below_drewN (Below.refl (w.alloc (.cells #[.int .i64 W, .int .i64 H, .slice A n c] 26)).heap.size (w.alloc (.cells #[.int .i64 W, .int .i64 H, .slice A n c] 26))) m) (by simp)) (HR.out.below HB.out (Nat.le_refl _)) HV.out).mono ?_
      rintro e w2 ⟨A1, d1, L, rfl, h1⟩
      have HB2 := Lib.hid h1.below
      rw [HN.out]
      clear h1
      go_wp2_with fail
      refine (in_is HK.out _).mono ?_
      rintro e w3 ⟨rfl, rfl⟩
      go_wp2
      go_ret2
      exact ⟨rfl, HB.out.trans (HB2.out.mono HB.out.size)⟩
    · rw [toV_1 (cu_in hv hk), cu_in hv hk]
      obtain ⟨s0, s1⟩ := in_yes hk
      obtain ⟨i0, rfl⟩ : ∃ i0 : Nat, s = i0 := ⟨s.toNat, by omega⟩
      simp only [Int.toNat_natCast]
      have hi0 : i0 < cnN W H f := by omega
      have HOK := Lib.hid (cuW_ok hv hi0)
      have hper := per_is HOK.out
      obtain ⟨M, hM⟩ : ∃ M, per W H f (cuW W H f i0) = M := ⟨_, rfl⟩
      have hM2 : per W H f (wkr H ((trs W H f (4 * W * H).toNat).st i0)) = M := hM
      rw [hM] at hper ⊢
      have hM0 : 0 < M := hper.1
      have hM1 : M ≤ 1156 := hper.2.1
      obtain ⟨v, hvd⟩ : ∃ v, cuW W H f i0 = v := ⟨_, rfl⟩
      have hv2 : wkr H ((trs W H f (4 * W * H).toNat).st i0) = v := hvd
      rw [hvd] at HOK ⊢
      rw [hv2] at hM2
      obtain ⟨N, hN⟩ : ∃ N, cnN W H f = N := ⟨_, rfl⟩
      rw [hN] at hk hcn hi0 s1
      have HN := Lib.hid (show (trs W H f (4 * W * H).toNat).cnt = N from hN)
      have HV2 := Lib.hid hv2
      have HM2 := Lib.hid hM2
      have HK := Lib.hid hk
      have HV := Lib.hid hv
      clear hv hk hN hper hM hvd hM2 hv2
      go_enter Try.func17, Try.ntmps17
      go_wp2_with fail
      refine (specOk_is HV.out (Box.new w _ W H A n c) (HR.out.below HL.out (Nat.le_refl _))).mono ?_
      rintro e w1 ⟨m, rfl, rfl⟩
      go_wp2_with fail
      have HB := Lib.hid (below_drewN HL.out m)
      have HX := Lib.hid ((Box.new w 26 W H A n c).below (below_drewN (Below.refl (w.alloc (.cells #[.int .i64 W, .int .i64 H, .slice A n c] 26)).heap.size (w.alloc (.cells #[.int .i64 W, .int .i64 H, .slice A n c] 26))) m) (by simp))
      refine (spec_all _ w.heap.size W H A n c f HX.out (HR.out.below HB.out (Nat.le_refl _)) HV.out).mono ?_
      rintro e w2 ⟨A1, d1, L, rfl, h1⟩
      obtain ⟨ob, hob⟩ : ∃ ob, ((w.alloc (.cells #[.int .i64 W, .int .i64 H, .slice A n c] 26)).drewN m).heap.size = ob := ⟨_, rfl⟩
      have HBs := Lib.hid (show w.heap.size < ob by rw [← hob]; exact HX.out.1)
      have HX2 := Lib.hid (HX.out.below h1.below HX.out.1)
      rw [hob] at h1 ⊢
      clear hob
      have HB2 := Lib.hid (HB.out.trans (h1.below.mono (Nat.le_of_lt HBs.out)))
      have hL := h1.out.1
      rw [HN.out, Nat.mul_one] at hL
      obtain ⟨vv, hvv⟩ : ∃ vv, L[i0]? = some vv := ⟨_, List.getElem?_eq_getElem (by omega)⟩
      obtain ⟨P, cP, rfl, hP, -⟩ := h1.cur i0 vv hvv
      rw [HV2.out, HM2.out] at hP hvv
      have hO := h1.out
      rw [HN.out] at hO ⊢
      obtain ⟨gO, capO, eO, gO1, gO2⟩ := hO.form (by omega)
      simp only [Value.slice.injEq] at eO
      obtain ⟨rfl, -, rfl⟩ := eO
      have cO : w2.cell? ⟨gO, i0, none⟩ = some (.slice P M cP) := by
        rw [hO.cellAt i0 (by omega)]; exact hvv
      obtain ⟨gP, capP, eP, gP1, gP2⟩ := hP.form hM0
      simp only [Value.slice.injEq] at eP
      obtain ⟨rfl, -, rfl⟩ := eP
      have HP := Lib.hid hP
      have CO := Lib.hid cO
      clear h1 hP hO hvv hL cO gP1 gO1
      go_wp2_with fail
      refine (in_is HK.out _).mono ?_
      rintro e w3 ⟨rfl, rfl⟩
      go_wp2
      go_loopw [9, 8] (fun iv nv wr => ∃ i : Nat, i ≤ M ∧ iv = .int .i64 i ∧ nv = .int .i64 (tchN W H f v i : Int) ∧ Hid (Below w2.heap.size w2 wr)) (fun iv _ _ => 1200 - (intOf iv).toNat)
      case atStart => exact ⟨0, Nat.zero_le _, rfl, rfl, Lib.hid (Below.refl _ _)⟩
      case round =>
        obtain ⟨i, hi, rfl, rfl, HBr⟩ := hrel
        have hgO := Nat.lt_of_lt_of_le gO2 HBr.out.size
        have hgP := Nat.lt_of_lt_of_le gP2 HBr.out.size
        have kO : wr.cell? ⟨gO, i0, none⟩ = some (.slice (some ⟨gP, 0, none⟩) M cP) := (HBr.out.cell (p := ⟨gO, i0, none⟩) gO2).trans CO.out
        by_cases hlt : i < M
        · have HPr := Lib.hid (owns_belowS HP.out HBr.out)
          obtain ⟨g1, g2⟩ := ptl_get W H f v M i hlt
          have kx : wr.cell? ⟨gP, i * 2, none⟩ = some (.int .i64 (stps W H f i v).1) := by rw [HPr.out.cellAt (i * 2) (by omega)]; exact g1
          have ky : wr.cell? ⟨gP, i * 2 + 1, none⟩ = some (.int .i64 (stps W H f i v).2.1) := by rw [HPr.out.cellAt (i * 2 + 1) (by omega)]; exact g2
          have hle := tchN_le W H f v i
          obtain ⟨T, hT⟩ : ∃ T, tchN W H f v i = T := ⟨_, rfl⟩
          rw [hT] at hle ⊢
          have HTT := Lib.hid hT
          clear g1 g2 hT HPr
          cases hed : edgeB W H (stps W H f i v).1 (stps W H f i v).2.1
          all_goals
            have HE := Lib.hid hed
            clear hed
            go_wp2_with fail
            refine (specEdge_is HE.out (HX2.out.below HBr.out HX2.out.1) hW hH).mono ?_
            rintro e w4 ⟨rfl, b4⟩
            have HB4 := Lib.hid (HBr.out.trans (b4.mono HBr.out.size))
            clear b4
            go_wp2
            go_roundw
            case rel => exact ⟨i + 1, by omega, by go_num, by rw [tchN_succ, HE.out, HTT.out]; first | rfl | go_num | (simp; done) | (simp; omega), HB4⟩
            case measure => simp [intOf]; omega
        · have ei : i = M := by omega
          subst ei
          go_wp2
          go_ret2
          exact ⟨rfl, HB2.out.trans (HBr.out.mono HB2.out.size)⟩
end Go.Proofs.Ytajikegfladelaa.Base

namespace Go.Proofs.Ytajikegfladelaa.Base
open Go Go.RowKit
set_option linter.unusedVariables false
set_option linter.unusedSimpArgs false
attribute [local go_sem] Oper.semAt_some

section
variable (w : World) (W H : Int) (A : Option Addr) (n c : Nat) (f : Nat → Int) (s : Int)
end
end Go.Proofs.Ytajikegfladelaa.Base
