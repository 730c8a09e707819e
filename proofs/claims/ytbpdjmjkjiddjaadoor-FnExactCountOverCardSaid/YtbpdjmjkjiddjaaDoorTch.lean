/-
  TouchesOf: the border points of a curve: the model, the starts of curves, spec's contract.
-/
import Derived.Test.YtbpdjmjkjiddjaaDoorCta
namespace Go.Proofs.YtbpdjmjkjiddjaaDoor.Base
open Go Go.RowKit
set_option linter.unusedVariables false
set_option linter.unusedSimpArgs false

/-- of the first j points of v's walk, how many lie on the border -/
def tchN (W H : Int) (f : Nat → Int) (v : W4) : Nat → Nat
  | 0 => 0
  | j + 1 => tchN W H f v j + (if edgeB W H (stps W H f j v).1 (stps W H f j v).2.1 then 1 else 0)
theorem tchN_succ (W H : Int) (f : Nat → Int) (v : W4) (j : Nat) : tchN W H f v (j + 1) = tchN W H f v j + (if edgeB W H (stps W H f j v).1 (stps W H f j v).2.1 then 1 else 0) := rfl
theorem tchN_le (W H : Int) (f : Nat → Int) (v : W4) : ∀ j, tchN W H f v j ≤ j
  | 0 => Nat.le_refl _
  | j + 1 => by rw [tchN_succ]; have := tchN_le W H f v j; split <;> omega
/-- the state behind all segments -/
noncomputable def trE (W H : Int) (f : Nat → Int) : Tr := trs W H f (4 * W * H).toNat
/-- the walker with which the curve s starts -/
noncomputable def cuW (W H : Int) (f : Nat → Int) (s : Nat) : W4 := wkr H ((trE W H f).st s)
/-- the code of a panel and the index of a curve -/
noncomputable def cuC (W H : Int) (n : Nat) (f : Nat → Int) (s : Int) : Int := if validB W H n f then (if inB s 0 ((cnN W H f : Int) - 1) then 0 else 2) else 1
noncomputable def toV (W H : Int) (n : Nat) (f : Nat → Int) (s : Int) : Int := if cuC W H n f s = 0 then tchN W H f (cuW W H f s.toNat) (per W H f (cuW W H f s.toNat)) else 0
theorem cu_bad {W H : Int} {n : Nat} {f : Nat → Int} {s : Int} (h : validB W H n f = false) : cuC W H n f s = 1 := by simp [cuC, h]
theorem cu_out {W H : Int} {n : Nat} {f : Nat → Int} {s : Int} (h : validB W H n f = true) (h2 : inB s 0 ((cnN W H f : Int) - 1) = false) : cuC W H n f s = 2 := by simp [cuC, h, h2]
theorem cu_in {W H : Int} {n : Nat} {f : Nat → Int} {s : Int} (h : validB W H n f = true) (h2 : inB s 0 ((cnN W H f : Int) - 1) = true) : cuC W H n f s = 0 := by simp [cuC, h, h2]
theorem toV_0 {W H : Int} {n : Nat} {f : Nat → Int} {s : Int} (h : cuC W H n f s ≠ 0) : toV W H n f s = 0 := by simp [toV, h]
theorem toV_1 {W H : Int} {n : Nat} {f : Nat → Int} {s : Int} (h : cuC W H n f s = 0) : toV W H n f s = tchN W H f (cuW W H f s.toNat) (per W H f (cuW W H f s.toNat)) := by simp [toV, h]

theorem ptl_get (W H : Int) (f : Nat → Int) (v : W4) : ∀ (j i : Nat), i < j → (ivs (ptl W H f v j))[i * 2]? = some (.int .i64 (stps W H f i v).1) ∧ (ivs (ptl W H f v j))[i * 2 + 1]? = some (.int .i64 (stps W H f i v).2.1)
  | 0, i, h => absurd h (by omega)
  | j + 1, i, h => by
    have hl : (ivs (ptl W H f v j)).length = 2 * j := by simp [ivs, ptl_length]
    rw [show ivs (ptl W H f v (j + 1)) = ivs (ptl W H f v j) ++ ivs [(stps W H f j v).1, (stps W H f j v).2.1] from ivs_app _ _]
    rcases Nat.lt_or_ge i j with h' | h'
    · rw [List.getElem?_append_left (by omega), List.getElem?_append_left (by omega)]
      exact ptl_get W H f v j i h'
    · rw [List.getElem?_append_right (by omega), List.getElem?_append_right (by omega), hl, show i * 2 - 2 * j = 0 by omega, show i * 2 + 1 - 2 * j = 1 by omega, show i = j by omega]
      exact ⟨rfl, rfl⟩
theorem stl_length (W H : Int) (f : Nat → Int) : ∀ k, (stl W H f k).length = 4 * (trs W H f k).cnt
  | 0 => rfl
  | k + 1 => by
    have ih := stl_length W H f k
    rcases Int.lt_or_le ((trs W H f k).of k) 0 with h | h
    · rw [trs_no h, stl, if_pos h, List.length_append, ih]
      show _ + 4 = 4 * (_ + 1)
      omega
    · rw [trs_yes h, stl, if_neg (by omega), ih]
theorem stl_get (W H : Int) (f : Nat → Int) : ∀ (k i : Nat), i < (trs W H f k).cnt →
    (ivs (stl W H f k))[i * 4]? = some (.int .i64 (wtX H ((trs W H f k).st i))) ∧ (ivs (stl W H f k))[i * 4 + 1]? = some (.int .i64 (wtY H ((trs W H f k).st i))) ∧
    (ivs (stl W H f k))[i * 4 + 2]? = some (.int .i64 1) ∧ (ivs (stl W H f k))[i * 4 + 3]? = some (.int .i64 (wtD H ((trs W H f k).st i)))
  | 0, i, hi => absurd hi (by show ¬ i < 0; omega)
  | k + 1, i, hi => by
    have hl : (ivs (stl W H f k)).length = 4 * (trs W H f k).cnt := by simp [ivs, stl_length]
    rcases Int.lt_or_le ((trs W H f k).of k) 0 with h | h
    · rw [trs_no h] at hi ⊢
      simp only at hi ⊢
      rw [stl, if_pos h, show ivs (stl W H f k ++ [wtX H k, wtY H k, 1, wtD H k]) = ivs (stl W H f k) ++ ivs [wtX H k, wtY H k, 1, wtD H k] from ivs_app _ _]
      rcases Nat.lt_or_ge i (trs W H f k).cnt with h' | h'
      · rw [if_neg (by omega), List.getElem?_append_left (by omega), List.getElem?_append_left (by omega), List.getElem?_append_left (by omega), List.getElem?_append_left (by omega)]
        exact stl_get W H f k i h'
      · have e : i = (trs W H f k).cnt := by omega
        rw [if_pos e, List.getElem?_append_right (by omega), List.getElem?_append_right (by omega), List.getElem?_append_right (by omega), List.getElem?_append_right (by omega), hl, show i * 4 - 4 * (trs W H f k).cnt = 0 by omega, show i * 4 + 1 - 4 * (trs W H f k).cnt = 1 by omega, show i * 4 + 2 - 4 * (trs W H f k).cnt = 2 by omega, show i * 4 + 3 - 4 * (trs W H f k).cnt = 3 by omega]
        exact ⟨rfl, rfl, rfl, rfl⟩
    · rw [trs_yes h] at hi ⊢
      rw [stl, if_neg (by omega)]
      exact stl_get W H f k i hi
/-- the walker with which a curve starts is valid -/
theorem cuW_ok {W H : Int} {n : Nat} {f : Nat → Int} {i : Nat} (hv : validB W H n f = true) (hi : i < cnN W H f) : okW W H n f (cuW W H f i) = true := by
  obtain ⟨hW, hH, -, -⟩ := validB_yes hv
  obtain ⟨m0, m1⟩ := segs_bd hW hH
  have h := trs_st (W := W) (H := H) (f := f) (4 * W * H).toNat i hi
  exact (wkr_ok hv (k := (trE W H f).st i) (by unfold trE; omega)).1

end Go.Proofs.YtbpdjmjkjiddjaaDoor.Base

namespace Go.Proofs.YtbpdjmjkjiddjaaDoor.Base
open Go Go.RowKit
set_option linter.unusedVariables false
set_option linter.unusedSimpArgs false
attribute [local go_sem] Oper.semAt_some

theorem impl_hasCurve (w : World) (W H s : Int) (A A1 A2 : Option Addr) (n c n1 c1 n2 c2 : Nat) (h1 : n1 ≤ 1000) :
    Calls Tryd.prog 95 #[.agg #[.int .i64 W, .int .i64 H, .slice A n c, .slice A1 n1 c1, .slice A2 n2 c2], .int .i64 s] w (Gives (.bool (inB s 0 ((n1 : Int) - 1))) w) := by
  have hm : n1 ≤ maxLen := by unfold maxLen; omega
  have HL := Lib.hid (show Below w.heap.size w (w.alloc (.cells #[.int .i64 W, .int .i64 H, .slice A n c, .slice A1 n1 c1, .slice A2 n2 c2] 84)) from (Below.refl _ _).alloc (Nat.le_refl _) _)
  by_cases h : s < 0
  · have e : inB s 0 ((n1 : Int) - 1) = false := by unfold inB; simp; omega
    have g : decide (0 ≤ s) = false := by simp; omega
    rw [e]
    go_enter Tryd.func95, Tryd.ntmps95
    go_wp2
    go_ret
    exact ⟨rfl, HL.out⟩
  · by_cases h2 : s < n1
    · have e : inB s 0 ((n1 : Int) - 1) = true := by unfold inB; simp; omega
      rw [e]
      go_enter Tryd.func95, Tryd.ntmps95
      go_wp2_with fail
      refine (impl_count _ W H A A1 A2 n c n1 c1 n2 c2 hm).mono ?_
      rintro e w1 ⟨rfl, b1⟩
      go_wp2
      go_ret
      exact ⟨rfl, HL.out.trans (b1.mono (by first | exact Nat.le_refl _ | (simp; done) | (simp; omega) | omega))⟩
    · have e : inB s 0 ((n1 : Int) - 1) = false := by unfold inB; simp; omega
      have g2 : decide (s < (n1 : Int)) = false := by simp; omega
      rw [e]
      go_enter Tryd.func95, Tryd.ntmps95
      go_wp2_with fail
      refine (impl_count _ W H A A1 A2 n c n1 c1 n2 c2 hm).mono ?_
      rintro e w1 ⟨rfl, b1⟩
      go_wp2
      go_ret
      exact ⟨by first | rfl | (rw [← g2]; rfl) | simp [g2], HL.out.trans (b1.mono (by first | exact Nat.le_refl _ | (simp; done) | (simp; omega) | omega))⟩
theorem hasCurve_is {w : World} {W H s : Int} {A A1 A2 : Option Addr} {n c n1 c1 n2 c2 : Nat} {v : Bool} (h1 : n1 ≤ 1000) (h : inB s 0 ((n1 : Int) - 1) = v) :
    Calls Tryd.prog 95 #[.agg #[.int .i64 W, .int .i64 H, .slice A n c, .slice A1 n1 c1, .slice A2 n2 c2], .int .i64 s] w (Gives (.bool v) w) := by
  rw [← h]; exact impl_hasCurve w W H s A A1 A2 n c n1 c1 n2 c2 h1

section
variable (w : World) (W H : Int) (A : Option Addr) (n c : Nat) (f : Nat → Int) (s : Int)
theorem impl_tcBad (hr : Row .i64 w A n c f) (hv : validB W H n f = false) :
    Calls Tryd.prog 57 #[.agg #[.int .i64 W, .int .i64 H, .slice A n c], .int .i64 s] w (Gives (.tuple #[.agg #[.int .i64 0, .int .i64 0, .slice none 0 0, .slice none 0 0, .slice none 0 0], .int .i64 1]) w) := by
  have HL := Lib.hid (show Below w.heap.size w ((w.alloc (.cells #[.int .i64 W, .int .i64 H, .slice A n c] 35)).alloc (.cells #[.int .i64 0, .int .i64 0, .slice none 0 0, .slice none 0 0, .slice none 0 0] 84)) from ((Below.refl _ _).alloc (Nat.le_refl _) _).alloc (by simp) _)
  have HR := Lib.hid hr
  have HV := Lib.hid hv
  clear hr hv
  go_enter Tryd.func57, Tryd.ntmps57
  go_wp2_with fail
  refine (impl_tracedBad _ (HR.out.below HL.out (Nat.le_refl _)) HV.out).mono ?_
  rintro e w1 ⟨rfl, b1⟩
  have HZ := Lib.hid (((show At ((w.alloc (.cells #[.int .i64 W, .int .i64 H, .slice A n c] 35)).alloc (.cells #[.int .i64 0, .int .i64 0, .slice none 0 0, .slice none 0 0, .slice none 0 0] 84)) (w.heap.size + 1) #[.int .i64 0, .int .i64 0, .slice none 0 0, .slice none 0 0, .slice none 0 0] 84 from At.newAt (by simp)).below b1 (by simp)).below ((Below.refl _ _).alloc (Nat.le_refl _) (.cells #[.int .i64 0, .int .i64 0, .slice none 0 0, .slice none 0 0, .slice none 0 0] 84)) (by have := b1.size; simp at this; omega))
  have HB := Lib.hid ((HL.out.trans (b1.mono (by first | exact Nat.le_refl _ | (simp; done) | (simp; omega) | omega))).alloc (Nat.le_trans HL.out.size b1.size) (.cells #[.int .i64 0, .int .i64 0, .slice none 0 0, .slice none 0 0, .slice none 0 0] 84))
  clear b1
  have z0 := HZ.out.cellv (i := 0) rfl
  have z1 := HZ.out.cellv (i := 1) rfl
  have z2 := HZ.out.cellv (i := 2) rfl
  have z3 := HZ.out.cellv (i := 3) rfl
  have z4 := HZ.out.cellv (i := 4) rfl
  have f0 := HZ.out.frozen 0
  have f1 := HZ.out.frozen 1
  have f2 := HZ.out.frozen 2
  have f3 := HZ.out.frozen 3
  have f4 := HZ.out.frozen 4
  have lz := HZ.out.lt
  go_wp2
  refine bodyPost_ret ?_ rfl ⟨rfl, (((((HB.out.setCell (by first | exact Nat.le_refl _ | (simp; done) | (simp; omega) | omega) _).setCell (by first | exact Nat.le_refl _ | (simp; done) | (simp; omega) | omega) _).setCell (by first | exact Nat.le_refl _ | (simp; done) | (simp; omega) | omega) _).setCell (by first | exact Nat.le_refl _ | (simp; done) | (simp; omega) | omega) _).setCell (by first | exact Nat.le_refl _ | (simp; done) | (simp; omega) | omega) _)⟩
  simp [results, Tryd.results57, go_sem, z0, z1, z2, z3, z4]
theorem impl_tcOut (hr : Row .i64 w A n c f) (hT : Cel w 0 [.int .i64 1, .int .i64 1, .int .i64 (-1), .int .i64 1, .int .i64 1, .int .i64 (-1)]) (hv : validB W H n f = true) (hk : inB s 0 ((cnN W H f : Int) - 1) = false) :
    Calls Tryd.prog 57 #[.agg #[.int .i64 W, .int .i64 H, .slice A n c], .int .i64 s] w (Gives (.tuple #[.agg #[.int .i64 0, .int .i64 0, .slice none 0 0, .slice none 0 0, .slice none 0 0], .int .i64 2]) w) := by
  have HL := Lib.hid (show Below w.heap.size w ((w.alloc (.cells #[.int .i64 W, .int .i64 H, .slice A n c] 35)).alloc (.cells #[.int .i64 0, .int .i64 0, .slice none 0 0, .slice none 0 0, .slice none 0 0] 84)) from ((Below.refl _ _).alloc (Nat.le_refl _) _).alloc (by simp) _)
  have hcn := cnN_le hv
  unfold cnN at hk hcn
  have HR := Lib.hid hr
  have HV := Lib.hid hv
  have HT := Lib.hid hT
  have HK := Lib.hid hk
  clear hr hv hT hk
  go_enter Tryd.func57, Tryd.ntmps57
  go_wp2_with fail
  refine (impl_tracedOk _ W H A n c f (HR.out.below HL.out (Nat.le_refl _)) (HT.out.below HL.out HT.out.1) HV.out).mono ?_
  rintro e w1 ⟨Au, cu, cv, rfl, h1, h2, h3, b1⟩
  have HZ := Lib.hid ((show At ((w.alloc (.cells #[.int .i64 W, .int .i64 H, .slice A n c] 35)).alloc (.cells #[.int .i64 0, .int .i64 0, .slice none 0 0, .slice none 0 0, .slice none 0 0] 84)) (w.heap.size + 1) #[.int .i64 0, .int .i64 0, .slice none 0 0, .slice none 0 0, .slice none 0 0] 84 from At.newAt (by simp)).below b1 (by simp))
  have HB := Lib.hid (HL.out.trans (b1.mono (by first | exact Nat.le_refl _ | (simp; done) | (simp; omega) | omega)))
  clear b1 h1 h2 h3
  go_wp2_with fail
  have X2 := Lib.hid ((Below.refl w1.heap.size w1).alloc (Nat.le_refl _) (.cells #[.int .i64 W, .int .i64 H, .slice A n c, .slice Au (trs W H f (4 * W * H).toNat).cnt cu, .slice (some ⟨cv, 0, none⟩) (4 * W * H).toNat (4 * W * H).toNat] 84))
  refine (hasCurve_is (n1 := (trs W H f (4 * W * H).toNat).cnt) (by omega) HK.out).mono ?_
  rintro e w2 ⟨rfl, b2⟩
  have HZ2 := Lib.hid ((HZ.out.below X2.out HZ.out.lt).below b2 (Nat.lt_of_lt_of_le HZ.out.lt X2.out.size))
  have HB2 := Lib.hid ((HB.out.trans (X2.out.mono HB.out.size)).trans (b2.mono (Nat.le_trans HB.out.size X2.out.size)))
  clear b2
  have z0 := HZ2.out.cellv (i := 0) rfl
  have z1 := HZ2.out.cellv (i := 1) rfl
  have z2 := HZ2.out.cellv (i := 2) rfl
  have z3 := HZ2.out.cellv (i := 3) rfl
  have z4 := HZ2.out.cellv (i := 4) rfl
  have f0 := HZ2.out.frozen 0
  have f1 := HZ2.out.frozen 1
  have f2 := HZ2.out.frozen 2
  have f3 := HZ2.out.frozen 3
  have f4 := HZ2.out.frozen 4
  have lz := HZ2.out.lt
  go_wp2
  refine bodyPost_ret ?_ rfl ⟨rfl, (((((HB2.out.setCell (by first | exact Nat.le_refl _ | (simp; done) | (simp; omega) | omega) _).setCell (by first | exact Nat.le_refl _ | (simp; done) | (simp; omega) | omega) _).setCell (by first | exact Nat.le_refl _ | (simp; done) | (simp; omega) | omega) _).setCell (by first | exact Nat.le_refl _ | (simp; done) | (simp; omega) | omega) _).setCell (by first | exact Nat.le_refl _ | (simp; done) | (simp; omega) | omega) _)⟩
  simp [results, Tryd.results57, go_sem, z0, z1, z2, z3, z4]
set_option maxHeartbeats 1000000 in
theorem impl_tcIn (hr : Row .i64 w A n c f) (hT : Cel w 0 [.int .i64 1, .int .i64 1, .int .i64 (-1), .int .i64 1, .int .i64 1, .int .i64 (-1)]) (hv : validB W H n f = true) (hk : inB s 0 ((cnN W H f : Int) - 1) = true) :
    Calls Tryd.prog 57 #[.agg #[.int .i64 W, .int .i64 H, .slice A n c], .int .i64 s] w (TracedOut W H f A n c (4 * W * H).toNat w) := by
  have HL := Lib.hid (show Below w.heap.size w ((w.alloc (.cells #[.int .i64 W, .int .i64 H, .slice A n c] 35)).alloc (.cells #[.int .i64 0, .int .i64 0, .slice none 0 0, .slice none 0 0, .slice none 0 0] 84)) from ((Below.refl _ _).alloc (Nat.le_refl _) _).alloc (by simp) _)
  have hcn := cnN_le hv
  unfold cnN at hk hcn
  have HO := impl_tracedOk ((w.alloc (.cells #[.int .i64 W, .int .i64 H, .slice A n c] 35)).alloc (.cells #[.int .i64 0, .int .i64 0, .slice none 0 0, .slice none 0 0, .slice none 0 0] 84)) W H A n c f (hr.below HL.out (Nat.le_refl _)) (hT.below HL.out hT.1) hv
  obtain ⟨M, hM⟩ : ∃ M, (4 * W * H).toNat = M := ⟨_, rfl⟩
  rw [hM] at hk hcn HO ⊢
  have HO := Lib.hid HO
  have HK := Lib.hid hk
  clear hr hv hT hk hM
  go_enter Tryd.func57, Tryd.ntmps57
  go_wp2_with fail
  refine HO.out.mono ?_
  rintro e w1 ⟨Au, cu, cv, rfl, h1, h2, h3, b1⟩
  have HZ := Lib.hid ((show At ((w.alloc (.cells #[.int .i64 W, .int .i64 H, .slice A n c] 35)).alloc (.cells #[.int .i64 0, .int .i64 0, .slice none 0 0, .slice none 0 0, .slice none 0 0] 84)) (w.heap.size + 1) #[.int .i64 0, .int .i64 0, .slice none 0 0, .slice none 0 0, .slice none 0 0] 84 from At.newAt (by simp)).below b1 (by simp))
  have HB := Lib.hid (HL.out.trans (b1.mono (by first | exact Nat.le_refl _ | (simp; done) | (simp; omega) | omega)))
  have HU := Lib.hid h1
  have HC := Lib.hid h2
  have h3' : w.heap.size + 1 < cv := by simp at h3; omega
  clear b1 h1 h2 h3
  go_wp2_with fail
  have X2 := Lib.hid ((Below.refl w1.heap.size w1).alloc (Nat.le_refl _) (.cells #[.int .i64 W, .int .i64 H, .slice A n c, .slice Au (trs W H f M).cnt cu, .slice (some ⟨cv, 0, none⟩) M M] 84))
  have HX := Lib.hid (At.new w1 #[.int .i64 W, .int .i64 H, .slice A n c, .slice Au (trs W H f M).cnt cu, .slice (some ⟨cv, 0, none⟩) M M] 84)
  refine (hasCurve_is (n1 := (trs W H f M).cnt) (by omega) HK.out).mono ?_
  rintro e w2 ⟨rfl, b2⟩
  have HZ2 := Lib.hid ((HZ.out.below X2.out HZ.out.lt).below b2 (Nat.lt_of_lt_of_le HZ.out.lt X2.out.size))
  have HX2 := Lib.hid (HX.out.below b2 HX.out.lt)
  have HB2 := Lib.hid ((HB.out.trans (X2.out.mono HB.out.size)).trans (b2.mono (Nat.le_trans HB.out.size X2.out.size)))
  have HU2 := Lib.hid (owns_belowS (owns_belowS HU.out X2.out) b2)
  have HC2 := Lib.hid (rowIs_below (rowIs_below HC.out X2.out HC.out.lt) b2 (Nat.lt_of_lt_of_le HC.out.lt X2.out.size))
  have hne : w.heap.size + 1 ≠ w1.heap.size := by have := HZ.out.lt; omega
  clear b2 HZ HX HB HU HC X2
  have z0 := HZ2.out.cellv (i := 0) rfl
  have z1 := HZ2.out.cellv (i := 1) rfl
  have z2 := HZ2.out.cellv (i := 2) rfl
  have z3 := HZ2.out.cellv (i := 3) rfl
  have z4 := HZ2.out.cellv (i := 4) rfl
  have f0 := HZ2.out.frozen 0
  have f1 := HZ2.out.frozen 1
  have f2 := HZ2.out.frozen 2
  have f3 := HZ2.out.frozen 3
  have f4 := HZ2.out.frozen 4
  have lz := HZ2.out.lt
  have x0 := HX2.out.cellv (i := 0) rfl
  have x1 := HX2.out.cellv (i := 1) rfl
  have x2 := HX2.out.cellv (i := 2) rfl
  have x3 := HX2.out.cellv (i := 3) rfl
  have x4 := HX2.out.cellv (i := 4) rfl
  have lx := HX2.out.lt
  go_wp2
  have hug : ∀ g, (Value.slice Au (trs W H f M).cnt cu).ownBlock = some g → g ≠ w.heap.size + 1 := fun g e => by have := (HU2.out.lt g e).1; simp at this; omega
  have hus : (Value.slice Au (trs W H f M).cnt cu).ownBlock ≠ some (w.heap.size + 1) := fun e => hug _ e rfl
  have hcs : cv ≠ w.heap.size + 1 := by omega
  refine bodyPost_ret ?_ rfl ⟨Au, cu, cv, rfl, owns_base (owns_set (owns_set (owns_set (owns_set (owns_set HU2.out (a := ⟨w.heap.size + 1, 0, none⟩) hus _) (a := ⟨w.heap.size + 1, 1, none⟩) hus _) (a := ⟨w.heap.size + 1, 2, none⟩) hus _) (a := ⟨w.heap.size + 1, 3, none⟩) hus _) (a := ⟨w.heap.size + 1, 4, none⟩) hus _) (by simp; omega),
    ((((HC2.out.setOther (a := ⟨w.heap.size + 1, 0, none⟩) hcs _).setOther (a := ⟨w.heap.size + 1, 1, none⟩) hcs _).setOther (a := ⟨w.heap.size + 1, 2, none⟩) hcs _).setOther (a := ⟨w.heap.size + 1, 3, none⟩) hcs _).setOther (a := ⟨w.heap.size + 1, 4, none⟩) hcs _, by omega,
    (((((HB2.out.setCell (by first | exact Nat.le_refl _ | (simp; done) | (simp; omega) | omega) _).setCell (by first | exact Nat.le_refl _ | (simp; done) | (simp; omega) | omega) _).setCell (by first | exact Nat.le_refl _ | (simp; done) | (simp; omega) | omega) _).setCell (by first | exact Nat.le_refl _ | (simp; done) | (simp; omega) | omega) _).setCell (by first | exact Nat.le_refl _ | (simp; done) | (simp; omega) | omega) _)⟩
  simp [results, Tryd.results57, go_sem, z0, z1, z2, z3, z4]
end
end Go.Proofs.YtbpdjmjkjiddjaaDoor.Base
