/-
  JoinGroups of the model, whole.
-/
import Derived.Test.YtpkajonnopmciaaJgt
import Derived.Test.YtpkajonnopmciaaUdk
namespace Go.Proofs.Ytpkajonnopmciaa.Base
open Go Go.RowKit
set_option linter.unusedVariables false
set_option linter.unusedSimpArgs false

/-- the code of JoinGroups -/
noncomputable def jgC (n : Nat) (f : Nat → Int) (m : Nat) (g : Nat → Int) (a b : Int) : Int := if goC n f m g (inB a 0 ((n : Int) - 1)) = 0 then goC n f m g (inB b 0 ((n : Int) - 1)) else goC n f m g (inB a 0 ((n : Int) - 1))
theorem ownRow_any {w : World} {base n c : Nat} {f : Nat → Int} {A : Option Addr} {e : TypeId} (h : w.ownsRow base e 1 (.slice A n c) n (cellsOfF n f)) (hw : ∀ i, i < n → (Lit.int .i64 (f i)).wf = true) : OwnRow w base A n c f := by
  by_cases hn : 0 < n
  · obtain ⟨A', c', e1, h1⟩ := ownRow_of_owns h hn hw
    injection e1 with e1 e2 e3
    subst e1 e3
    exact h1
  · obtain rfl : n = 0 := by omega
    refine ownRow_zero ?_
    rcases h.2 with ⟨e1, -⟩ | ⟨g, cap, cur, e1, -, -, -, hm, -⟩
    · injection e1 with _ _ e3
      rw [e3]
      exact Nat.zero_le _
    · injection e1 with _ _ e3
      rw [e3]
      exact hm
theorem jcase_wf {n m m0 x y : Nat} {f g f0 g0 : Nat → Int} (hc : JCase f m g x y f0 m0 g0) (hx : x < 1000000) (hy : y < 1000000) (hf : ∀ i, i < n → (Lit.int .i64 (f i)).wf = true) (hg : ∀ i, i < m → (Lit.int .i64 (g i)).wf = true) :
    (∀ i, i < n → (Lit.int .i64 (f0 i)).wf = true) ∧ (∀ i, i < m0 → (Lit.int .i64 (g0 i)).wf = true) := by
  rcases hc with ⟨-, rfl, rfl, rfl⟩ | ⟨-, rfl, rfl, rfl⟩
  · exact ⟨hf, hg⟩
  · refine ⟨fun i hi => ?_, fun i hi => ?_⟩
    · unfold putF
      split
      · exact WalkArith.wf_i64 (by omega)
      · exact hf i hi
    · unfold putF
      split
      · exact WalkArith.wf_i64 (by omega)
      · exact hg i (by omega)
set_option maxHeartbeats 2000000 in
theorem spec_jg_bad (w : World) (A : Option Addr) (n c : Nat) (f : Nat → Int) (B : Option Addr) (m d : Nat) (g : Nat → Int) (a b z : Int)
    (hr : Row .i64 w A n c f) (hr' : Row .i64 w B m d g) (hz : jgC n f m g a b = z) (h0 : z ≠ 0) :
    Calls Try.prog 48 #[.agg #[.slice A n c, .slice B m d], .int .i64 a, .int .i64 b] w (JnOut 0 f 0 g z w) := by
  have e1 : (z == 0) = false := beq_eq_false_iff_ne.2 h0
  have e2 : (z != 0) = true := bne_iff_ne.2 h0
  have HR := Lib.hid hr
  have HR' := Lib.hid hr'
  unfold jgC at hz
  by_cases hA : goC n f m g (inB a 0 ((n : Int) - 1)) = 0
  · rw [if_pos hA] at hz
    have HC := Lib.hid (codeJ_is hA (udj_cel w A B n c m d) (hr.below (udj_bel w A B n c m d) (Nat.le_refl _)) (hr'.below (udj_bel w A B n c m d) (Nat.le_refl _)))
    have HZ := Lib.hid hz
    clear hr hr' hA hz h0
    go_enter Try.func48, Try.ntmps48
    go_wp2_with fail
    refine HC.out.mono ?_
    rintro e w1 ⟨rfl, b1⟩
    obtain ⟨hx, hq, hB⟩ := udj_boxes b1
    have HX := Lib.hid hx
    have HQ := Lib.hid hq
    have HB := Lib.hid hB
    clear b1 hx hq hB
    go_wp2_with fail
    refine (codeJ_is HZ.out HX.out (HR.out.below HB.out (Nat.le_refl _)) (HR'.out.below HB.out (Nat.le_refl _))).mono ?_
    rintro e w2 ⟨rfl, b2⟩
    have HQ2 := Lib.hid (HQ.out.below b2 HQ.out.lt)
    have HB2 := Lib.hid (HB.out.trans (b2.mono HB.out.size))
    have lz := HQ2.out.lt
    have q0 : w2.cell? ⟨w.heap.size + 1, 0, none⟩ = some (.slice none 0 0) := HQ2.out.cellv (i := 0) rfl
    have q1 : w2.cell? ⟨w.heap.size + 1, 1, none⟩ = some (.slice none 0 0) := HQ2.out.cellv (i := 1) rfl
    have f0 := HQ2.out.frozen 0
    have f1 := HQ2.out.frozen 1
    clear b2
    go_wp2
    refine bodyPost_ret (v := .tuple #[.agg #[.slice none 0 0, .slice none 0 0], .int .i64 z]) (by simp [results, Try.results48, go_sem, q0, q1]) rfl ⟨none, 0, none, 0, rfl, ⟨ownRow_nilU, ownRow_nilU, fun h1 h2 => absurd h2 (by omega)⟩, ?_⟩
    exact (HB2.out.setCell (by simp) _).setCell (by simp) _
  · rw [if_neg hA] at hz
    have HC := Lib.hid (codeJ_is hz (udj_cel w A B n c m d) (hr.below (udj_bel w A B n c m d) (Nat.le_refl _)) (hr'.below (udj_bel w A B n c m d) (Nat.le_refl _)))
    clear hr hr' hA hz h0
    go_enter Try.func48, Try.ntmps48
    go_wp2_with fail
    refine HC.out.mono ?_
    rintro e w2 ⟨rfl, b1⟩
    obtain ⟨hx, hq, hB⟩ := udj_boxes b1
    have HQ2 := Lib.hid hq
    have HB2 := Lib.hid hB
    clear b1 hx hq hB
    have lz := HQ2.out.lt
    have q0 : w2.cell? ⟨w.heap.size + 1, 0, none⟩ = some (.slice none 0 0) := HQ2.out.cellv (i := 0) rfl
    have q1 : w2.cell? ⟨w.heap.size + 1, 1, none⟩ = some (.slice none 0 0) := HQ2.out.cellv (i := 1) rfl
    have f0 := HQ2.out.frozen 0
    have f1 := HQ2.out.frozen 1
    go_wp2
    refine bodyPost_ret (v := .tuple #[.agg #[.slice none 0 0, .slice none 0 0], .int .i64 z]) (by simp [results, Try.results48, go_sem, q0, q1]) rfl ⟨none, 0, none, 0, rfl, ⟨ownRow_nilU, ownRow_nilU, fun h1 h2 => absurd h2 (by omega)⟩, ?_⟩
    exact (HB2.out.setCell (by simp) _).setCell (by simp) _
theorem jgC_ok {n m : Nat} {f g : Nat → Int} {a b : Int} (h : jgC n f m g a b = 0) : vjB n f m g = true ∧ inB a 0 ((n : Int) - 1) = true ∧ inB b 0 ((n : Int) - 1) = true := by
  unfold jgC goC at h
  cases hv : vjB n f m g <;> cases ha : inB a 0 ((n : Int) - 1) <;> cases hb : inB b 0 ((n : Int) - 1) <;> simp [hv, ha, hb] at h ⊢
set_option maxHeartbeats 2000000 in
theorem spec_jg_ok (w : World) (A : Option Addr) (n c : Nat) (f : Nat → Int) (B : Option Addr) (m d : Nat) (g : Nat → Int) (a b x y : Nat) (f0 : Nat → Int) (m0 : Nat) (g0 : Nat → Int)
    (hr : Row .i64 w A n c f) (hr' : Row .i64 w B m d g) (hz : jgC n f m g a b = 0) (hx : upN f m a = x) (hy : upN f m b = y) (hc : JCase f m g x y f0 m0 g0) :
    Calls Try.prog 48 #[.agg #[.slice A n c, .slice B m d], .int .i64 (a : Int), .int .i64 (b : Int)] w (JnOut n f0 m0 g0 0 w) := by
  have HR := Lib.hid hr
  have HR' := Lib.hid hr'
  obtain ⟨hv, hia, hib⟩ := jgC_ok hz
  have hA : goC n f m g (inB (a : Int) 0 ((n : Int) - 1)) = 0 := by rw [hia]; exact goC_in hv
  have hB : goC n f m g (inB (b : Int) 0 ((n : Int) - 1)) = 0 := by rw [hib]; exact goC_in hv
  have HBC := Lib.hid hB
  obtain ⟨a1, a2⟩ := in_yes hia
  obtain ⟨b1, b2⟩ := in_yes hib
  have han : a < n := by omega
  have hbn : b < n := by omega
  have hvj := vj_yes hv
  have HV := Lib.hid hvj
  have hn2 := hvj.n2
  have hm2 := hvj.le
  have hxn : x < n := by rw [← hx]; exact up_lt hvj han m
  have hyn : y < n := by rw [← hy]; exact up_lt hvj hbn m
  have HWF := Lib.hid (jcase_wf (n := n) hc (by omega) (by omega) hr.2.2.1 hr'.2.2.1)
  have HXX := Lib.hid hx
  have HYY := Lib.hid hy
  have HCS := Lib.hid hc
  have HC := Lib.hid (codeJ_is hA (udj_cel w A B n c m d) (hr.below (udj_bel w A B n c m d) (Nat.le_refl _)) (hr'.below (udj_bel w A B n c m d) (Nat.le_refl _)))
  clear hr hr' hA hB hz hia hib a1 a2 b1 b2 hv hvj hx hy hc
  go_enter Try.func48, Try.ntmps48
  go_wp2_with fail
  refine HC.out.mono ?_
  rintro e w1 ⟨rfl, b1⟩
  obtain ⟨hx, hq, hB⟩ := udj_boxes b1
  have HX := Lib.hid hx
  have HQ := Lib.hid hq
  have HB := Lib.hid hB
  clear b1 hx hq hB
  go_wp2_with fail
  refine (codeJ_is HBC.out HX.out (HR.out.below HB.out (Nat.le_refl _)) (HR'.out.below HB.out (Nat.le_refl _))).mono ?_
  rintro e w2 ⟨rfl, b2⟩
  have HX2 := Lib.hid (HX.out.below b2 HX.out.1)
  have HQ2 := Lib.hid (HQ.out.below b2 HQ.out.lt)
  have HB2 := Lib.hid (HB.out.trans (b2.mono HB.out.size))
  clear b2 HX HQ HB
  go_wp2_with fail
  refine (spec_ownJ2 w2 w.heap.size A n c f B m d g HX2.out (HR.out.below HB2.out (Nat.le_refl _)) (HR'.out.below HB2.out (Nat.le_refl _)) (by omega) (by omega)).mono ?_
  rintro e w3 ⟨A1, c1, B1, d1, rfl, o1, o2, hap, b3⟩
  have hq2 := HQ2.out.lt
  have hz3 := b3.size
  have HQ3 := Lib.hid (HQ2.out.below b3 HQ2.out.lt)
  have HB3 := Lib.hid (HB2.out.trans (b3.mono HB2.out.size))
  have HO1 := Lib.hid o1
  have HO2 := Lib.hid o2
  have HAP := Lib.hid hap
  clear b3 o1 o2 hap HQ2 HB2 HX2
  go_wp2_with fail
  have bN := (Below.refl w3.heap.size w3).alloc (Nat.le_refl _) (.cells #[.slice A1 n c1, .slice B1 m d1] 59)
  have hnew := At.new w3 #[.slice A1 n c1, .slice B1 m d1] 59
  refine (spec_join _ (w.heap.size + 2) (w2.heap.size + 1) w3.heap.size A1 n c1 f B1 m d1 g a b x y f0 m0 g0 hnew (owns_belowS HO1.out bN) (owns_belowS HO2.out bN) HAP.out (by omega) (by omega) (by simp; omega) (fun q hq => by have := (HO1.out.lt q hq).2; omega) (fun q hq => by have := (HO2.out.lt q hq).2; omega) HV.out han hbn HXX.out HYY.out HCS.out).mono ?_
  rintro e w5 ⟨⟨v, rfl⟩, B5, d5, p1, p2, p3, p4, b5⟩
  have HQ5 := Lib.hid ((HQ3.out.below bN HQ3.out.lt).below (b5) (by omega))
  have HB5 := Lib.hid ((HB3.out.alloc (by omega) (.cells #[.slice A1 n c1, .slice B1 m d1] 59)).trans (b5.mono (by omega)))
  have HP2 := Lib.hid p2
  have HP3 := Lib.hid p3
  have HP4 := Lib.hid p4
  have HP1 := Lib.hid p1
  have hz5 := b5.size
  have k0 := p1.cellv (i := 0) rfl
  have k1 := p1.cellv (i := 1) rfl
  have kz := p1.lt
  have lz := HQ5.out.lt
  have q0 : w5.cell? ⟨w.heap.size + 1, 0, none⟩ = some (.slice none 0 0) := HQ5.out.cellv (i := 0) rfl
  have q1 : w5.cell? ⟨w.heap.size + 1, 1, none⟩ = some (.slice none 0 0) := HQ5.out.cellv (i := 1) rfl
  have f0' := HQ5.out.frozen 0
  have f1' := HQ5.out.frozen 1
  clear bN hnew p1 p2 p3 p4 b5
  go_wp2
  refine bodyPost_ret (v := .tuple #[.agg #[.slice A1 n c1, .slice B5 m0 d5], .int .i64 0]) (by simp [results, Try.results48, go_sem, q0, q1]) rfl ⟨A1, c1, B5, d5, rfl, ⟨?_, ?_, ?_⟩, ?_⟩
  · exact (((ownRow_any HP2.out HWF.out.1).setLow (by omega) _ _).setLow (by omega) _ _).mono (by omega)
  · exact (((ownRow_any HP3.out HWF.out.2).setLow (by omega) _ _).setLow (by omega) _ _).mono (by omega)
  · intro h1 h2 q hx hy
    refine HP4.out q ?_ ?_
    · cases A1 with
      | none => simp [blk] at hx
      | some ad => simpa [blk, Value.ownBlock] using hx
    · cases B5 with
      | none => simp [blk] at hy
      | some ad => simpa [blk, Value.ownBlock] using hy
  · exact (HB5.out.setCell (by simp) _).setCell (by simp) _
end Go.Proofs.Ytpkajonnopmciaa.Base
