/-
  JoinGroups of the program, whole.
-/
import Derived.Test.YtneknajeecgnoaaJgu
import Derived.Test.YtneknajeecgnoaaJnd
namespace Go.Proofs.Ytneknajeecgnoaa.Base
open Go Go.RowKit
set_option linter.unusedVariables false
set_option linter.unusedSimpArgs false

theorem row_lit2 (w : World) (a b : Int) (ha : (Lit.int .i64 a).wf = true) (hb : (Lit.int .i64 b).wf = true) : Row .i64 (w.alloc (.cells #[.int .i64 a, .int .i64 b] 2)) (some ⟨w.heap.size, 0, none⟩) 2 2 (fun i => if i = 0 then a else b) := by
  refine ⟨Nat.le_refl _, by unfold maxLen; omega, fun i hi => ?_, fun _ => ⟨w.heap.size, 0, rfl, by simp, fun i hi => ?_⟩⟩
  · show (Lit.int .i64 (if i = 0 then a else b)).wf = true
    split
    · exact ha
    · exact hb
  · have h := (Cel.new w [.int .i64 a, .int .i64 b] 2).2
    obtain rfl | rfl : i = 0 ∨ i = 1 := by omega
    · exact h 0 _ rfl
    · exact h 1 _ rfl
theorem jgv_boxes (w : World) (A B : Option Addr) (n c m d : Nat) (a b : Int) : Cel ((((w.alloc (.cells #[.slice A n c, .slice B m d] 26)).alloc (.cells #[.slice none 0 0, .slice none 0 0] 26)).alloc (.cells #[.int .i64 a, .int .i64 b] 2))) w.heap.size [.slice A n c, .slice B m d] ∧ At ((((w.alloc (.cells #[.slice A n c, .slice B m d] 26)).alloc (.cells #[.slice none 0 0, .slice none 0 0] 26)).alloc (.cells #[.int .i64 a, .int .i64 b] 2))) (w.heap.size + 1) #[.slice none 0 0, .slice none 0 0] 26 ∧ Below w.heap.size w ((((w.alloc (.cells #[.slice A n c, .slice B m d] 26)).alloc (.cells #[.slice none 0 0, .slice none 0 0] 26)).alloc (.cells #[.int .i64 a, .int .i64 b] 2))) ∧ ((((w.alloc (.cells #[.slice A n c, .slice B m d] 26)).alloc (.cells #[.slice none 0 0, .slice none 0 0] 26)).alloc (.cells #[.int .i64 a, .int .i64 b] 2))).heap.size = w.heap.size + 3 := by
  refine ⟨?_, ?_, ?_, by simp⟩
  · exact (udj_cel w A B n c m d).below ((Below.refl _ _).alloc (Nat.le_refl _) _) (by simp; omega)
  · have h := (At.new (w.alloc (.cells #[.slice A n c, .slice B m d] 26)) #[.slice none 0 0, .slice none 0 0] 26).below ((Below.refl _ _).alloc (Nat.le_refl _) (.cells #[.int .i64 a, .int .i64 b] 2)) (by simp)
    rw [World.size_alloc] at h
    exact h
  · exact (udj_bel w A B n c m d).alloc (by simp; omega) _
theorem jgC_no {n m : Nat} {f g : Nat → Int} {a b : Int} (h : vjB n f m g = false) : jgC n f m g a b = 1 := by simp [jgC, goC, h]
theorem jgC_in {n m : Nat} {f g : Nat → Int} {a b : Int} (h : vjB n f m g = true) : jgC n f m g a b = if (List.range 2).all (fun i => inB ((fun i : Nat => if i = 0 then a else b) i) 0 ((n : Int) - 1)) then 0 else 2 := by
  cases ha : inB a 0 ((n : Int) - 1) <;> cases hb : inB b 0 ((n : Int) - 1) <;> simp [jgC, goC, h, ha, hb, List.range_succ]
set_option maxHeartbeats 2000000 in
theorem impl_jg_bad (w : World) (A : Option Addr) (n c : Nat) (f : Nat → Int) (B : Option Addr) (m d : Nat) (g : Nat → Int) (a b z : Int) (ha : (Lit.int .i64 a).wf = true) (hb : (Lit.int .i64 b).wf = true)
    (hr : Row .i64 w A n c f) (hr' : Row .i64 w B m d g) (hz : jgC n f m g a b = z) (h0 : z ≠ 0) :
    Calls Try.prog 15 #[.agg #[.slice A n c, .slice B m d], .int .i64 a, .int .i64 b] w (JnOut 0 f 0 g z w) := by
  obtain ⟨x1, x2, x3, x4⟩ := jgv_boxes w A B n c m d a b
  have hrow := row_lit2 ((w.alloc (.cells #[.slice A n c, .slice B m d] 26)).alloc (.cells #[.slice none 0 0, .slice none 0 0] 26)) a b ha hb
  rw [World.size_alloc, World.size_alloc] at hrow
  have HQ := Lib.hid x2
  have HB := Lib.hid x3
  have hHC : Calls Try.prog 57 #[.agg #[.slice A n c, .slice B m d], .slice (some ⟨w.heap.size + 1 + 1, 0, none⟩) 2 2] ((((w.alloc (.cells #[.slice A n c, .slice B m d] 26)).alloc (.cells #[.slice none 0 0, .slice none 0 0] 26)).alloc (.cells #[.int .i64 a, .int .i64 b] 2))) (Gives (.tuple #[.pointer none, .int .i64 z]) ((((w.alloc (.cells #[.slice A n c, .slice B m d] 26)).alloc (.cells #[.slice none 0 0, .slice none 0 0] 26)).alloc (.cells #[.int .i64 a, .int .i64 b] 2)))) := by
    cases hv : vjB n f m g
    · rw [jgC_no hv] at hz
      rw [← hz]
      exact impl_forestWith_no _ A n c f B m d g _ 2 2 (hr.below x3 (Nat.le_refl _)) (hr'.below x3 (Nat.le_refl _)) hv
    · rw [jgC_in hv] at hz
      have h := impl_forestWith _ A n c f B m d g _ 2 2 _ (hr.below x3 (Nat.le_refl _)) (hr'.below x3 (Nat.le_refl _)) hrow hv (by omega) _ rfl
      split at hz
      · exact absurd hz.symm h0
      · next hn =>
        rw [if_neg hn] at h
        rw [← hz]
        exact h
  have HC := Lib.hid hHC
  have e2 : (z != 0) = true := bne_iff_ne.2 h0
  have kx := x1.1
  have k0 : ((((w.alloc (.cells #[.slice A n c, .slice B m d] 26)).alloc (.cells #[.slice none 0 0, .slice none 0 0] 26)).alloc (.cells #[.int .i64 a, .int .i64 b] 2))).cell? ⟨w.heap.size, 0, none⟩ = some (.slice A n c) := x1.2 0 _ rfl
  clear hr hr' ha hb hz h0 x1 x2 x3 hHC hrow k0 kx
  go_enter Try.func15, Try.ntmps15
  go_wp2_with fail
  refine HC.out.mono ?_
  rintro e w2 ⟨rfl, b2⟩
  have hq := HQ.out.lt
  have HQ2 := Lib.hid (HQ.out.below b2 hq)
  have HB2 := Lib.hid (HB.out.trans (b2.mono HB.out.size))
  have lz := HQ2.out.lt
  have q0 : w2.cell? ⟨w.heap.size + 1, 0, none⟩ = some (.slice none 0 0) := HQ2.out.cellv (i := 0) rfl
  have q1 : w2.cell? ⟨w.heap.size + 1, 1, none⟩ = some (.slice none 0 0) := HQ2.out.cellv (i := 1) rfl
  have f0 := HQ2.out.frozen 0
  have f1 := HQ2.out.frozen 1
  clear b2
  go_wp2
  refine bodyPost_ret (v := .tuple #[.agg #[.slice none 0 0, .slice none 0 0], .int .i64 z]) (by simp [results, Try.results15, go_sem, q0, q1]) rfl ⟨none, 0, none, 0, rfl, ⟨ownRow_nilU, ownRow_nilU, fun h1 h2 => absurd h2 (by omega)⟩, ?_⟩
  exact (HB2.out.setCell (by simp) _).setCell (by simp) _
theorem Fst.up {w w' : World} {base F E n : Nat} {lv : Value} {p : Nat → Nat} (h : Fst w base F E n lv (.slice none 0 0) p []) (hb : Below w.heap.size w w') : Fst w' w'.heap.size F E n lv (.slice none 0 0) p [] := by
  have h1 := h.bel hb
  exact ⟨h1.box, h1.elm, ⟨rfl, .inl ⟨rfl, rfl⟩⟩, h1.box.lt, h1.elm.lt, h1.ne, Nat.le_refl _⟩
/-- parents as numbers -/
theorem jcase_nat {m x y m0 : Nat} {f g f0 g0 : Nat → Int} {n : Nat} (hc : JCase f m g x y f0 m0 g0) (hf : ∀ i, i < n → 0 ≤ f i ∧ f i < n) (hx : x < n) (hy : y < n) :
    ∃ p0, ((x = y ∧ p0 = pNat f ∧ m0 = m ∧ g0 = g) ∨ (x ≠ y ∧ p0 = hvP (pNat f) (max x y) (min x y) ∧ m0 = m + 1 ∧ g0 = putF g m (max x y : Nat))) ∧ cellsOfF n (fun k => (p0 k : Int)) = cellsOfF n f0 ∧ ∀ i, i < n → p0 i < n := by
  rcases hc with ⟨h, e1, e2, e3⟩ | ⟨h, e1, e2, e3⟩
  · rw [e1, e2, e3]
    refine ⟨_, .inl ⟨h, rfl, rfl, rfl⟩, ?_, fun i hi => ?_⟩
    · unfold cellsOfF
      refine List.map_congr_left fun i hi => ?_
      have := hf i (List.mem_range.1 hi)
      show Value.int .i64 (((f i).toNat : Nat) : Int) = .int .i64 (f i)
      rw [Int.toNat_of_nonneg this.1]
    · have := hf i hi
      unfold pNat
      omega
  · rw [e1, e2, e3]
    refine ⟨_, .inr ⟨h, rfl, rfl, rfl⟩, ?_, fun i hi => ?_⟩
    · unfold cellsOfF
      refine List.map_congr_left fun i hi => ?_
      have := hf i (List.mem_range.1 hi)
      show Value.int .i64 (((if i = max x y then min x y else (f i).toNat : Nat) : Nat) : Int) = .int .i64 (if i = max x y then ((min x y : Nat) : Int) else f i)
      by_cases e : i = max x y
      · rw [if_pos e, if_pos e]
      · rw [if_neg e, if_neg e, Int.toNat_of_nonneg this.1]
    · have := hf i hi
      unfold hvP pNat
      split <;> omega
set_option maxHeartbeats 2000000 in
theorem impl_jg_ok (w : World) (A : Option Addr) (n c : Nat) (f : Nat → Int) (B : Option Addr) (m d : Nat) (g : Nat → Int) (a b x y : Nat) (f0 : Nat → Int) (m0 : Nat) (g0 : Nat → Int)
    (hr : Row .i64 w A n c f) (hr' : Row .i64 w B m d g) (hz : jgC n f m g a b = 0) (hx : upN f m a = x) (hy : upN f m b = y) (hc : JCase f m g x y f0 m0 g0) :
    Calls Try.prog 15 #[.agg #[.slice A n c, .slice B m d], .int .i64 (a : Int), .int .i64 (b : Int)] w (JnOut n f0 m0 g0 0 w) := by
  obtain ⟨hv, hia, hib⟩ := jgC_ok hz
  obtain ⟨a1, a2⟩ := in_yes hia
  obtain ⟨b1, b2⟩ := in_yes hib
  have han : a < n := by omega
  have hbn : b < n := by omega
  have hvj := vj_yes hv
  have HV := Lib.hid hvj
  have hn1 := hvj.n1
  have hn2 := hvj.n2
  have hm2 := hvj.le
  have hxn : x < n := by rw [← hx]; exact up_lt hvj han m
  have hyn : y < n := by rw [← hy]; exact up_lt hvj hbn m
  have HWF := Lib.hid (jcase_wf (n := n) hc (by omega) (by omega) hr.2.2.1 hr'.2.2.1)
  obtain ⟨p0, hp0, hpc, hpl⟩ := jcase_nat hc (fun i hi => ⟨(hvj.pars i hi).1, (hvj.pars i hi).2.1⟩) hxn hyn
  have HPC := Lib.hid hpc
  have HPL := Lib.hid hpl
  have HP0 := Lib.hid hp0
  have hra := hvj.rt han
  have hrb := hvj.rt hbn
  rw [hx] at hra
  rw [hy] at hrb
  have HRA := Lib.hid hra
  have HRB := Lib.hid hrb
  obtain ⟨x1, x2, x3, x4⟩ := jgv_boxes w A B n c m d a b
  have hrow := row_lit2 ((w.alloc (.cells #[.slice A n c, .slice B m d] 26)).alloc (.cells #[.slice none 0 0, .slice none 0 0] 26)) (a : Int) (b : Int) (WalkArith.wf_i64 (by omega)) (WalkArith.wf_i64 (by omega))
  rw [World.size_alloc, World.size_alloc] at hrow
  have h := impl_forestWith _ A n c f B m d g _ 2 2 _ (hr.below x3 (Nat.le_refl _)) (hr'.below x3 (Nat.le_refl _)) hrow hv (by omega) true (by simp [List.range_succ, hia, hib])
  rw [if_pos rfl] at h
  have HC := Lib.hid h
  have HQ := Lib.hid x2
  have HB := Lib.hid x3
  have HX4 := Lib.hid x4
  clear hr hr' hz hia hib a1 a2 b1 b2 hv hvj hx hy hc hp0 hpc hpl hra hrb x1 x2 x3 x4 hrow h
  go_enter Try.func15, Try.ntmps15
  go_wp2_with fail
  refine HC.out.mono ?_
  rintro e w1 ⟨F, E, lv, base, rfl, hfs, hlo, hne, hF, hE, b1⟩
  rw [HX4.out] at hF hE hlo
  have hq := HQ.out.lt
  have hz1 := b1.size
  rw [HX4.out] at hz1
  have HQ1 := Lib.hid (HQ.out.below b1 hq)
  have HB1 := Lib.hid (HB.out.trans (b1.mono HB.out.size))
  have HFS := Lib.hid hfs
  have HLO := Lib.hid hlo
  have HNE := Lib.hid hne
  clear b1 hfs hlo hne HC HX4 hq
  have bA := (Below.refl w1.heap.size w1).alloc (Nat.le_refl _) (.cells #[.int .i64 (a : Int), .int .i64 (b : Int)] 2)
  have bB := bA.alloc (by simp) (.cells #[.slice (some ⟨w1.heap.size, 0, none⟩) 2 2] 24)
  have hQA := (At.new w1 #[.int .i64 (a : Int), .int .i64 (b : Int)] 2).below ((Below.refl _ _).alloc (Nat.le_refl _) (.cells #[.slice (some ⟨w1.heap.size, 0, none⟩) 2 2] 24)) (by simp)
  have hPA := At.new (w1.alloc (.cells #[.int .i64 (a : Int), .int .i64 (b : Int)] 2)) #[.slice (some ⟨w1.heap.size, 0, none⟩) 2 2] 24
  rw [World.size_alloc] at hPA
  have HBB := Lib.hid bB
  have HQA := Lib.hid hQA
  have HPA := Lib.hid hPA
  have HSZ := Lib.hid (show ((w1.alloc (.cells #[.int .i64 (a : Int), .int .i64 (b : Int)] 2)).alloc (.cells #[.slice (some ⟨w1.heap.size, 0, none⟩) 2 2] 24)).heap.size = w1.heap.size + 2 by simp)
  clear bA bB hQA hPA
  go_wp2_with fail
  generalize (w1.alloc (.cells #[.int .i64 (a : Int), .int .i64 (b : Int)] 2)).alloc (.cells #[.slice (some ⟨w1.heap.size, 0, none⟩) 2 2] 24) = w2 at *
  have hfF := HFS.out.box.lt
  have hfE := HFS.out.elm.lt
  refine (impl_join1 w2 (w.heap.size + 3) w2.heap.size F E (w1.heap.size + 1) w1.heap.size n m lv (fun x => nrN f x m) (pNat f) g a b x y (HFS.out.up HBB.out) (owns_belowS HLO.out HBB.out) (fun q hq => ⟨by have := (HLO.out.lt q hq).2; have := HSZ.out; omega, (HNE.out q hq).2⟩) hF hE HPA.out HQA.out (by have := HSZ.out; omega) (by omega) (by omega) HV.out.fr han hbn HRA.out HRB.out hn2 (by omega) p0 m0 g0 HP0.out (fun x hx => by have := nr_le (f := f) x m; omega)).mono ?_
  rintro e w3 ⟨lv3, v3, rfl, hE3, hF3, hlog3, hfar3, b3⟩
  have HQ2 := Lib.hid (HQ1.out.below HBB.out HQ1.out.lt)
  have hl2 := HQ2.out.lt
  have HQ3 := Lib.hid (HQ2.out.below b3 (by omega))
  have HB3 := Lib.hid ((HB1.out.trans (HBB.out.mono HB1.out.size)).trans (b3.mono (by omega)))
  obtain ⟨B3, d3, rfl⟩ := owns_slice hlog3
  have HE3 := Lib.hid hE3
  have HF3 := Lib.hid hF3
  have HL3 := Lib.hid hlog3
  have hz3 := b3.size
  clear b3 hE3 hF3 hlog3 hfar3 HQ1 HQ2 HB1 HFS HLO HNE HBB HQA HPA
  go_wp2_with fail
  refine (impl_joined w3 F E n B3 m0 d3 p0 HE3.out HF3.out HPL.out hn1 hn2).mono ?_
  rintro e w4 ⟨v4, rfl, hown, b4⟩
  obtain ⟨A4, c4, rfl⟩ := owns_slice hown
  rw [HPC.out] at hown
  have HO4 := Lib.hid hown
  have HQ4 := Lib.hid (HQ3.out.below b4 HQ3.out.lt)
  have HL4 := Lib.hid (owns_belowS HL3.out b4)
  have HB4 := Lib.hid (HB3.out.trans (b4.mono HB3.out.size))
  have HLT := Lib.hid (fun q hq => (HL3.out.lt q hq).2)
  have lz := HQ4.out.lt
  have q0 : w4.cell? ⟨w.heap.size + 1, 0, none⟩ = some (.slice none 0 0) := HQ4.out.cellv (i := 0) rfl
  have q1 : w4.cell? ⟨w.heap.size + 1, 1, none⟩ = some (.slice none 0 0) := HQ4.out.cellv (i := 1) rfl
  have f0' := HQ4.out.frozen 0
  have f1' := HQ4.out.frozen 1
  have hq3 := HQ3.out.lt
  clear b4 hown
  go_wp2
  refine bodyPost_ret (v := .tuple #[.agg #[.slice A4 n c4, .slice B3 m0 d3], .int .i64 0]) (by simp [results, Try.results15, go_sem, q0, q1]) rfl ⟨A4, c4, B3, d3, rfl, ⟨?_, ?_, ?_⟩, ?_⟩
  · exact (((ownRow_any HO4.out HWF.out.1).setLow (by omega) _ _).setLow (by omega) _ _).mono (by omega)
  · exact (((ownRow_any HL4.out HWF.out.2).setLow (by omega) _ _).setLow (by omega) _ _).mono (by omega)
  · intro h1 h2 q hx hy
    have hx' : (Value.slice A4 n c4).ownBlock = some q := by
      cases A4 with
      | none => simp [blk] at hx
      | some ad => simpa [blk, Value.ownBlock] using hx
    have hy' : (Value.slice B3 m0 d3).ownBlock = some q := by
      cases B3 with
      | none => simp [blk] at hy
      | some ad => simpa [blk, Value.ownBlock] using hy
    have := (HO4.out.lt q hx').1
    have := HLT.out q hy'
    omega
  · exact (HB4.out.setCell (by simp) _).setCell (by simp) _
end Go.Proofs.Ytneknajeecgnoaa.Base
