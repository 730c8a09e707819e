/-
  PlainWalk, the model's and the program's.
-/
import Derived.Test.YtfgbfmpolhilcabPlw
import Derived.Test.YtfgbfmpolhilcabHeap
namespace Go.Proofs.Ytfgbfmpolhilcab.Base
open Go Go.RowKit
set_option linter.unusedVariables false
set_option linter.unusedSimpArgs false

section
variable {W H x y dx dy s : Int}
theorem pw_no (h : pwC W H x y dx dy s ≠ 0) : pwX W H x y dx dy s = 0 ∧ pwY W H x y dx dy s = 0 ∧ pwDX W H x y dx dy s = 0 ∧ pwDY W H x y dx dy s = 0 := by
  simp only [pwX, pwY, pwDX, pwDY, pwV, if_neg h, and_self]
theorem pw_yes (h : pwC W H x y dx dy s = 0) : pwX W H x y dx dy s = mvE (2 * W) x dx s ∧ pwY W H x y dx dy s = mvE (2 * H) y dy s ∧ pwDX W H x y dx dy s = mvG (2 * W) x dx s ∧ pwDY W H x y dx dy s = mvG (2 * H) y dy s := by
  simp only [pwX, pwY, pwDX, pwDY, pwV, if_pos h, and_self]
end
/-- what stands behind the first call: the walker's box and the result's -/
theorem pw_boxes {w w1 : World} {x y dx dy : Int} (b1 : Below ((w.alloc (.cells #[.int .i64 x, .int .i64 y, .int .i64 dx, .int .i64 dy] 61)).alloc (.cells #[.int .i64 0, .int .i64 0, .int .i64 0, .int .i64 0] 61)).heap.size ((w.alloc (.cells #[.int .i64 x, .int .i64 y, .int .i64 dx, .int .i64 dy] 61)).alloc (.cells #[.int .i64 0, .int .i64 0, .int .i64 0, .int .i64 0] 61)) w1) :
    At w1 w.heap.size #[.int .i64 x, .int .i64 y, .int .i64 dx, .int .i64 dy] 61 ∧ At w1 (w.heap.size + 1) #[.int .i64 0, .int .i64 0, .int .i64 0, .int .i64 0] 61 ∧ Below w.heap.size w w1 := by
  have h0 := ((At.new w #[.int .i64 x, .int .i64 y, .int .i64 dx, .int .i64 dy] 61).below ((Below.refl _ _).alloc (Nat.le_refl _) (.cells #[.int .i64 0, .int .i64 0, .int .i64 0, .int .i64 0] 61)) (by simp)).below b1 (by simp; omega)
  have h1 := (At.new (w.alloc (.cells #[.int .i64 x, .int .i64 y, .int .i64 dx, .int .i64 dy] 61)) #[.int .i64 0, .int .i64 0, .int .i64 0, .int .i64 0] 61).below b1 (by simp)
  rw [World.size_alloc] at h1
  exact ⟨h0, h1, (((Below.refl w.heap.size w).alloc (Nat.le_refl _) (.cells #[.int .i64 x, .int .i64 y, .int .i64 dx, .int .i64 dy] 61)).alloc (by simp) (.cells #[.int .i64 0, .int .i64 0, .int .i64 0, .int .i64 0] 61)).trans (b1.mono (by simp; omega))⟩
set_option maxHeartbeats 2000000 in
theorem impl_PlainWalk (w : World) (W H x y dx dy s : Int) (wa : (Lit.int .i64 W).wf = true) (wb : (Lit.int .i64 H).wf = true) : Calls Try.prog 57 #[.int .i64 W, .int .i64 H, .agg #[.int .i64 x, .int .i64 y, .int .i64 dx, .int .i64 dy], .int .i64 s] w (Gives (.tuple #[.agg #[.int .i64 (pwX W H x y dx dy s), .int .i64 (pwY W H x y dx dy s), .int .i64 (pwDX W H x y dx dy s), .int .i64 (pwDY W H x y dx dy s)], .int .i64 (pwC W H x y dx dy s)]) w) := by
  have HC := Lib.hid (fun w => impl_plainCode w W H x y dx dy wa wb)
  by_cases hp : pwC W H x y dx dy s = 0
  · obtain ⟨e1, e2, e3, e4⟩ := pw_yes hp
    rw [e1, e2, e3, e4, hp]
    have hc : plC W H x y dx dy = 0 := by
      unfold pwC at hp
      split at hp
      · assumption
      · exact hp
    have hs : inB s 0 1000000000000 = true := by
      unfold pwC at hp
      rw [if_pos hc] at hp
      cases h : inB s 0 1000000000000
      · rw [h] at hp; simp at hp
      · rfl
    obtain ⟨ha, hb, hg⟩ := plC_zero hc
    obtain ⟨a1, a2⟩ := big_mk ha
    obtain ⟨c1, c2⟩ := big_mk hb
    obtain ⟨t1, t2, p1, p2⟩ := go_yes hg
    obtain ⟨x1, x2, y1, y2, hm⟩ := has_yes p1
    obtain ⟨s1, s2⟩ := in_yes hs
    rw [hc] at HC
    have HX := Lib.hid (fun w b hb => impl_fro w b x dx (2 * W) s hb (by omega) (by omega) x1 x2 s1 s2)
    have HY := Lib.hid (fun w b hb => impl_fro w b y dy (2 * H) s hb (by omega) (by omega) y1 y2 s1 s2)
    clear hp e1 e2 e3 e4 hc hs ha hb hg t1 t2 p1 p2 hm
    go_enter Try.func57, Try.ntmps57
    go_wp2_with fail
    refine (HC.out _).mono ?_
    rintro e w1 ⟨rfl, b1⟩
    obtain ⟨hw, hz, hB⟩ := pw_boxes b1
    have HW1 := Lib.hid hw
    have HZ1 := Lib.hid hz
    have HB := Lib.hid hB
    clear b1 hw hz hB
    go_wp2_with fail
    refine (impl_toAndFro _ (2 * W)).mono ?_
    rintro e w2 ⟨rfl, c2', b2⟩
    have HW2 := Lib.hid (HW1.out.below b2 HW1.out.lt)
    have HZ2 := Lib.hid (HZ1.out.below b2 HZ1.out.lt)
    have HB2 := Lib.hid (HB.out.trans (b2.mono HB.out.size))
    have HA2 := Lib.hid c2'
    clear c2' b2 HW1 HZ1
    go_wp2_with fail
    refine (impl_toAndFro _ (2 * H)).mono ?_
    rintro e w3 ⟨rfl, c3, b3⟩
    have HW3 := Lib.hid (HW2.out.below b3 HW2.out.lt)
    have HZ3 := Lib.hid (HZ2.out.below b3 HZ2.out.lt)
    have HB3 := Lib.hid (HB2.out.trans (b3.mono HB2.out.size))
    have HA3 := Lib.hid (HA2.out.below b3 HA2.out.1)
    have HD3 := Lib.hid c3
    have hd3 := c3.1
    clear c3 b3 HW2 HZ2 HB2 HA2 HB
    have bN := (Below.refl w3.heap.size w3).alloc (Nat.le_refl _) (.cells #[.int .i64 0, .int .i64 0, .int .i64 0, .int .i64 0] 61)
    have HO4 := Lib.hid (At.new w3 #[.int .i64 0, .int .i64 0, .int .i64 0, .int .i64 0] 61)
    have HW4 := Lib.hid (HW3.out.below bN HW3.out.lt)
    have HZ4 := Lib.hid (HZ3.out.below bN HZ3.out.lt)
    have HB4 := Lib.hid (HB3.out.trans (bN.mono HB3.out.size))
    have HA4 := Lib.hid (HA3.out.below bN HA3.out.1)
    have HD4 := Lib.hid (HD3.out.below bN HD3.out.1)
    have hz3 := HB3.out.size
    have hzw := HW3.out.lt
    have hzz := HZ3.out.lt
    clear bN HA3
    have k0 : (w3.alloc (.cells #[.int .i64 0, .int .i64 0, .int .i64 0, .int .i64 0] 61)).cell? ⟨w.heap.size, 0, none⟩ = some (.int .i64 x) := HW4.out.cellv (i := 0) rfl
    have k2 : (w3.alloc (.cells #[.int .i64 0, .int .i64 0, .int .i64 0, .int .i64 0] 61)).cell? ⟨w.heap.size, 2, none⟩ = some (.int .i64 dx) := HW4.out.cellv (i := 2) rfl
    have kz := HW4.out.lt
    go_wp2_with fail
    clear k0 k2
    refine (HX.out _ _ HA4.out).mono ?_
    rintro e w5 ⟨rfl, rfl⟩
    clear kz
    have bS := (Below.refl w3.heap.size w3).alloc (Nat.le_refl _) (.cells #[.int .i64 (mvE (2 * W) x dx s), .int .i64 0, .int .i64 (mvG (2 * W) x dx s), .int .i64 0] 61)
    have HW5 := Lib.hid (HW3.out.below bS hzw)
    have HZ5 := Lib.hid (HZ3.out.below bS hzz)
    have HD5 := Lib.hid (HD3.out.below bS hd3)
    have HB5 := Lib.hid (HB3.out.trans (bS.mono hz3))
    clear bS HW4 HZ4 HD4 HO4 HB4
    have k1 : (w3.alloc (.cells #[.int .i64 (mvE (2 * W) x dx s), .int .i64 0, .int .i64 (mvG (2 * W) x dx s), .int .i64 0] 61)).cell? ⟨w.heap.size, 1, none⟩ = some (.int .i64 y) := HW5.out.cellv (i := 1) rfl
    have k3 : (w3.alloc (.cells #[.int .i64 (mvE (2 * W) x dx s), .int .i64 0, .int .i64 (mvG (2 * W) x dx s), .int .i64 0] 61)).cell? ⟨w.heap.size, 3, none⟩ = some (.int .i64 dy) := HW5.out.cellv (i := 3) rfl
    go_wp2_with fail
    clear k1 k3
    refine (HY.out _ _ HD5.out).mono ?_
    rintro e w6 ⟨rfl, rfl⟩
    have q0 : w3.cell? ⟨w.heap.size + 1, 0, none⟩ = some (.int .i64 0) := HZ3.out.cellv (i := 0) rfl
    have q1 : w3.cell? ⟨w.heap.size + 1, 1, none⟩ = some (.int .i64 0) := HZ3.out.cellv (i := 1) rfl
    have q2 : w3.cell? ⟨w.heap.size + 1, 2, none⟩ = some (.int .i64 0) := HZ3.out.cellv (i := 2) rfl
    have q3 : w3.cell? ⟨w.heap.size + 1, 3, none⟩ = some (.int .i64 0) := HZ3.out.cellv (i := 3) rfl
    have f0 := HZ3.out.frozen 0
    have f1 := HZ3.out.frozen 1
    have f2 := HZ3.out.frozen 2
    have f3 := HZ3.out.frozen 3
    go_wp2
    clear q0 q1 q2 q3 f0 f1 f2 f3
    have hz5 := (((HZ3.out.set 0 (.int .i64 (mvE (2 * W) x dx s))).set 1 (.int .i64 (mvE (2 * H) y dy s))).set 2 (.int .i64 (mvG (2 * W) x dx s))).set 3 (.int .i64 (mvG (2 * H) y dy s))
    have hz6 := hz5.below ((Below.refl _ _).alloc (Nat.le_refl _) (.cells #[.int .i64 (mvE (2 * W) x dx s), .int .i64 (mvE (2 * H) y dy s), .int .i64 (mvG (2 * W) x dx s), .int .i64 (mvG (2 * H) y dy s)] 61)) hz5.lt
    have r0 := hz6.cellv (i := 0) (v := .int .i64 (mvE (2 * W) x dx s)) rfl
    have r1 := hz6.cellv (i := 1) (v := .int .i64 (mvE (2 * H) y dy s)) rfl
    have r2 := hz6.cellv (i := 2) (v := .int .i64 (mvG (2 * W) x dx s)) rfl
    have r3 := hz6.cellv (i := 3) (v := .int .i64 (mvG (2 * H) y dy s)) rfl
    refine bodyPost_ret ?_ rfl ⟨rfl, ?_⟩
    · simp [results, Try.results57, go_sem, r0, r1, r2, r3]
    · exact ((((HB3.out.setCell (by simp) _).setCell (by simp) _).setCell (by simp) _).setCell (by simp) _).alloc (by simp [World.setCell]; omega) _
  · obtain ⟨e1, e2, e3, e4⟩ := pw_no hp
    rw [e1, e2, e3, e4]
    by_cases hc : plC W H x y dx dy = 0
    · have hs : inB s 0 1000000000000 = false := by
        cases h : inB s 0 1000000000000
        · rfl
        · exact absurd (by unfold pwC; rw [if_pos hc, if_pos h]) hp
      rw [show pwC W H x y dx dy s = 2 by unfold pwC; rw [if_pos hc, hs]; rfl]
      rw [hc] at HC
      have hno := in_no hs
      clear hp e1 e2 e3 e4 hc hs
      by_cases h1 : 0 ≤ s
      · have h2 : ¬ s ≤ 1000000000000 := fun h => hno ⟨h1, h⟩
        clear hno
        go_enter Try.func57, Try.ntmps57
        go_wp2_with fail
        refine (HC.out _).mono ?_
        rintro e w1 ⟨rfl, b1⟩
        obtain ⟨hw, hz, hB⟩ := pw_boxes b1
        have HB := Lib.hid hB
        have kz1 := hz.lt
        have q0 : w1.cell? ⟨w.heap.size + 1, 0, none⟩ = some (.int .i64 0) := hz.cellv (i := 0) rfl
        have q1 : w1.cell? ⟨w.heap.size + 1, 1, none⟩ = some (.int .i64 0) := hz.cellv (i := 1) rfl
        have q2 : w1.cell? ⟨w.heap.size + 1, 2, none⟩ = some (.int .i64 0) := hz.cellv (i := 2) rfl
        have q3 : w1.cell? ⟨w.heap.size + 1, 3, none⟩ = some (.int .i64 0) := hz.cellv (i := 3) rfl
        have f0 := hz.frozen 0
        have f1 := hz.frozen 1
        have f2 := hz.frozen 2
        have f3 := hz.frozen 3
        clear b1 hw hz hB
        go_wp2
        refine bodyPost_ret ?_ rfl ⟨rfl, ?_⟩
        · simp [results, Try.results57, go_sem, q0, q1, q2, q3]
        · exact (((HB.out.setCell (by simp) _).setCell (by simp) _).setCell (by simp) _).setCell (by simp) _
      · clear hno
        go_enter Try.func57, Try.ntmps57
        go_wp2_with fail
        refine (HC.out _).mono ?_
        rintro e w1 ⟨rfl, b1⟩
        obtain ⟨hw, hz, hB⟩ := pw_boxes b1
        have HB := Lib.hid hB
        have kz1 := hz.lt
        have q0 : w1.cell? ⟨w.heap.size + 1, 0, none⟩ = some (.int .i64 0) := hz.cellv (i := 0) rfl
        have q1 : w1.cell? ⟨w.heap.size + 1, 1, none⟩ = some (.int .i64 0) := hz.cellv (i := 1) rfl
        have q2 : w1.cell? ⟨w.heap.size + 1, 2, none⟩ = some (.int .i64 0) := hz.cellv (i := 2) rfl
        have q3 : w1.cell? ⟨w.heap.size + 1, 3, none⟩ = some (.int .i64 0) := hz.cellv (i := 3) rfl
        have f0 := hz.frozen 0
        have f1 := hz.frozen 1
        have f2 := hz.frozen 2
        have f3 := hz.frozen 3
        clear b1 hw hz hB
        go_wp2
        refine bodyPost_ret ?_ rfl ⟨rfl, ?_⟩
        · simp [results, Try.results57, go_sem, q0, q1, q2, q3]
        · exact (((HB.out.setCell (by simp) _).setCell (by simp) _).setCell (by simp) _).setCell (by simp) _
    · have hcb : (plC W H x y dx dy == 0) = false := beq_eq_false_iff_ne.2 hc
      have hcc : (plC W H x y dx dy != 0) = true := bne_iff_ne.2 hc
      rw [show pwC W H x y dx dy s = plC W H x y dx dy by unfold pwC; rw [if_neg hc]]
      clear hp e1 e2 e3 e4 hc
      go_enter Try.func57, Try.ntmps57
      go_wp2_with fail
      refine (HC.out _).mono ?_
      rintro e w1 ⟨rfl, b1⟩
      obtain ⟨hw, hz, hB⟩ := pw_boxes b1
      have HB := Lib.hid hB
      have kz1 := hz.lt
      have q0 : w1.cell? ⟨w.heap.size + 1, 0, none⟩ = some (.int .i64 0) := hz.cellv (i := 0) rfl
      have q1 : w1.cell? ⟨w.heap.size + 1, 1, none⟩ = some (.int .i64 0) := hz.cellv (i := 1) rfl
      have q2 : w1.cell? ⟨w.heap.size + 1, 2, none⟩ = some (.int .i64 0) := hz.cellv (i := 2) rfl
      have q3 : w1.cell? ⟨w.heap.size + 1, 3, none⟩ = some (.int .i64 0) := hz.cellv (i := 3) rfl
      have f0 := hz.frozen 0
      have f1 := hz.frozen 1
      have f2 := hz.frozen 2
      have f3 := hz.frozen 3
      clear b1 hw hz hB
      go_wp2
      refine bodyPost_ret ?_ rfl ⟨rfl, ?_⟩
      · simp [results, Try.results57, go_sem, q0, q1, q2, q3]
      · exact (((HB.out.setCell (by simp) _).setCell (by simp) _).setCell (by simp) _).setCell (by simp) _
end Go.Proofs.Ytfgbfmpolhilcab.Base
