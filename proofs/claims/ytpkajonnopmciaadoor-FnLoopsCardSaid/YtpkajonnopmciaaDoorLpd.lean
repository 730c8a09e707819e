/-
  Two pairings that the specification draws; whether two lists are equal.
-/
import Derived.Test.YtpkajonnopmciaaDoorLdr
import Derived.Test.YtpkajonnopmciaaDoorPlp
import Derived.Test.YtpkajonnopmciaaDoorPtt
namespace Go.Proofs.YtpkajonnopmciaaDoor.Base
open Go Go.RowKit
set_option linter.unusedVariables false
set_option linter.unusedSimpArgs false
def PairsDrawn (w : World) (e : Ending) (w' : World) : Prop :=
  ∃ (m : Nat) (A : Option Addr) (c : Nat) (f : Nat → Int) (B : Option Addr) (d : Nat) (g : Nat → Int), e = .returned (.tuple #[.slice A (2 * m) c, .slice B (2 * m) d]) ∧ 1 ≤ m ∧ m ≤ 6 ∧ PR (2 * m) f ∧ PR (2 * m) g ∧ Row .i64 w' A (2 * m) c f ∧ Row .i64 w' B (2 * m) d g ∧ Below w.heap.size w w'
theorem a2Pairings_any (w : World) (A0 : Option Addr) (n0 c0 : Nat) (f0 : Nat → Int) (hr : Row .u8 w A0 n0 c0 f0) (hn : n0 ≤ 1000000) :
    Calls Tryd.prog 10 #[.slice A0 n0 c0] w (PairsDrawn w) := by
  have HBL := Lib.hid (row_blk hr)
  have HR := Lib.hid hr
  clear hr
  go_enter Tryd.func10, Tryd.ntmps10
  go_wp2_with fail
  refine (from_any _ A0 n0 c0).mono ?_
  rintro e w1 ⟨s, rfl, s0, S1, b1⟩
  have HS1 := Lib.hid S1
  have HB1 := Lib.hid b1
  have HNE : Hid (∀ b, blk A0 = some b → 0 < n0 → b ≠ s) := Lib.hid (fun b hb h0 => by have := HBL.out h0 b hb; omega)
  have hs1 := S1.1
  clear S1 b1
  go_wp2_with fail
  refine (pick_any w1 s A0 n0 c0 f0 0 6 HS1.out (HR.out.below HB1.out (Nat.le_refl _)) HNE.out (by omega) (by omega) hn (by omega) (by omega)).mono ?_
  rintro e w2 ⟨v, k1, rfl, v0, v1, S2, j1, j2, X2⟩
  obtain ⟨a, rfl⟩ : ∃ a : Nat, v = a := ⟨v.toNat, by omega⟩
  have hm1 : 1 ≤ a + 1 := by omega
  have hm6 : a + 1 ≤ 6 := by omega
  have HS2 := Lib.hid S2
  have HB2 := Lib.hid (HB1.out.trans (X2.below (B := w.heap.size) (by simp; omega) HB1.out.size))
  clear S2 X2 v0 v1 HS1
  have hs2 := HS2.out.1
  have HPD := Lib.hid (pairDraw_any w2 s A0 n0 c0 f0 k1 (a + 1) HS2.out (HR.out.below HB2.out (Nat.le_refl _)) HNE.out (by omega) (by omega) hn hm1 hm6)
  rw [show ((a + 1 : Nat) : Int) = 1 + (a : Int) by simp; omega] at HPD
  go_wp2_with fail
  refine HPD.out.mono ?_
  rintro e w3 ⟨A, c, f, k2, rfl, hf, hO, S3, l1, l2, X3⟩
  have HF := Lib.hid hf
  have HO3 := Lib.hid hO
  have HS3 := Lib.hid S3
  have HB3 := Lib.hid (HB2.out.trans (X3.below (B := w.heap.size) (by simp; omega) HB2.out.size))
  have hz23 := X3.size
  clear hf hO S3 X3 HPD HS2
  have HPD := Lib.hid (pairDraw_any w3 s A0 n0 c0 f0 k2 (a + 1) HS3.out (HR.out.below HB3.out (Nat.le_refl _)) HNE.out (by omega) (by omega) hn hm1 hm6)
  rw [show ((a + 1 : Nat) : Int) = 1 + (a : Int) by simp; omega] at HPD
  go_wp2_with fail
  refine HPD.out.mono ?_
  rintro e w4 ⟨B, d, g, k3, rfl, hg, hO4, S4, i1, i2, X4⟩
  have HG := Lib.hid hg
  have HO4 := Lib.hid hO4.row
  have HB4 := Lib.hid (HB3.out.trans (X4.below (B := w.heap.size) (by simp; omega) HB3.out.size))
  have HR3 := Lib.hid (HO3.out.row.ext X4 (fun b hb h0 => by have := (HO3.out.base_lt h0 b hb).1; simp; omega))
  clear hg hO4 S4 X4 HPD
  go_wp2
  go_ret2
  exact ⟨a + 1, A, c, f, B, d, g, rfl, hm1, hm6, HF.out, HG.out, HR3.out, HO4.out, HB4.out⟩
/-- two lists of n numbers are equal -/
noncomputable def smB (n : Nat) (f g : Nat → Int) : Bool := open Classical in decide (∀ i, i < n → f i = g i)
theorem sm_yes {n : Nat} {f g : Nat → Int} (h : ∀ i, i < n → f i = g i) : smB n f g = true := by classical exact decide_eq_true h
theorem sm_of {n : Nat} {f g : Nat → Int} (h : smB n f g = true) : ∀ i, i < n → f i = g i := by classical exact of_decide_eq_true h
theorem sm_no {n : Nat} {f g : Nat → Int} (h : ¬ ∀ i, i < n → f i = g i) : smB n f g = false := by classical exact decide_eq_false h
theorem a2Same_any (w : World) (A : Option Addr) (n c : Nat) (f : Nat → Int) (B : Option Addr) (d : Nat) (g : Nat → Int) (hr : Row .i64 w A n c f) (hr' : Row .i64 w B n d g) :
    Calls Tryd.prog 12 #[.slice A n c, .slice B n d] w (Gives (.bool (smB n f g)) w) := by
  have hcm := hr.2.1
  have hnc := hr.1
  unfold maxLen at hcm
  have HR := Lib.hid hr
  have HR' := Lib.hid hr'
  clear hr hr'
  go_enter Tryd.func12, Tryd.ntmps12
  go_wp2
  go_loopw [5] (fun iv wr => ∃ i : Nat, i ≤ n ∧ iv = .int .i64 i ∧ Hid (∀ j, j < i → f j = g j) ∧ Hid (Below w.heap.size w wr)) (fun iv _ => n - (intOf iv).toNat)
  case atStart => exact ⟨0, Nat.zero_le _, rfl, Lib.hid (fun j h => absurd h (Nat.not_lt_zero _)), Lib.hid (Below.refl _ _)⟩
  case round =>
    obtain ⟨i, hi, rfl, HA, HB⟩ := hrel
    by_cases hlt : i < n
    · obtain ⟨b, o, rfl, hbl, hc⟩ := (HR.out.below HB.out (Nat.le_refl _)).2.2.2 (by omega)
      obtain ⟨b', o', rfl, hbl', hc'⟩ := (HR'.out.below HB.out (Nat.le_refl _)).2.2.2 (by omega)
      have h1 := hc i hlt
      have h2 := hc' i hlt
      clear hc hc'
      by_cases he : f i = g i
      · have HE := Lib.hid he
        rw [← he] at h2
        have e1 : (f i != f i) = false := by simp
        clear he
        go_wp2
        go_quiet (fail)
        go_wp2
        go_roundw
        case rel =>
          refine ⟨i + 1, by omega, by go_num, Lib.hid (fun j hj => ?_), Lib.hid (below_drewN HB.out _)⟩
          rcases Nat.lt_succ_iff_lt_or_eq.1 hj with h | rfl
          · exact HA.out j h
          · exact HE.out
        case measure => simp [intOf]; omega
      · have HN := Lib.hid (sm_no (n := n) (f := f) (g := g) (fun h => he (h i hlt)))
        have e1 : (f i != g i) = true := bne_iff_ne.2 he
        have e2 : (f i == g i) = false := beq_eq_false_iff_ne.2 he
        clear he
        go_wp2
        go_quiet (fail)
        go_wp2
        go_ret
        exact ⟨ret_bool HN.out.symm, below_drewN HB.out _⟩
    · obtain rfl : i = n := by omega
      have HN := Lib.hid (sm_yes HA.out)
      go_wp2
      go_ret
      exact ⟨ret_bool HN.out.symm, HB.out⟩
/-- as many loops as pairs: just the same pairing -/
theorem lc_eq_same {m : Nat} {f g : Nat → Int} (hf : PR (2 * m) f) (hg : PR (2 * m) g) : (lcN f g (2 * m) = m) ↔ smB (2 * m) f g = true := by
  constructor
  · intro h
    exact sm_yes (lc_same hf hg (by omega))
  · intro h
    have h1 := sm_of h
    have h2 := lc_half hf hg
    have h3 : ∀ k, k ≤ 2 * m → lcN f g k = lcN f f k := by
      have hr : ∀ {x y : Nat}, x < 2 * m → Rl f g x y → Rl f f x y := fun {x y} hx hxy => by
        induction hxy with
        | refl => exact .refl _
        | a _ ih => exact .a ih
        | @b y h4 ih =>
          have hy := h4.lt hf hg hx
          have : al g y = al f y := by unfold al; rw [h1 y hy]
          rw [this]
          exact .a ih
      have hr' : ∀ {x y : Nat}, Rl f f x y → x < 2 * m → Rl f g x y := fun {x y} hxy hx => by
        induction hxy with
        | refl => exact .refl _
        | a _ ih => exact .a ih
        | b _ ih => exact .a ih
      intro k
      induction k with
      | zero => intro _; rfl
      | succ k ih =>
        intro hk
        have e : snB f g k k = snB f f k k := by
          rw [Bool.eq_iff_iff, sn_iff, sn_iff]
          exact ⟨fun ⟨i, a, b⟩ => ⟨i, a, hr (by omega) b⟩, fun ⟨i, a, b⟩ => ⟨i, a, hr' b (by omega)⟩⟩
        simp only [lcN]
        rw [ih (by omega), e]
    have h4 := lc_self hf
    rw [h3 _ (Nat.le_refl _)]
    omega
end Go.Proofs.YtpkajonnopmciaaDoor.Base
