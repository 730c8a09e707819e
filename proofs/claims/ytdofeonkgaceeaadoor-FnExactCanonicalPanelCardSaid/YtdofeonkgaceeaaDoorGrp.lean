/-
  The symmetries are a group, and move panels as one.
-/
import Derived.Test.YtdofeonkgaceeaaDoorSym
import Derived.Test.YtdofeonkgaceeaaDoorCms
namespace Go.Proofs.YtdofeonkgaceeaaDoor.Base
open Go.RowKit
set_option linter.unusedVariables false
set_option linter.unusedSimpArgs false

theorem cm_bits {a b : Int} (ha : inB a 0 7 = true) (hb : inB b 0 7 = true) : inB (cmV a b) 0 7 = true ∧ swB (cmV a b) = (swB a ^^ swB b) ∧ acB (cmV a b) = ((if swB b then dnB a else acB a) ^^ acB b) ∧ dnB (cmV a b) = ((if swB b then acB a else dnB a) ^^ dnB b) := by
  rcases eight ha with rfl | rfl | rfl | rfl | rfl | rfl | rfl | rfl <;> rcases eight hb with rfl | rfl | rfl | rfl | rfl | rfl | rfl | rfl <;> decide
theorem iv_bits {a : Int} (ha : inB a 0 7 = true) : inB (ivV a) 0 7 = true ∧ cmV a (ivV a) = 0 ∧ cmV (ivV a) a = 0 := by
  rcases eight ha with rfl | rfl | rfl | rfl | rfl | rfl | rfl | rfl <;> decide
theorem mv_cm {W H a b x y : Int} (ha : inB a 0 7 = true) (hb : inB b 0 7 = true) :
    mvW (mvW W H a) (mvH W H a) b = mvW W H (cmV a b) ∧ mvH (mvW W H a) (mvH W H a) b = mvH W H (cmV a b) ∧
    mvX (mvW W H a) (mvH W H a) b (mvX W H a x y) (mvY W H a x y) = mvX W H (cmV a b) x y ∧ mvY (mvW W H a) (mvH W H a) b (mvX W H a x y) (mvY W H a x y) = mvY W H (cmV a b) x y := by
  obtain ⟨-, h1, h2, h3⟩ := cm_bits ha hb
  unfold mvX mvY mvW mvH
  rw [h1, h2, h3]
  clear h1 h2 h3 ha hb
  cases swB a <;> cases swB b <;> cases acB a <;> cases acB b <;> cases dnB a <;> cases dnB b <;> simp <;> omega
theorem bk_cm {W H a b x y : Int} (ha : inB a 0 7 = true) (hb : inB b 0 7 = true) :
    bkX W H a (bkX (mvW W H a) (mvH W H a) b x y) (bkY (mvW W H a) (mvH W H a) b x y) = bkX W H (cmV a b) x y ∧ bkY W H a (bkX (mvW W H a) (mvH W H a) b x y) (bkY (mvW W H a) (mvH W H a) b x y) = bkY W H (cmV a b) x y := by
  obtain ⟨-, h1, h2, h3⟩ := cm_bits ha hb
  unfold bkX bkY mvW mvH
  rw [h1, h2, h3]
  clear h1 h2 h3 ha hb
  cases swB a <;> cases swB b <;> cases acB a <;> cases acB b <;> cases dnB a <;> cases dnB b <;> simp <;> omega
theorem kd_cm {a b z : Int} (ha : inB a 0 7 = true) (hb : inB b 0 7 = true) (h0 : 0 ≤ z) (h2 : z ≤ 2) : kdS b (kdS a z) = kdS (cmV a b) z := by
  obtain ⟨-, h1, -, -⟩ := cm_bits ha hb
  have hz : z = 0 ∨ z = 1 ∨ z = 2 := by omega
  unfold kdS
  rw [h1]
  clear h1 ha hb
  rcases hz with rfl | rfl | rfl <;> cases swB a <;> cases swB b <;> decide
theorem src_cm {W H a b i : Int} (hW : sideB W = true) (hH : sideB H = true) (ha : inB a 0 7 = true) (hb : inB b 0 7 = true) (h0 : 0 ≤ i) (h1 : i < inner W H) :
    srcI W H a (srcI (mvW W H a) (mvH W H a) b i) = srcI W H (cmV a b) i := by
  obtain ⟨s1, s2⟩ := mv_side (s := a) hW hH
  obtain ⟨t1, t2⟩ := mv_side (s := b) s1 s2
  obtain ⟨p1, p2, -⟩ := ptn_is t1 t2 h0 (by rw [mv_inner, mv_inner]; exact h1)
  obtain ⟨q1, q2⟩ := num_pt s1 s2 (bk_has p1) (bk_edge p2)
  have hm := mv_cm (W := W) (H := H) (x := 0) (y := 0) ha hb
  unfold srcI
  rw [q1, q2, (bk_cm ha hb).1, (bk_cm ha hb).2, hm.1]
theorem mpF_cm {W H a b : Int} {f : Nat → Int} {n : Nat} (hW : sideB W = true) (hH : sideB H = true) (ha : inB a 0 7 = true) (hb : inB b 0 7 = true) (hn : (n : Int) = inner W H) (hK : kindsB n f = true) (i : Nat) (hi : i < n) :
    mpF (mvW W H a) (mvH W H a) b (mpF W H a f) i = mpF W H (cmV a b) f i := by
  obtain ⟨s1, s2⟩ := mv_side (s := a) hW hH
  have h1 := src_bd (W := mvW W H a) (H := mvH W H a) (s := b) (i := i) s1 s2 (by omega) (by rw [mv_inner]; omega)
  rw [mv_inner] at h1
  have h2 := src_bd (s := a) hW hH h1.1 h1.2
  have hk := kinds_iff.1 hK (srcI W H a (srcI (mvW W H a) (mvH W H a) b i)).toNat (by omega)
  unfold mpF
  rw [Int.toNat_of_nonneg h1.1, kd_cm ha hb hk.1 hk.2, src_cm hW hH ha hb (by omega) (by omega)]
theorem mpF_zero {W H : Int} {f : Nat → Int} {n : Nat} (hW : sideB W = true) (hH : sideB H = true) (hn : (n : Int) = inner W H) (i : Nat) (hi : i < n) : mpF W H 0 f i = f i := by
  have e : srcI W H 0 i = i := (ptn_is hW hH (k := i) (by omega) (by omega)).2.2
  unfold mpF
  rw [e, Int.toNat_natCast]
  rfl
end Go.Proofs.YtdofeonkgaceeaaDoor.Base
