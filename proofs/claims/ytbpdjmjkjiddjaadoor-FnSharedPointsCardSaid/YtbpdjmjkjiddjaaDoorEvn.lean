/-
  Two curves cross an even number of times: parities on both sides of the segments of a row.
-/
import Derived.Test.YtbpdjmjkjiddjaaDoorPrt
import Derived.Test.YtbpdjmjkjiddjaaDoorPnt
namespace Go.Proofs.YtbpdjmjkjiddjaaDoor.Base
open Go.RowKit
set_option linter.unusedVariables false
set_option linter.unusedSimpArgs false

/-! the curves of the segments at a point -/
/-- the colour of the segment in the square i, j -/
def colC (H : Int) (g : Nat → Int) (i j : Nat) : Int := g ((i : Int) * 2 * H + (j : Int)).toNat
theorem meet {W H : Int} {n : Nat} {f g : Nat → Int} (hc : Closed W H n f g) {x y ex ey : Int} (hw : wkB W H n f x y ex ey = true) :
    g (segOf H x y ex ey).toNat = g (segOf H x y (if tkOf W H f x y = 1 then ex else -ex) (if tkOf W H f x y = 2 then ey else -ey)).toNat := by
  have hu : okW W H n f (x, y, ex, ey) = true := hw
  have h := hc _ (bkw_ok hu)
  rw [bkw_sg hu] at h
  have e : stp W H f (bkw (x, y, ex, ey)) = (x, y, if tkOf W H f x y = 1 then ex else -ex, if tkOf W H f x y = 2 then ey else -ey) := by
    show (x + ex + -ex, y + ey + -ey, (if tkOf W H f (x + ex + -ex) (y + ey + -ey) = 1 then - -ex else -ex), (if tkOf W H f (x + ex + -ex) (y + ey + -ey) = 2 then - -ey else -ey)) = _
    rw [show x + ex + -ex = x by omega, show y + ey + -ey = y by omega, Int.neg_neg, Int.neg_neg]
  rw [e] at h
  exact h.symm
theorem low_m {x : Nat} : lowI ((x : Int) + 1) (-1) = x := by unfold lowI; first | omega | (split <;> omega)
theorem low_p {x : Int} : lowI x 1 = x := by unfold lowI; first | omega | (split <;> omega) | simp
theorem wk_mk {W H : Int} {n : Nat} {f : Nat → Int} {x y ex ey : Int} (hv : validB W H n f = true) (h1 : signB ex = true) (h2 : signB ey = true) (hp : hasB W H x y = true) (hq : hasB W H (x + ex) (y + ey) = true) : wkB W H n f x y ex ey = true := by
  rw [wk_is hv, go_is h1 h2 hp]
  exact hq
theorem meet_inner {W H : Int} {n : Nat} {f g : Nat → Int} (hv : validB W H n f = true) (hc : Closed W H n f g) {x j : Nat} (hx : (x : Int) + 2 ≤ 2 * W) (hj : (j : Int) + 2 ≤ 2 * H) (ho : (x + j) % 2 = 1) :
    (f (numN W ((x : Int) + 1) ((j : Int) + 1)).toNat = 1 → colC H g x j = colC H g x (j + 1) ∧ colC H g (x + 1) j = colC H g (x + 1) (j + 1)) ∧
    (f (numN W ((x : Int) + 1) ((j : Int) + 1)).toNat = 2 → colC H g x j = colC H g (x + 1) j ∧ colC H g x (j + 1) = colC H g (x + 1) (j + 1)) ∧
    (f (numN W ((x : Int) + 1) ((j : Int) + 1)).toNat ≠ 1 → f (numN W ((x : Int) + 1) ((j : Int) + 1)).toNat ≠ 2 → colC H g x j = colC H g (x + 1) (j + 1) ∧ colC H g (x + 1) j = colC H g x (j + 1)) := by
  have ht : tkOf W H f ((x : Int) + 1) ((j : Int) + 1) = f (numN W ((x : Int) + 1) ((j : Int) + 1)).toNat := by
    unfold tkOf
    rw [if_neg (by omega), if_neg (by omega)]
  have hp : hasB W H ((x : Int) + 1) ((j : Int) + 1) = true := has_mk (by omega) (by omega) (by omega) (by omega) (by omega)
  have m1 := meet hc (wk_mk hv (ex := -1) (ey := -1) rfl rfl hp (has_mk (by omega) (by omega) (by omega) (by omega) (by omega)))
  have m2 := meet hc (wk_mk hv (ex := 1) (ey := -1) rfl rfl hp (has_mk (by omega) (by omega) (by omega) (by omega) (by omega)))
  have m3 := meet hc (wk_mk hv (ex := -1) (ey := 1) rfl rfl hp (has_mk (by omega) (by omega) (by omega) (by omega) (by omega)))
  rw [ht] at m1 m2 m3
  generalize f (numN W ((x : Int) + 1) ((j : Int) + 1)).toNat = t at m1 m2 m3 ⊢
  have s1 : g (segOf H ((x : Int) + 1) ((j : Int) + 1) (-1) (-1)).toNat = colC H g x j := by unfold segOf colC; rw [low_m, low_m]
  have s2 : g (segOf H ((x : Int) + 1) ((j : Int) + 1) 1 (-1)).toNat = colC H g (x + 1) j := by unfold segOf colC; rw [low_p, low_m]; rfl
  have s3 : g (segOf H ((x : Int) + 1) ((j : Int) + 1) (-1) 1).toNat = colC H g x (j + 1) := by unfold segOf colC; rw [low_p, low_m]; rfl
  have s4 : g (segOf H ((x : Int) + 1) ((j : Int) + 1) 1 1).toNat = colC H g (x + 1) (j + 1) := by unfold segOf colC; rw [low_p, low_p]; rfl
  refine ⟨fun h => ?_, fun h => ?_, fun h h' => ?_⟩
  · subst h
    simp only [if_true, show ¬ ((1 : Int) = 2) by decide, if_false, Int.neg_neg] at m1 m2
    rw [s1, s3] at m1
    rw [s2, s4] at m2
    exact ⟨m1, m2⟩
  · subst h
    simp only [if_true, show ¬ ((2 : Int) = 1) by decide, if_false, Int.neg_neg] at m1 m3
    rw [s1, s2] at m1
    rw [s3, s4] at m3
    exact ⟨m1, m3⟩
  · simp only [if_neg h, if_neg h', Int.neg_neg] at m1 m2
    rw [s1, s4] at m1
    rw [s2, s3] at m2
    exact ⟨m1, m2⟩
theorem meet_left {W H : Int} {n : Nat} {f g : Nat → Int} (hv : validB W H n f = true) (hc : Closed W H n f g) {j : Nat} (hj : (j : Int) + 2 ≤ 2 * H) (ho : j % 2 = 0) : colC H g 0 j = colC H g 0 (j + 1) := by
  obtain ⟨hW, hH, -, -⟩ := validB_yes hv
  obtain ⟨a1, a2⟩ := side_mk hW
  have ht : tkOf W H f 0 ((j : Int) + 1) = 1 := by unfold tkOf; rw [if_pos (by omega)]
  have m := meet hc (wk_mk hv (x := 0) (y := (j : Int) + 1) (ex := 1) (ey := -1) rfl rfl (has_mk (by omega) (by omega) (by omega) (by omega) (by omega)) (has_mk (by omega) (by omega) (by omega) (by omega) (by omega)))
  rw [ht] at m
  simp only [if_true, show ¬ ((1 : Int) = 2) by decide, if_false, Int.neg_neg] at m
  have s1 : g (segOf H 0 ((j : Int) + 1) 1 (-1)).toNat = colC H g 0 j := by unfold segOf colC; rw [low_p, low_m]; rfl
  have s2 : g (segOf H 0 ((j : Int) + 1) 1 1).toNat = colC H g 0 (j + 1) := by unfold segOf colC; rw [low_p, low_p]; rfl
  rw [s1, s2] at m
  exact m
theorem meet_right {W H : Int} {n : Nat} {f g : Nat → Int} (hv : validB W H n f = true) (hc : Closed W H n f g) {x j : Nat} (hx : (x : Int) + 1 = 2 * W) (hj : (j : Int) + 2 ≤ 2 * H) (ho : j % 2 = 0) : colC H g x j = colC H g x (j + 1) := by
  have ht : tkOf W H f ((x : Int) + 1) ((j : Int) + 1) = 1 := by unfold tkOf; rw [if_pos (by omega)]
  have m := meet hc (wk_mk hv (x := (x : Int) + 1) (y := (j : Int) + 1) (ex := -1) (ey := -1) rfl rfl (has_mk (by omega) (by omega) (by omega) (by omega) (by omega)) (has_mk (by omega) (by omega) (by omega) (by omega) (by omega)))
  rw [ht] at m
  simp only [if_true, show ¬ ((1 : Int) = 2) by decide, if_false, Int.neg_neg] at m
  have s1 : g (segOf H ((x : Int) + 1) ((j : Int) + 1) (-1) (-1)).toNat = colC H g x j := by unfold segOf colC; rw [low_m, low_m]
  have s2 : g (segOf H ((x : Int) + 1) ((j : Int) + 1) (-1) 1).toNat = colC H g x (j + 1) := by unfold segOf colC; rw [low_m, low_p]; rfl
  rw [s1, s2] at m
  exact m
theorem meet_top {W H : Int} {n : Nat} {f g : Nat → Int} (hv : validB W H n f = true) (hc : Closed W H n f g) {x : Nat} (hx : (x : Int) + 2 ≤ 2 * W) (ho : x % 2 = 0) : colC H g x 0 = colC H g (x + 1) 0 := by
  obtain ⟨hW, hH, -, -⟩ := validB_yes hv
  obtain ⟨b1, b2⟩ := side_mk hH
  have ht : tkOf W H f ((x : Int) + 1) 0 = 2 := by unfold tkOf; rw [if_neg (by omega), if_pos (by omega)]
  have m := meet hc (wk_mk hv (x := (x : Int) + 1) (y := 0) (ex := -1) (ey := 1) rfl rfl (has_mk (by omega) (by omega) (by omega) (by omega) (by omega)) (has_mk (by omega) (by omega) (by omega) (by omega) (by omega)))
  rw [ht] at m
  simp only [if_true, show ¬ ((2 : Int) = 1) by decide, if_false, Int.neg_neg] at m
  have s1 : g (segOf H ((x : Int) + 1) 0 (-1) 1).toNat = colC H g x 0 := by unfold segOf colC; rw [low_m, low_p]; rfl
  have s2 : g (segOf H ((x : Int) + 1) 0 1 1).toNat = colC H g (x + 1) 0 := by unfold segOf colC; rw [low_p, low_p]; rfl
  rw [s1, s2] at m
  exact m
theorem meet_bot {W H : Int} {n : Nat} {f g : Nat → Int} (hv : validB W H n f = true) (hc : Closed W H n f g) {x j : Nat} (hx : (x : Int) + 2 ≤ 2 * W) (hj : (j : Int) + 1 = 2 * H) (ho : x % 2 = 0) : colC H g x j = colC H g (x + 1) j := by
  have ht : tkOf W H f ((x : Int) + 1) ((j : Int) + 1) = 2 := by unfold tkOf; rw [if_neg (by omega), if_pos (by omega)]
  have m := meet hc (wk_mk hv (x := (x : Int) + 1) (y := (j : Int) + 1) (ex := -1) (ey := -1) rfl rfl (has_mk (by omega) (by omega) (by omega) (by omega) (by omega)) (has_mk (by omega) (by omega) (by omega) (by omega) (by omega)))
  rw [ht] at m
  simp only [if_true, show ¬ ((2 : Int) = 1) by decide, if_false, Int.neg_neg] at m
  have s1 : g (segOf H ((x : Int) + 1) ((j : Int) + 1) (-1) (-1)).toNat = colC H g x j := by unfold segOf colC; rw [low_m, low_m]
  have s2 : g (segOf H ((x : Int) + 1) ((j : Int) + 1) 1 (-1)).toNat = colC H g (x + 1) j := by unfold segOf colC; rw [low_m, low_p]; rfl
  rw [s1, s2] at m
  exact m

/-! parities along a row of squares -/
/-- how many of the first x squares of a row have the colour a -/
def paA (c : Nat → Int) (a : Int) : Nat → Nat
  | 0 => 0
  | x + 1 => paA c a x + (if c x = a then 1 else 0)
/-- the sum of these numbers in front of the squares of the colour b -/
def paB (c : Nat → Int) (a b : Int) : Nat → Nat
  | 0 => 0
  | x + 1 => paB c a b x + (if c x = b then paA c a x else 0)
theorem pa_none {u l : Nat → Int} {a b : Int} (hab : a ≠ b) {x q r : Nat} (h1 : u x = l (x + 1)) (h2 : u (x + 1) = l x) (hp : paA u a x % 2 = paA l a x % 2) (hr : (paB u a b x + paB l a b x + q) % 2 = r % 2) :
    paA u a (x + 2) % 2 = paA l a (x + 2) % 2 ∧ (paB u a b (x + 2) + paB l a b (x + 2) + q) % 2 = (r + (if u x = a ∧ u (x + 1) = b ∨ u x = b ∧ u (x + 1) = a then 1 else 0)) % 2 := by
  simp only [paA, paB]
  rw [← h1, ← h2]
  generalize u x = s at *
  generalize u (x + 1) = t at *
  generalize paA u a x = p1 at *
  generalize paA l a x = p2 at *
  by_cases e1 : s = a
  · by_cases e2 : t = a
    · simp [e1, e2, hab]; omega
    · by_cases e3 : t = b
      · simp [e1, e3, hab, hab.symm]; omega
      · simp [e1, e2, e3, hab]; omega
  · by_cases e3 : s = b
    · by_cases e2 : t = a
      · simp [e3, e2, hab, hab.symm]; omega
      · by_cases e4 : t = b
        · simp [e3, e4, hab, hab.symm]; omega
        · simp [e3, e2, e4, hab, hab.symm]; omega
    · by_cases e2 : t = a
      · simp [e1, e2, e3, hab]; omega
      · by_cases e4 : t = b
        · simp [e1, e3, e4, hab, hab.symm]; omega
        · simp [e1, e2, e3, e4]; omega
theorem pa_turn {u l : Nat → Int} {a b : Int} (hab : a ≠ b) {x q r : Nat} (h : (u x = l x ∧ u (x + 1) = l (x + 1)) ∨ (u x = u (x + 1) ∧ l x = l (x + 1))) (hp : paA u a x % 2 = paA l a x % 2) (hr : (paB u a b x + paB l a b x + q) % 2 = r % 2) :
    paA u a (x + 2) % 2 = paA l a (x + 2) % 2 ∧ (paB u a b (x + 2) + paB l a b (x + 2) + q) % 2 = r % 2 := by
  simp only [paA, paB]
  generalize paA u a x = p1 at *
  generalize paA l a x = p2 at *
  rcases h with ⟨h1, h2⟩ | ⟨h1, h2⟩
  · rw [← h1, ← h2]
    generalize u x = s at *
    generalize u (x + 1) = t at *
    generalize (if s = a then 1 else 0 : Nat) = i1
    generalize (if t = a then 1 else 0 : Nat) = i2
    by_cases e3 : s = b <;> by_cases e4 : t = b
    · simp only [if_pos e3, if_pos e4]; omega
    · simp only [if_pos e3, if_neg e4]; omega
    · simp only [if_neg e3, if_pos e4]; omega
    · simp only [if_neg e3, if_neg e4]; omega
  · rw [← h1, ← h2]
    generalize u x = s at *
    generalize l x = t at *
    have hs : s = b → (if s = a then 1 else 0 : Nat) = 0 := fun e => if_neg (fun e' => hab (e'.symm.trans e))
    have ht : t = b → (if t = a then 1 else 0 : Nat) = 0 := fun e => if_neg (fun e' => hab (e'.symm.trans e))
    generalize (if s = a then 1 else 0 : Nat) = i1 at *
    generalize (if t = a then 1 else 0 : Nat) = i2 at *
    by_cases e3 : s = b <;> by_cases e4 : t = b
    · have := hs e3; have := ht e4; simp only [if_pos e3, if_pos e4]; omega
    · have := hs e3; simp only [if_pos e3, if_neg e4]; omega
    · have := ht e4; simp only [if_neg e3, if_pos e4]; omega
    · simp only [if_neg e3, if_neg e4]; omega
/-- one row of points, between the rows u and l of squares; cc counts the crossings -/
theorem pa_row {u l : Nat → Int} {a b : Int} (hab : a ≠ b) {cc : Nat → Nat} {s e : Nat} (he : e = 0 ∨ e = 1 ∧ u 0 = l 0) : ∀ R,
    (∀ m, m < R → (((u (2 * m + e) = l (2 * m + e) ∧ u (2 * m + e + 1) = l (2 * m + e + 1)) ∨ (u (2 * m + e) = u (2 * m + e + 1) ∧ l (2 * m + e) = l (2 * m + e + 1))) ∧ cc (s + m + 1) = cc (s + m)) ∨
      ((u (2 * m + e) = l (2 * m + e + 1) ∧ u (2 * m + e + 1) = l (2 * m + e)) ∧ cc (s + m + 1) = cc (s + m) + (if u (2 * m + e) = a ∧ u (2 * m + e + 1) = b ∨ u (2 * m + e) = b ∧ u (2 * m + e + 1) = a then 1 else 0))) →
    paA u a (2 * R + e) % 2 = paA l a (2 * R + e) % 2 ∧ (paB u a b (2 * R + e) + paB l a b (2 * R + e) + cc s) % 2 = cc (s + R) % 2
  | 0, _ => by
    rcases he with rfl | ⟨rfl, h0⟩
    · simp [paA, paB]
    · simp [paA, paB, h0]
  | R + 1, h => by
    obtain ⟨i1, i2⟩ := pa_row hab he R (fun m hm => h m (by omega))
    rw [show 2 * (R + 1) + e = 2 * R + e + 2 by omega, show s + (R + 1) = s + R + 1 by omega]
    rcases h R (by omega) with ⟨h1, h2⟩ | ⟨⟨h1, h1'⟩, h2⟩
    · rw [h2]; exact pa_turn hab h1 i1 i2
    · rw [h2]; exact pa_none hab h1 h1' i1 i2
theorem pa_edge {u : Nat → Int} {a b : Int} (hab : a ≠ b) : ∀ m, (∀ k, k < m → u (2 * k) = u (2 * k + 1)) → paB u a b (2 * m) % 2 = 0
  | 0, _ => rfl
  | m + 1, h => by
    have ih := pa_edge hab m (fun k hk => h k (by omega))
    have h0 := h m (by omega)
    show paB u a b (2 * m + 1 + 1) % 2 = 0
    simp only [paB, paA]
    rw [← h0]
    generalize u (2 * m) = s
    by_cases e : s = b
    · simp only [if_pos e, if_neg (fun e' => hab (e'.symm.trans e) : ¬ s = a)]; omega
    · simp only [if_neg e]; omega

/-! all rows -/
/-- the number of inner points in the first y rows of them -/
def rsN (W : Nat) : Nat → Nat
  | 0 => 0
  | y + 1 => rsN W y + (if y % 2 = 0 then W - 1 else W)
theorem rs_row {W : Int} {w : Nat} (hw : W = w) (h1 : 1 ≤ w) : ∀ y : Nat, (rsN w y : Int) = rowN W ((y : Int) + 1)
  | 0 => by rw [show (((0 : Nat) : Int) + 1) = 1 from rfl, rowN_one]; rfl
  | y + 1 => by
    have ih := rs_row hw h1 y
    rw [show (((y + 1 : Nat) : Int) + 1) = ((y : Int) + 1) + 1 by omega, rowN_succ W _ (by omega), ← ih]
    show ((rsN w y + (if y % 2 = 0 then w - 1 else w) : Nat) : Int) = _
    split <;> split <;> omega
theorem row_end (W H : Int) : rowN W (2 * H) = inner W H := by
  unfold rowN inner
  rw [Int.sub_mul, Int.mul_sub, Int.mul_sub, show (2 * H) / 2 = H by omega, Int.mul_comm W H]
  have e : 2 * H * W = 2 * (H * W) := Int.mul_assoc ..
  rw [e]
  omega
/-- whether the curves a and b cross at the inner point k -/
def crT (W H : Int) (f g : Nat → Int) (a b : Int) (k : Nat) : Prop :=
  f k = 0 ∧ (g (segOf H (ptX W k) (ptY W k) (-1) (-1)).toNat = a ∧ g (segOf H (ptX W k) (ptY W k) 1 (-1)).toNat = b ∨ g (segOf H (ptX W k) (ptY W k) (-1) (-1)).toNat = b ∧ g (segOf H (ptX W k) (ptY W k) 1 (-1)).toNat = a)
instance (W H : Int) (f g : Nat → Int) (a b : Int) (k : Nat) : Decidable (crT W H f g a b k) := by unfold crT; infer_instance
/-- at how many of the first k inner points -/
def crF (W H : Int) (f g : Nat → Int) (a b : Int) : Nat → Nat
  | 0 => 0
  | k + 1 => crF W H f g a b k + (if crT W H f g a b k then 1 else 0)
theorem crF_le (W H : Int) (f g : Nat → Int) (a b : Int) : ∀ k, crF W H f g a b k ≤ k
  | 0 => Nat.le_refl _
  | k + 1 => by have := crF_le W H f g a b k; show _ + _ ≤ _; split <;> omega
theorem rs_le (w : Nat) : ∀ {y z : Nat}, y ≤ z → rsN w y ≤ rsN w z
  | y, 0, h => by rw [show y = 0 by omega]; exact Nat.le_refl _
  | y, z + 1, h => by
    rcases Nat.eq_or_lt_of_le h with e | e
    · rw [e]; exact Nat.le_refl _
    · exact Nat.le_trans (rs_le w (y := y) (z := z) (by omega)) (Nat.le_add_right _ _)
theorem cross_even {W H : Int} {n : Nat} {f g : Nat → Int} {a b : Int} (hv : validB W H n f = true) (hc : Closed W H n f g) (hab : a ≠ b) : crF W H f g a b n % 2 = 0 := by
  obtain ⟨hW, hH, hn, hk⟩ := validB_yes hv
  obtain ⟨a1, a2⟩ := side_mk hW
  obtain ⟨b1, b2⟩ := side_mk hH
  obtain ⟨w, hw⟩ : ∃ w : Nat, W = w := ⟨W.toNat, by omega⟩
  obtain ⟨h, hh⟩ : ∃ h : Nat, H = h := ⟨H.toNat, by omega⟩
  have hN : rsN w (2 * h - 1) = n := by
    have e := rs_row hw (by omega) (2 * h - 1)
    rw [show (((2 * h - 1 : Nat) : Int) + 1) = 2 * H by omega, row_end, ← hn] at e
    omega
  have key : ∀ y, y ≤ 2 * h - 1 → crF W H f g a b (rsN w y) % 2 = (paB (fun i => colC H g i 0) a b (2 * w) + paB (fun i => colC H g i y) a b (2 * w)) % 2 := by
    intro y
    induction y with
    | zero => intro _; show 0 % 2 = _; omega
    | succ y ih =>
      intro hy
      have ih := ih (by omega)
      have hpt : ∀ m : Nat, m < (if y % 2 = 0 then w - 1 else w) → ptX W ((rsN w y + m : Nat) : Int) = ((2 * m + (y + 1) % 2 : Nat) : Int) + 1 ∧ ptY W ((rsN w y + m : Nat) : Int) = (y : Int) + 1 := fun m hm => by
        have r1 := rs_row hw (by omega) y
        have r2 := rs_row hw (by omega) (y + 1)
        have r3 : rsN w (y + 1) = rsN w y + (if y % 2 = 0 then w - 1 else w) := rfl
        have r4 := rs_le w (y := y + 1) (z := 2 * h - 1) hy
        rw [hN] at r4
        have ey := pt_only (W := W) (H := H) (k := ((rsN w y + m : Nat) : Int)) (y := (y : Int) + 1) a1 b1 (by omega) (by rw [← hn]; omega) (by omega) (by omega) (by rw [← r1]; omega) (.inr (by rw [show ((y : Int) + 1 + 1) = (((y + 1 : Nat) : Int) + 1) by omega, ← r2]; omega))
        refine ⟨?_, ey.symm⟩
        have := (pt_rows (W := W) (k := ((rsN w y + m : Nat) : Int)) a1 (by omega)).2.2.2
        rw [this, ← ey, ← r1]
        omega
      have row := pa_row (u := fun i => colC H g i y) (l := fun i => colC H g i (y + 1)) hab (cc := crF W H f g a b) (s := rsN w y) (e := (y + 1) % 2) (by
        rcases Nat.mod_two_eq_zero_or_one (y + 1) with e | e
        · exact .inl e
        · exact .inr ⟨e, meet_left hv hc (by omega) (by omega)⟩) (if y % 2 = 0 then w - 1 else w) (fun m hm => by
        obtain ⟨p1, p2⟩ := hpt m hm
        have hx : ((2 * m + (y + 1) % 2 : Nat) : Int) + 2 ≤ 2 * W := by split at hm <;> omega
        obtain ⟨t1, t2, t0⟩ := meet_inner hv hc (x := 2 * m + (y + 1) % 2) (j := y) hx (by omega) (by omega)
        have hnum : numN W (((2 * m + (y + 1) % 2 : Nat) : Int) + 1) ((y : Int) + 1) = ((rsN w y + m : Nat) : Int) := by
          unfold numN
          rw [← rs_row hw (by omega) y]
          omega
        rw [hnum] at t1 t2 t0
        simp only [Int.toNat_natCast] at t1 t2 t0
        have s1 : g (segOf H (ptX W ((rsN w y + m : Nat) : Int)) (ptY W ((rsN w y + m : Nat) : Int)) (-1) (-1)).toNat = colC H g (2 * m + (y + 1) % 2) y := by rw [p1, p2]; unfold segOf colC; rw [low_m, low_m]
        have s2 : g (segOf H (ptX W ((rsN w y + m : Nat) : Int)) (ptY W ((rsN w y + m : Nat) : Int)) 1 (-1)).toNat = colC H g (2 * m + (y + 1) % 2 + 1) y := by rw [p1, p2]; unfold segOf colC; rw [low_p, low_m]; rfl
        have hstep : crF W H f g a b (rsN w y + m + 1) = crF W H f g a b (rsN w y + m) + (if crT W H f g a b (rsN w y + m) then 1 else 0) := rfl
        by_cases k1 : f (rsN w y + m) = 1
        · refine .inl ⟨.inl (t1 k1), ?_⟩
          rw [hstep, if_neg (fun hT => by have := hT.1; omega)]
          rfl
        · by_cases k2 : f (rsN w y + m) = 2
          · refine .inl ⟨.inr (t2 k2), ?_⟩
            rw [hstep, if_neg (fun hT => by have := hT.1; omega)]
            rfl
          · refine .inr ⟨t0 k1 k2, ?_⟩
            have k0 : f (rsN w y + m) = 0 := by
              have := kinds_iff.1 hk (rsN w y + m) (by
                have r3 : rsN w (y + 1) = rsN w y + (if y % 2 = 0 then w - 1 else w) := rfl
                have r4 := rs_le w (y := y + 1) (z := 2 * h - 1) hy
                omega)
              omega
            have hcr : crT W H f g a b (rsN w y + m) ↔ (colC H g (2 * m + (y + 1) % 2) y = a ∧ colC H g (2 * m + (y + 1) % 2 + 1) y = b ∨ colC H g (2 * m + (y + 1) % 2) y = b ∧ colC H g (2 * m + (y + 1) % 2 + 1) y = a) := by
              unfold crT
              rw [s1, s2]
              simp only [k0, true_and]
            rw [hstep]
            simp only [hcr])
      have e3 : rsN w (y + 1) = rsN w y + (if y % 2 = 0 then w - 1 else w) := rfl
      rw [e3]
      obtain ⟨q1, q2⟩ := row
      by_cases hy2 : y % 2 = 0
      · rw [if_pos hy2] at q1 q2 ⊢
        rw [show (y + 1) % 2 = 1 by omega] at q1 q2
        have hr : colC H g (2 * (w - 1) + 1) y = colC H g (2 * (w - 1) + 1) (y + 1) := meet_right hv hc (by omega) (by omega) hy2
        rw [show 2 * w = 2 * (w - 1) + 1 + 1 by omega] at ih ⊢
        have eu : paB (fun i => colC H g i y) a b (2 * (w - 1) + 1 + 1) = paB (fun i => colC H g i y) a b (2 * (w - 1) + 1) + (if colC H g (2 * (w - 1) + 1) y = b then paA (fun i => colC H g i y) a (2 * (w - 1) + 1) else 0) := rfl
        have el : paB (fun i => colC H g i (y + 1)) a b (2 * (w - 1) + 1 + 1) = paB (fun i => colC H g i (y + 1)) a b (2 * (w - 1) + 1) + (if colC H g (2 * (w - 1) + 1) (y + 1) = b then paA (fun i => colC H g i (y + 1)) a (2 * (w - 1) + 1) else 0) := rfl
        rw [hr] at eu
        by_cases hs : colC H g (2 * (w - 1) + 1) (y + 1) = b
        · rw [if_pos hs] at eu el; omega
        · rw [if_neg hs] at eu el; omega
      · rw [if_neg hy2] at q1 q2 ⊢
        rw [show (y + 1) % 2 = 0 by omega] at q1 q2
        simp only [Nat.add_zero] at q1 q2
        omega
  have e1 := key (2 * h - 1) (Nat.le_refl _)
  rw [hN] at e1
  have t0 := pa_edge (u := fun i => colC H g i 0) hab w (fun k hk => meet_top hv hc (by omega) (by omega))
  have t1 := pa_edge (u := fun i => colC H g i (2 * h - 1)) hab w (fun k hk => meet_bot hv hc (by omega) (by omega) (by omega))
  omega
end Go.Proofs.YtbpdjmjkjiddjaaDoor.Base
