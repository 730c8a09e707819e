/-
  Pairings: each number has a partner; the loops of two pairings.
-/
import Derived.Test.YtpkajonnopmciaaDoorBase
namespace Go.Proofs.YtpkajonnopmciaaDoor.Base
set_option linter.unusedVariables false
set_option linter.unusedSimpArgs false

/-- partners without fixed numbers -/
structure PR (n : Nat) (f : Nat → Int) : Prop where
  pars : ∀ k, k < n → 0 ≤ f k ∧ f k < n ∧ f k ≠ k ∧ f (f k).toNat = k
def al (f : Nat → Int) (k : Nat) : Nat := (f k).toNat
section
variable {n : Nat} {f g : Nat → Int}
theorem PR.lt (h : PR n f) {k : Nat} (hk : k < n) : al f k < n := by have := h.pars k hk; unfold al; omega
theorem PR.ne (h : PR n f) {k : Nat} (hk : k < n) : al f k ≠ k := by have := h.pars k hk; unfold al; omega
theorem PR.inv (h : PR n f) {k : Nat} (hk : k < n) : al f (al f k) = k := by have := (h.pars k hk).2.2.2; unfold al; rw [this]; omega
theorem PR.val (h : PR n f) {k : Nat} (hk : k < n) : f k = al f k := by have := h.pars k hk; unfold al; omega
theorem PR.inj (h : PR n f) {x y : Nat} (hx : x < n) (hy : y < n) (e : al f x = al f y) : x = y := by rw [← h.inv hx, e, h.inv hy]
theorem pig : ∀ (M : Nat) (l : List Nat), l.Nodup → (∀ x ∈ l, x < M) → l.length ≤ M
  | 0, l, _, h => by
    cases l with
    | nil => exact Nat.le_refl _
    | cons a r => exact absurd (h a (List.mem_cons_self ..)) (by omega)
  | M + 1, l, hn, h => by
    have h1 := pig M (l.erase M) (hn.erase _) (fun x hx => by
      have hm := (hn.mem_erase_iff.1 hx)
      have := h x hm.2
      omega)
    have h2 := List.length_erase (a := M) (l := l)
    split at h2 <;> omega
theorem nodup_map_of {l : List Nat} {φ : Nat → Nat} (hl : l.Nodup) (hi : ∀ x ∈ l, ∀ y ∈ l, φ x = φ y → x = y) : (l.map φ).Nodup := by
  rw [List.nodup_iff_pairwise_ne, List.pairwise_map]
  rw [List.nodup_iff_pairwise_ne] at hl
  exact hl.imp_of_mem fun ha hb hab e => hab (hi _ ha _ hb e)
/-- the numbers of a list whose partners are on the other side of a test are at most half of all -/
theorem PR.half (h : PR n f) (p : Nat → Bool) (hp : ∀ k, k < n → p k = true → p (al f k) = false) : 2 * ((List.range n).filter p).length ≤ n := by
  have hnd : (((List.range n).filter p) ++ ((List.range n).filter p).map (al f)).Nodup := by
    rw [List.nodup_append]
    refine ⟨List.nodup_range.filter _, nodup_map_of (List.nodup_range.filter _) (fun x hx y hy e => ?_), ?_⟩
    · simp only [List.mem_filter, List.mem_range] at hx hy
      exact h.inj hx.1 hy.1 e
    · intro x hx y hy e
      simp only [List.mem_filter, List.mem_range, List.mem_map] at hx hy
      obtain ⟨z, hz, rfl⟩ := hy
      rw [e, hp z hz.1 hz.2] at hx
      exact absurd hx.2 (by simp)
  have := pig n _ hnd (fun x hx => by
    rw [List.mem_append, List.mem_map] at hx
    rcases hx with hx | ⟨z, hz, rfl⟩
    · exact List.mem_range.1 (List.mem_filter.1 hx).1
    · exact h.lt (List.mem_range.1 (List.mem_filter.1 hz).1))
  simp at this ⊢
  omega
theorem filt_add (p : Nat → Bool) (l : List Nat) : (l.filter p).length + (l.filter fun x => !p x).length = l.length := by
  induction l with
  | nil => rfl
  | cons a r ih =>
    cases h : p a <;> simp [List.filter, h] <;> omega
theorem PR.lows (h : PR n f) : 2 * ((List.range n).filter fun k => decide (k < al f k)).length = n := by
  have h1 := h.half (fun k => decide (k < al f k)) (fun k hk hp => by
    simp only [decide_eq_true_eq] at hp
    simp only [decide_eq_false_iff_not, h.inv hk]
    omega)
  have h2 := h.half (fun k => !decide (k < al f k)) (fun k hk hp => by
    have := h.ne hk
    simp only [Bool.not_eq_true', decide_eq_false_iff_not] at hp
    simp only [Bool.not_eq_false', decide_eq_true_eq, h.inv hk]
    omega)
  have h3 := filt_add (fun k => decide (k < al f k)) (List.range n)
  simp at h3 h2 h1 ⊢
  omega
theorem PR.even (h : PR n f) : n % 2 = 0 := by have := h.lows; omega

/-- what is reached by going to partners of either pairing -/
inductive Rl (f g : Nat → Int) : Nat → Nat → Prop
  | refl (x : Nat) : Rl f g x x
  | a {x y : Nat} : Rl f g x y → Rl f g x (al f y)
  | b {x y : Nat} : Rl f g x y → Rl f g x (al g y)
theorem Rl.swap {x y : Nat} (h : Rl f g x y) : Rl g f x y := by
  induction h with
  | refl => exact .refl _
  | a _ ih => exact .b ih
  | b _ ih => exact .a ih
theorem Rl.trans {x y z : Nat} (h : Rl f g x y) (h' : Rl f g y z) : Rl f g x z := by
  induction h' with
  | refl => exact h
  | a _ ih => exact .a ih
  | b _ ih => exact .b ih
theorem Rl.lt (hf : PR n f) (hg : PR n g) {x y : Nat} (h : Rl f g x y) (hx : x < n) : y < n := by
  induction h with
  | refl => exact hx
  | a _ ih => exact hf.lt ih
  | b _ ih => exact hg.lt ih
theorem Rl.symm (hf : PR n f) (hg : PR n g) {x y : Nat} (h : Rl f g x y) (hx : x < n) : Rl f g y x := by
  induction h with
  | refl => exact .refl _
  | @a y h1 ih =>
    have hy := h1.lt hf hg hx
    have := Rl.a (g := g) (Rl.refl (f := f) (g := g) (al f y))
    rw [hf.inv hy] at this
    exact this.trans ih
  | @b y h1 ih =>
    have hy := h1.lt hf hg hx
    have := Rl.b (f := f) (Rl.refl (f := f) (g := g) (al g y))
    rw [hg.inv hy] at this
    exact this.trans ih

/-- j rounds from i -/
def lpW (f g : Nat → Int) : Nat → Nat → Nat
  | 0, i => i
  | j + 1, i => al g (al f (lpW f g j i))
theorem lpW_lt (hf : PR n f) (hg : PR n g) {i : Nat} (hi : i < n) : ∀ j, lpW f g j i < n
  | 0 => hi
  | j + 1 => hg.lt (hf.lt (lpW_lt hf hg hi j))
theorem lpW_add (i : Nat) (a : Nat) : ∀ b, lpW f g (a + b) i = lpW f g b (lpW f g a i)
  | 0 => rfl
  | b + 1 => by rw [← Nat.add_assoc]; exact congrArg (fun x => al g (al f x)) (lpW_add i a b)
theorem lpW_inj (hf : PR n f) (hg : PR n g) {x y : Nat} (hx : x < n) (hy : y < n) : ∀ j, lpW f g j x = lpW f g j y → x = y
  | 0, e => e
  | j + 1, e => lpW_inj hf hg hx hy j (hf.inj (lpW_lt hf hg hx j) (lpW_lt hf hg hy j) (hg.inj (hf.lt (lpW_lt hf hg hx j)) (hf.lt (lpW_lt hf hg hy j)) e))
/-- partners are not on the walk -/
theorem lp_no (hf : PR n f) (hg : PR n g) {i : Nat} (hi : i < n) : ∀ (d j : Nat), lpW f g (j + d) i = al f (lpW f g j i) → False
  | 0, j, e => hf.ne (lpW_lt hf hg hi j) e.symm
  | 1, j, e => hg.ne (hf.lt (lpW_lt hf hg hi j)) e
  | d + 2, j, e => by
    refine lp_no hf hg hi d (j + 1) ?_
    have e1 : al g (al f (lpW f g (j + 1 + d) i)) = al f (lpW f g j i) := by rw [← e, show j + (d + 2) = j + 1 + d + 1 by omega]; rfl
    have e2 := congrArg (al g) e1
    rw [hg.inv (hf.lt (lpW_lt hf hg hi _))] at e2
    have e3 := congrArg (al f) e2
    rw [hf.inv (lpW_lt hf hg hi _)] at e3
    exact e3
theorem lp_apart (hf : PR n f) (hg : PR n g) {i : Nat} (hi : i < n) (a b : Nat) : lpW f g a i ≠ al f (lpW f g b i) := fun e => by
  rcases Nat.le_total b a with h | h
  · exact lp_no hf hg hi (a - b) b (by rw [show b + (a - b) = a by omega]; exact e)
  · refine lp_no hf hg hi (b - a) a ?_
    rw [show a + (b - a) = b by omega, e, hf.inv (lpW_lt hf hg hi b)]
def LPer (f g : Nat → Int) (i m : Nat) : Prop := 1 ≤ m ∧ lpW f g m i = i ∧ ∀ j, 1 ≤ j → j < m → lpW f g j i ≠ i
theorem least_of {p : Nat → Prop} : ∀ (m : Nat), (∃ j, 1 ≤ j ∧ j ≤ m ∧ p j) → ∃ N, 1 ≤ N ∧ N ≤ m ∧ p N ∧ ∀ j, 1 ≤ j → j < N → ¬ p j
  | 0, ⟨j, h1, h2, _⟩ => by omega
  | m + 1, ⟨j, h1, h2, h3⟩ => by
    by_cases h : ∃ j, 1 ≤ j ∧ j ≤ m ∧ p j
    · obtain ⟨N, a, b, c, d⟩ := least_of m h
      exact ⟨N, a, by omega, c, d⟩
    · have e : j = m + 1 := by
        rcases Nat.lt_or_ge m j with h' | h'
        · omega
        · exact absurd ⟨j, h1, h', h3⟩ h
      exact ⟨j, h1, h2, h3, fun i i1 i2 hi => h ⟨i, i1, by omega, hi⟩⟩
theorem lper_exists (hf : PR n f) (hg : PR n g) {i : Nat} (hi : i < n) : ∃ m, m ≤ n ∧ LPer f g i m := by
  have key : ∃ j, 1 ≤ j ∧ j ≤ n ∧ lpW f g j i = i := by
    refine Classical.byContradiction fun hne => ?_
    have hnd : ((List.range (n + 1)).map fun a => lpW f g a i).Nodup := by
      refine nodup_map_of List.nodup_range (fun x hx y hy e => ?_)
      have hx' := List.mem_range.1 hx
      have hy' := List.mem_range.1 hy
      rcases Nat.lt_trichotomy x y with h | h | h
      · rw [show y = (y - x) + x by omega, lpW_add] at e
        exact absurd ⟨y - x, by omega, by omega, (lpW_inj hf hg hi (lpW_lt hf hg hi _) x e).symm⟩ hne
      · exact h
      · rw [show x = (x - y) + y by omega, lpW_add] at e
        exact absurd ⟨x - y, by omega, by omega, lpW_inj hf hg (lpW_lt hf hg hi _) hi y e⟩ hne
    have := pig n _ hnd (fun x hx => by
      obtain ⟨a, -, rfl⟩ := List.mem_map.1 hx
      exact lpW_lt hf hg hi a)
    simp at this
    omega
  obtain ⟨m, h1, h2, h3, h4⟩ := least_of n key
  exact ⟨m, h2, h1, h3, h4⟩
theorem lp_ne (hf : PR n f) (hg : PR n g) {i m : Nat} (hi : i < n) (hm : LPer f g i m) {a b : Nat} (h : a < b) (hb : b < m) : lpW f g b i ≠ lpW f g a i := fun e => by
  rw [show b = (b - a) + a by omega, lpW_add] at e
  exact hm.2.2 (b - a) (by omega) (by omega) (lpW_inj hf hg (lpW_lt hf hg hi _) hi a e)
/-- x is met within the first j rounds from i -/
def onJ (f g : Nat → Int) (i j x : Nat) : Prop := ∃ t, t < j ∧ (x = lpW f g t i ∨ x = al f (lpW f g t i))
theorem onJ_rl {i j x : Nat} (h : onJ f g i j x) : Rl f g i x := by
  have hw : ∀ t, Rl f g i (lpW f g t i) := fun t => by
    induction t with
    | zero => exact .refl _
    | succ t ih => exact .b (.a ih)
  obtain ⟨t, -, rfl | rfl⟩ := h
  · exact hw t
  · exact .a (hw t)
theorem rl_onJ (hf : PR n f) (hg : PR n g) {i m x : Nat} (hi : i < n) (hm : LPer f g i m) (h : Rl f g i x) : onJ f g i m x := by
  have h1 := hm.1
  induction h with
  | refl => exact ⟨0, by omega, .inl rfl⟩
  | a _ ih =>
    obtain ⟨t, ht, rfl | rfl⟩ := ih
    · exact ⟨t, ht, .inr rfl⟩
    · exact ⟨t, ht, .inl (hf.inv (lpW_lt hf hg hi t))⟩
  | b _ ih =>
    obtain ⟨t, ht, rfl | rfl⟩ := ih
    · cases t with
      | zero =>
        refine ⟨m - 1, by omega, .inr ?_⟩
        have e : lpW f g (m - 1 + 1) i = i := by rw [show m - 1 + 1 = m by omega]; exact hm.2.1
        have e2 : al g (al g (al f (lpW f g (m - 1) i))) = al g i := congrArg (al g) e
        rw [hg.inv (hf.lt (lpW_lt hf hg hi _))] at e2
        exact e2.symm
      | succ t => exact ⟨t, by omega, .inr (hg.inv (hf.lt (lpW_lt hf hg hi t)))⟩
    · rcases Nat.lt_or_ge (t + 1) m with h | h
      · exact ⟨t + 1, h, .inl rfl⟩
      · obtain rfl : t + 1 = m := by omega
        exact ⟨0, by omega, .inl hm.2.1⟩

/-- x is met from one of the first k numbers -/
noncomputable def snB (f g : Nat → Int) (k x : Nat) : Bool := open Classical in decide (∃ i, i < k ∧ Rl f g i x)
theorem sn_iff {k x : Nat} : snB f g k x = true ↔ ∃ i, i < k ∧ Rl f g i x := by classical exact decide_eq_true_iff
theorem sn_no {k x : Nat} : snB f g k x = false ↔ ¬ ∃ i, i < k ∧ Rl f g i x := by classical exact decide_eq_false_iff_not
theorem sn_zero (x : Nat) : snB f g 0 x = false := sn_no.2 fun ⟨i, h, _⟩ => by omega
theorem sn_swap (k x : Nat) : snB f g k x = snB g f k x := by
  rw [Bool.eq_iff_iff, sn_iff, sn_iff]
  exact ⟨fun ⟨i, a, b⟩ => ⟨i, a, b.swap⟩, fun ⟨i, a, b⟩ => ⟨i, a, b.swap⟩⟩
/-- a number that was met ahead brings nothing new -/
theorem sn_old (hf : PR n f) (hg : PR n g) {k : Nat} (hk : k < n) (h : snB f g k k = true) (x : Nat) : snB f g (k + 1) x = snB f g k x := by
  rw [Bool.eq_iff_iff, sn_iff, sn_iff]
  obtain ⟨i0, h0, h1⟩ := sn_iff.1 h
  refine ⟨fun ⟨i, a, b⟩ => ?_, fun ⟨i, a, b⟩ => ⟨i, by omega, b⟩⟩
  rcases Nat.lt_succ_iff_lt_or_eq.1 a with a | rfl
  · exact ⟨i, a, b⟩
  · exact ⟨i0, h0, h1.trans b⟩
/-- what is met is closed -/
theorem sn_walk (hf : PR n f) (hg : PR n g) {k : Nat} (hk : k < n) {x y : Nat} (hx : x < n) (h : Rl f g x y) : snB f g k y = snB f g k x := by
  rw [Bool.eq_iff_iff, sn_iff, sn_iff]
  exact ⟨fun ⟨i, a, b⟩ => ⟨i, a, b.trans (h.symm hf hg hx)⟩, fun ⟨i, a, b⟩ => ⟨i, a, b.trans h⟩⟩
noncomputable def wkS (f g : Nat → Int) (k j x : Nat) : Bool := open Classical in (snB f g k x || decide (onJ f g k j x))
theorem wk_zero (k x : Nat) : wkS f g k 0 x = snB f g k x := by
  classical
  have : ¬ onJ f g k 0 x := fun ⟨t, h, _⟩ => by omega
  simp [wkS, this]
theorem wk_succ (k j x : Nat) : wkS f g k (j + 1) x = (wkS f g k j x || x == lpW f g j k || x == al f (lpW f g j k)) := by
  classical
  have : onJ f g k (j + 1) x ↔ onJ f g k j x ∨ x = lpW f g j k ∨ x = al f (lpW f g j k) := by
    constructor
    · rintro ⟨t, h, e⟩
      rcases Nat.lt_succ_iff_lt_or_eq.1 h with h | rfl
      · exact .inl ⟨t, h, e⟩
      · exact .inr e
    · rintro (⟨t, h, e⟩ | e)
      · exact ⟨t, by omega, e⟩
      · exact ⟨j, by omega, e⟩
  rw [Bool.eq_iff_iff]
  simp only [wkS, Bool.or_eq_true, decide_eq_true_iff, this, beq_iff_eq]
  rw [or_assoc, or_assoc]
/-- within its period, the walk comes to a number that was not met -/
theorem wk_new (hf : PR n f) (hg : PR n g) {k m j : Nat} (hk : k < n) (hm : LPer f g k m) (h0 : snB f g k k = false) (hj : j < m) : wkS f g k j (lpW f g j k) = false := by
  classical
  have h1 : snB f g k (lpW f g j k) = false := by
    rw [sn_walk hf hg hk hk (onJ_rl (j := j + 1) ⟨j, by omega, .inl rfl⟩)]
    exact h0
  have h2 : ¬ onJ f g k j (lpW f g j k) := by
    rintro ⟨t, ht, e | e⟩
    · exact lp_ne hf hg hk hm ht hj e
    · exact lp_apart hf hg hk _ _ e
  simp [wkS, h1, h2]
theorem wk_end {k m : Nat} (hm : LPer f g k m) : wkS f g k m (lpW f g m k) = true := by
  classical
  have : onJ f g k m (lpW f g m k) := ⟨0, hm.1, .inl hm.2.1⟩
  simp [wkS, this]
theorem wk_all (hf : PR n f) (hg : PR n g) {k m : Nat} (hk : k < n) (hm : LPer f g k m) (x : Nat) : wkS f g k m x = snB f g (k + 1) x := by
  classical
  rw [Bool.eq_iff_iff, sn_iff]
  simp only [wkS, Bool.or_eq_true, decide_eq_true_iff, sn_iff]
  constructor
  · rintro (⟨i, a, b⟩ | h)
    · exact ⟨i, by omega, b⟩
    · exact ⟨k, by omega, onJ_rl h⟩
  · rintro ⟨i, a, b⟩
    rcases Nat.lt_succ_iff_lt_or_eq.1 a with a | rfl
    · exact .inl ⟨i, a, b⟩
    · exact .inr (rl_onJ hf hg hk hm b)
/-- the number of loops from the first k numbers -/
noncomputable def lcN (f g : Nat → Int) : Nat → Nat
  | 0 => 0
  | k + 1 => lcN f g k + (if snB f g k k = true then 0 else 1)
theorem lc_yes {k : Nat} (h : snB f g k k = true) : lcN f g (k + 1) = lcN f g k := by simp [lcN, h]
theorem lc_no {k : Nat} (h : snB f g k k = false) : lcN f g (k + 1) = lcN f g k + 1 := by simp [lcN, h]
theorem lc_swap : ∀ k, lcN f g k = lcN g f k
  | 0 => rfl
  | k + 1 => by simp only [lcN]; rw [lc_swap k, sn_swap]
theorem lc_le : ∀ k, lcN f g k ≤ k
  | 0 => Nat.le_refl _
  | k + 1 => by have := lc_le k; simp only [lcN]; split <;> omega
theorem lc_mono {k : Nat} : ∀ {m : Nat}, k ≤ m → lcN f g k ≤ lcN f g m
  | 0, h => by obtain rfl : k = 0 := by omega
               exact Nat.le_refl _
  | m + 1, h => by
    rcases Nat.lt_or_ge m k with h' | h'
    · obtain rfl : k = m + 1 := by omega
      exact Nat.le_refl _
    · have := lc_mono h'
      simp only [lcN]; omega
theorem lc_pos (hn : 1 ≤ n) : 1 ≤ lcN f g n := by
  have h := lc_mono (f := f) (g := g) hn
  rw [lc_no (sn_zero 0)] at h
  omega
theorem lc_filter : ∀ k, lcN f g k = ((List.range k).filter fun x => !snB f g x x).length
  | 0 => rfl
  | k + 1 => by
    rw [List.range_succ, List.filter_append, List.length_append, ← lc_filter k]
    cases h : snB f g k k <;> simp [lcN, h]
/-- the first one of its loop is before its partners -/
theorem sn_low (hf : PR n f) (hg : PR n g) {k : Nat} (hk : k < n) (h : snB f g k k = false) : k < al f k ∧ k < al g k := by
  have h1 := sn_no.1 h
  refine ⟨?_, ?_⟩
  · rcases Nat.lt_trichotomy k (al f k) with a | a | a
    · exact a
    · exact absurd a.symm (hf.ne hk)
    · exact absurd ⟨al f k, a, (Rl.a (.refl k)).symm hf hg hk⟩ h1
  · rcases Nat.lt_trichotomy k (al g k) with a | a | a
    · exact a
    · exact absurd a.symm (hg.ne hk)
    · exact absurd ⟨al g k, a, (Rl.b (.refl k)).symm hf hg hk⟩ h1
theorem filt_le {p q : Nat → Bool} : ∀ (l : List Nat), (∀ x ∈ l, p x = true → q x = true) → (l.filter p).length ≤ (l.filter q).length
  | [], _ => Nat.le_refl _
  | a :: r, h => by
    have ih := filt_le r (fun x hx => h x (List.mem_cons_of_mem _ hx))
    have ha := h a (List.mem_cons_self ..)
    cases hp : p a <;> cases hq : q a <;> simp [List.filter, hp, hq] <;> first | omega | (rw [hp] at ha; simp [hq] at ha)
theorem filt_eq {p q : Nat → Bool} : ∀ (l : List Nat), (∀ x ∈ l, p x = true → q x = true) → (l.filter p).length = (l.filter q).length → ∀ x ∈ l, q x = true → p x = true
  | [], _, _, x, hx, _ => by cases hx
  | a :: r, h, e, x, hx, hqx => by
    have ih := filt_eq r (fun x hx => h x (List.mem_cons_of_mem _ hx))
    have hle := filt_le r (fun x hx => h x (List.mem_cons_of_mem _ hx))
    have ha := h a (List.mem_cons_self ..)
    cases hp : p a <;> cases hq : q a <;> simp [List.filter, hp, hq] at e
    · rcases List.mem_cons.1 hx with rfl | hx
      · rw [hq] at hqx; cases hqx
      · exact ih e x hx hqx
    · omega
    · rw [hp] at ha; simp [hq] at ha
    · rcases List.mem_cons.1 hx with rfl | hx
      · exact hp
      · exact ih e x hx hqx
theorem lc_half (hf : PR n f) (hg : PR n g) : 2 * lcN f g n ≤ n := by
  have h1 := filt_le (p := fun x => !snB f g x x) (q := fun k => decide (k < al f k)) (List.range n) (fun x hx hp => by
    have hx' := List.mem_range.1 hx
    exact decide_eq_true (sn_low hf hg hx' (by simpa using hp)).1)
  have h2 := hf.lows
  rw [lc_filter]
  omega
theorem lc_self (hf : PR n f) : 2 * lcN f f n = n := by
  have h2 := hf.lows
  have h1 : ((List.range n).filter fun x => !snB f f x x) = (List.range n).filter fun k => decide (k < al f k) := by
    refine List.filter_congr fun x hx => ?_
    have hx' := List.mem_range.1 hx
    rw [Bool.eq_iff_iff]
    constructor
    · intro h
      exact decide_eq_true (sn_low hf hf hx' (by simpa using h)).1
    · intro h
      have h := of_decide_eq_true h
      have : snB f f x x = false := by
        refine sn_no.2 fun ⟨i, hi, hr⟩ => ?_
        have key : ∀ y, Rl f f i y → y = i ∨ y = al f i := fun y hy => by
          induction hy with
          | refl => exact .inl rfl
          | a _ ih => rcases ih with rfl | rfl
                      · exact .inr rfl
                      · exact .inl (hf.inv (by omega))
          | b _ ih => rcases ih with rfl | rfl
                      · exact .inr rfl
                      · exact .inl (hf.inv (by omega))
        rcases key x hr with e | e
        · omega
        · rw [e, hf.inv (by omega)] at h
          rw [e] at hi
          omega
      simp [this]
  rw [lc_filter, h1]
  exact h2
/-- as many loops as pairs: the same pairing -/
theorem lc_same (hf : PR n f) (hg : PR n g) (h : 2 * lcN f g n = n) : ∀ k, k < n → f k = g k := by
  have e1 : ∀ k, k < n → k < al f k → snB f g k k = false := fun k hk hl => by
    have := filt_eq (p := fun x => !snB f g x x) (q := fun k => decide (k < al f k)) (List.range n) (fun x hx hp => decide_eq_true (sn_low hf hg (List.mem_range.1 hx) (by simpa using hp)).1) (by rw [← lc_filter]; have := hf.lows; omega) k (List.mem_range.2 hk) (decide_eq_true hl)
    simpa using this
  have e2 : ∀ k, k < n → k < al g k → snB f g k k = false := fun k hk hl => by
    have := filt_eq (p := fun x => !snB f g x x) (q := fun k => decide (k < al g k)) (List.range n) (fun x hx hp => decide_eq_true (sn_low hf hg (List.mem_range.1 hx) (by simpa using hp)).2) (by rw [← lc_filter]; have := hg.lows; omega) k (List.mem_range.2 hk) (decide_eq_true hl)
    simpa using this
  have key : ∀ k, k < n → k < al f k → al f k = al g k := fun k hk hl => by
    refine Classical.byContradiction fun hne => ?_
    have hkn := e1 k hk hl
    have hy : al f k < n := hf.lt hk
    have hyf : ¬ al f k < al f (al f k) := by rw [hf.inv hk]; omega
    have hyg : ¬ al f k < al g (al f k) := fun hlt => by
      have := (sn_low hf hg hy (e2 _ hy hlt)).1
      exact hyf this
    have hz : al g (al f k) < n := hg.lt hy
    have hzl : al g (al f k) < al g (al g (al f k)) := by
      rw [hg.inv hy]
      have := hg.ne hy
      omega
    have hzn := e2 _ hz hzl
    have hzk : al g (al f k) ≠ k := fun e => hne (by rw [← hg.inv hy, e])
    have r1 : Rl f g k (al g (al f k)) := .b (.a (.refl k))
    rcases Nat.lt_or_gt_of_ne hzk with a | a
    · exact sn_no.1 hkn ⟨_, a, r1.symm hf hg hk⟩
    · exact sn_no.1 hzn ⟨_, a, r1⟩
  intro k hk
  rw [hf.val hk, hg.val hk]
  rcases Nat.lt_trichotomy k (al f k) with a | a | a
  · rw [key k hk a]
  · exact absurd a.symm (hf.ne hk)
  · have h1 := key (al f k) (hf.lt hk) (by rw [hf.inv hk]; exact a)
    rw [hf.inv hk] at h1
    have h2 := congrArg (al g) h1
    rw [hg.inv (hf.lt hk)] at h2
    rw [h2]
end
end Go.Proofs.YtpkajonnopmciaaDoor.Base
