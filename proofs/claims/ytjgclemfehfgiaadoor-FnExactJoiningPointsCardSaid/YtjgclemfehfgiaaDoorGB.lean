/-
  Several texts in one.
-/
import Derived.Test.YtjgclemfehfgiaaDoorPrt
import Derived.Test.YtjgclemfehfgiaaDoorGA
import Derived.Test.YtjgclemfehfgiaaDoorWls
import Derived.Test.YtjgclemfehfgiaaDoorAll
import Derived.Test.YtjgclemfehfgiaaDoorHeap
import Derived.Deep.AppendLies
import Derived.Deep.RegionLaw
import Derived.IntWalk
import Derived.LaidEqlPtr
import Derived.Lib.Builder
import Derived.Test.YtjgclemfehfgiaaDoorPan
import Derived.Laws.StructEq
import Derived.Test.YtjgclemfehfgiaaDoorShape
import Derived.Test.YtjgclemfehfgiaaDoorClone
import Derived.Deep.DeepCutAuto
import Derived.Test.YtjgclemfehfgiaaDoorRfj
import Derived.Defers
import Derived.RangeFuncLeaves
import Derived.OwnWalkIn
import Derived.TacticsInMore
import Derived.LoopNIn
import Derived.LoopIn
import Derived.Shelf.Abstract
import Derived.BigQuiet
import Derived.Test.YtjgclemfehfgiaaDoorSetB
namespace Go.Proofs.YtjgclemfehfgiaaDoor.Base
open Go.RowKit
set_option linter.unusedVariables false
set_option linter.unusedSimpArgs false

/-- where R connects the segments of each step, it connects each segment with the least one of its curve -/
theorem trs_conn {W H : Int} {n : Nat} {f : Nat → Int} {R : Nat → Nat → Prop} (hv : validB W H n f = true)
    (hr : ∀ x, R x x) (hs : ∀ x y, R x y → R y x) (ht : ∀ x y z, R x y → R y z → R x z)
    (hR : ∀ u, okW W H n f u = true → R (sg H u).toNat (sg H (stp W H f u)).toNat) :
    ∀ (k : Nat), (k : Int) ≤ 4 * W * H → ∀ (s i : Nat), (trs W H f k).of s = (i : Int) → R s ((trs W H f k).st i)
  | 0, _, s, i, h => absurd h (by show (-1 : Int) ≠ i; omega)
  | k + 1, hk, s, i, h => by
    have ih := trs_conn hv hr hs ht hR k (by omega)
    rcases Int.lt_or_le ((trs W H f k).of k) 0 with h0 | h0
    · obtain ⟨hok, hsg⟩ := wkr_ok hv (k := k) (by omega)
      have hb := (trs_of_ge W H f k s).2.1
      rw [trs_no h0] at h ⊢
      simp only at h ⊢
      by_cases e : OnC W H f (wkr H k) (per W H f (wkr H k)) s
      · rw [mkd_yes e] at h
        rw [if_pos (by omega)]
        obtain ⟨t, -, e⟩ := e
        have hw : ∀ t, R k (sg H (stps W H f t (wkr H k))).toNat := by
          intro t
          induction t with
          | zero =>
            have e0 : (sg H (wkr H k)).toNat = k := by rw [hsg]; exact Int.toNat_natCast k
            show R k (sg H (wkr H k)).toNat
            rw [e0]
            exact hr k
          | succ t iht => exact ht _ _ _ iht (hR _ (stps_ok hok t))
        rw [e]
        exact hs _ _ (hw t)
      · rw [mkd_no e] at h
        rw [if_neg (by omega)]
        exact ih s i h
    · rw [trs_yes h0] at h ⊢
      exact ih s i h
/-- the least segment of a curve is on it -/
theorem trs_at {W H : Int} {n : Nat} {f : Nat → Int} (hv : validB W H n f = true) : ∀ (k : Nat), (k : Int) ≤ 4 * W * H → ∀ i, i < (trs W H f k).cnt → (trs W H f k).of ((trs W H f k).st i) = (i : Int)
  | 0, _, i, h => absurd h (by show ¬ i < 0; omega)
  | k + 1, hk, i, hi => by
    have ih := trs_at hv k (by omega)
    rcases Int.lt_or_le ((trs W H f k).of k) 0 with h0 | h0
    · obtain ⟨hok, hsg⟩ := wkr_ok hv (k := k) (by omega)
      have hk0 : (sg H (wkr H k)).toNat = k := by rw [hsg]; exact Int.toNat_natCast k
      rw [trs_no h0] at hi ⊢
      simp only at hi ⊢
      by_cases e : i = (trs W H f k).cnt
      · rw [if_pos e, e]
        exact mkd_yes ⟨0, (per_is hok).1, hk0.symm⟩
      · rw [if_neg e]
        have h1 := ih i (by omega)
        rw [mkd_no ?_]
        · exact h1
        rintro ⟨t, -, e2⟩
        rw [e2, closed_stps (trs_closed hv k (by omega)) hok t, hk0] at h1
        omega
    · rw [trs_yes h0] at hi ⊢
      exact ih i hi
/-- the groups of the segments that lists of pairs join are the curves, where the pairs stay on their curves and connect each step's segments -/
theorem crv_groups {W H : Int} {n M : Nat} {f : Nat → Int} (hv : validB W H n f = true) (hM : (M : Int) = 4 * W * H) {q : Nat → Nat} {L : List (Nat × Nat)} (hj : Jns (fun z => z) L q) (hl : ∀ c ∈ L, c.1 < M ∧ c.2 < M)
    (h1 : ∀ c ∈ L, (trs W H f M).of c.1 = (trs W H f M).of c.2)
    (h2 : ∀ u, okW W H n f u = true → Cn (Stp M (fun z => z) L) (sg H u).toNat (sg H (stp W H f u)).toNat) :
    nRt M q = (trs W H f M).cnt := by
  have hf0 : FR M (fun z => z) (fun _ => 0) := ⟨fun x h => h, fun x _ => .inl rfl⟩
  obtain ⟨⟨rk, hf⟩, hc⟩ := hj.cls_iff hf0 hl
  have hge : ∀ s, s < M → 0 ≤ (trs W H f M).of s := fun s hs => trs_done hv M s (by omega) hs
  have hlt : ∀ s, (trs W H f M).of s < (trs W H f M).cnt := fun s => (trs_of_ge W H f M s).2.1
  have r1 : ∀ {x y : Nat}, Cn (Stp M (fun z => z) L) x y → (trs W H f M).of x = (trs W H f M).of y := by
    intro x y h
    induction h with
    | refl => rfl
    | of e =>
      rcases e.2.2 with ⟨r, h3, h4⟩ | h3
      · obtain rfl := h3.uniq (.top rfl)
        obtain rfl := h4.uniq (.top rfl)
        rfl
      · exact h1 _ h3
    | symm _ ih => exact ih.symm
    | trans _ _ i1 i2 => exact i1.trans i2
  refine nRt_of (of := fun s => ((trs W H f M).of s).toNat) hf (fun x y hx hy => (hc x y hx hy).trans ⟨fun h => congrArg Int.toNat (r1 h), fun h => ?_⟩) (fun x hx => ?_) (fun k hk => ?_)
  · have a := hge x hx
    have b := hge y hy
    have h' : ((trs W H f M).of x).toNat = ((trs W H f M).of y).toNat := h
    have hx' : (trs W H f M).of x = ((((trs W H f M).of x).toNat : Nat) : Int) := by omega
    have hy' : (trs W H f M).of y = ((((trs W H f M).of x).toNat : Nat) : Int) := by omega
    have k1 := trs_conn hv (R := Cn (Stp M (fun z => z) L)) (fun _ => .refl) (fun _ _ => .symm) (fun _ _ _ => .trans) h2 M (by omega) x _ hx'
    have k2 := trs_conn hv (R := Cn (Stp M (fun z => z) L)) (fun _ => .refl) (fun _ _ => .symm) (fun _ _ _ => .trans) h2 M (by omega) y _ hy'
    exact k1.trans k2.symm
  · have a := hge x hx
    have b := hlt x
    show Int.toNat _ < _
    omega
  · refine ⟨(trs W H f M).st k, trs_st M k hk, ?_⟩
    show Int.toNat _ = _
    rw [trs_at hv M (by omega) k hk]
    exact Int.toNat_natCast k

theorem jns_one {n : Nat} {p rk : Nat → Nat} (hf : FR n p rk) {x y : Nat} (hx : p x = x) (hy : p y = y) (hne : x ≠ y) (hxn : x < n) (hyn : y < n) : ∃ rk', FR n (hvP p (max x y) (min x y)) rk' := by
  rcases mm_cases x y with ⟨e1, e2⟩ | ⟨e1, e2⟩ <;> rw [e1, e2]
  · exact (hf.join hx hy hne hxn hyn).1
  · exact (hf.join hy hx (fun e => hne e.symm) hyn hxn).1
theorem jns_ex {n : Nat} : ∀ (l : List (Nat × Nat)) {p rk : Nat → Nat}, FR n p rk → (∀ c ∈ l, c.1 < n ∧ c.2 < n) → ∃ q, Jns p l q
  | [], p, _, _, _ => ⟨p, .nil⟩
  | (a, b) :: l, p, rk, hf, hl => by
    obtain ⟨ha, hb⟩ := hl (a, b) (List.mem_cons_self ..)
    obtain ⟨x, hx⟩ := hf.has ha
    obtain ⟨y, hy⟩ := hf.has hb
    by_cases e : x = y
    · subst e
      obtain ⟨q, hq⟩ := jns_ex l hf (fun c hc => hl c (List.mem_cons_of_mem _ hc))
      exact ⟨q, .same hx hy hq⟩
    · obtain ⟨rk1, h1⟩ := jns_one hf hx.root hy.root e (hx.lt hf ha) (hy.lt hf hb)
      obtain ⟨q, hq⟩ := jns_ex l h1 (fun c hc => hl c (List.mem_cons_of_mem _ hc))
      exact ⟨q, .diff hx hy e hq⟩
theorem Jns.app {p q r : Nat → Nat} {l m : List (Nat × Nat)} (h : Jns p l q) : Jns q m r → Jns p (l ++ m) r := by
  induction h with
  | nil => exact id
  | same a b _ ih => exact fun k => .same a b (ih k)
  | diff a b c _ ih => exact fun k => .diff a b c (ih k)
/-- one pair joined -/
theorem jns_head {n : Nat} {p q rk : Nat → Nat} {a b : Nat} {l : List (Nat × Nat)} (hf : FR n p rk) (ha : a < n) (hb : b < n) (h : Jns p ((a, b) :: l) q) :
    ∃ p' rk', FR n p' rk' ∧ Jns p' l q ∧ (∀ u v, u < n → v < n → (cls p' u v ↔ cls p u v ∨ (cls p u a ∧ cls p b v) ∨ (cls p u b ∧ cls p a v))) ∧ (cls p a b → nRt n p' = nRt n p) ∧ (¬ cls p a b → nRt n p' + 1 = nRt n p) := by
  cases h with
  | @same _ _ _ _ x _ h1 h2 hj =>
    have hab : cls p a b := ⟨x, h1, h2⟩
    refine ⟨p, rk, hf, hj, fun u v hu hv => ⟨.inl, ?_⟩, fun _ => rfl, fun h => absurd hab h⟩
    rintro (h | ⟨h3, h4⟩ | ⟨h3, h4⟩)
    · exact h
    · exact cls_trans h3 (cls_trans hab h4)
    · exact cls_trans h3 (cls_trans (cls_symm hab) h4)
  | @diff _ _ _ _ x y _ h1 h2 hne hj =>
    have hx := h1.lt hf ha
    have hy := h2.lt hf hb
    obtain ⟨rk1, hf1⟩ := jns_one hf h1.root h2.root hne hx hy
    refine ⟨_, rk1, hf1, hj, fun u v hu hv => cls_join hf h1 h2 hne ha hb hu hv _ _ (mm_cases x y), fun ⟨r, h3, h4⟩ => absurd ((h1.uniq h3).trans (h4.uniq h2)) hne, fun _ => ?_⟩
    rcases mm_cases x y with ⟨e1, e2⟩ | ⟨e1, e2⟩ <;> rw [e1, e2]
    · exact nRt_join h1.root hne hx
    · exact nRt_join h2.root (fun e => hne e.symm) hy
/-- how many groups less two pairs make -/
def dlB (ab cd ac bd bc ad : Bool) : Nat := if ab then (if cd then 0 else 1) else if cd || (ac && bd) || (bc && ad) then 1 else 2
open Classical in
theorem jns_two {n : Nat} {p q rk : Nat → Nat} {a b c d : Nat} (hf : FR n p rk) (ha : a < n) (hb : b < n) (hc : c < n) (hd : d < n) (h : Jns p [(a, b), (c, d)] q) :
    nRt n q + dlB (decide (cls p a b)) (decide (cls p c d)) (decide (cls p a c)) (decide (cls p b d)) (decide (cls p b c)) (decide (cls p a d)) = nRt n p := by
  obtain ⟨p1, rk1, f1, j1, c1, y1, n1⟩ := jns_head hf ha hb h
  obtain ⟨p2, rk2, f2, j2, c2, y2, n2⟩ := jns_head f1 hc hd j1
  cases j2
  have e := c1 c d hc hd
  have sy : ∀ u v, cls p u v ↔ cls p v u := fun u v => ⟨cls_symm, cls_symm⟩
  rw [sy c a, sy c b] at e
  unfold dlB
  by_cases hab : cls p a b
  · have e' : cls p1 c d ↔ cls p c d := by
      rw [e]
      refine ⟨?_, .inl⟩
      rintro (h | ⟨h3, h4⟩ | ⟨h3, h4⟩)
      · exact h
      · exact cls_trans (cls_symm h3) (cls_trans hab h4)
      · exact cls_trans (cls_symm h3) (cls_trans (cls_symm hab) h4)
    rw [e'] at y2 n2
    have k1 := y1 hab
    by_cases hcd : cls p c d
    · have k2 := y2 hcd
      simp only [hab, hcd, decide_true, if_true]
      omega
    · have k2 := n2 hcd
      simp only [hab, hcd, decide_true, decide_false, if_true, Bool.false_eq_true, if_false]
      omega
  · have k1 := n1 hab
    by_cases hcd : cls p c d ∨ (cls p a c ∧ cls p b d) ∨ (cls p b c ∧ cls p a d)
    · have k2 := y2 (e.2 hcd)
      rw [if_neg (by simpa using hab), if_pos (by simpa [or_assoc] using hcd)]
      omega
    · have k2 := n2 (fun h => hcd (e.1 h))
      rw [if_neg (by simpa using hab), if_neg (by simpa [or_assoc] using hcd)]
      omega
theorem dl_near : ∀ ab ac ad bc bd cd : Bool, (ab && bc → ac) → (ab && ac → bc) → (ac && bc → ab) → (ab && bd → ad) → (ab && ad → bd) → (ad && bd → ab) → (ac && cd → ad) → (ac && ad → cd) → (ad && cd → ac) → (bc && cd → bd) → (bc && bd → cd) → (bd && cd → bc) →
    ∃ m, (dlB ac bd ab cd bc ad = m ∨ dlB ac bd ab cd bc ad = m + 1) ∧ (dlB ab cd ac bd bc ad = m ∨ dlB ab cd ac bd bc ad = m + 1) ∧ (dlB ad bc ab cd bd ac = m ∨ dlB ad bc ab cd bd ac = m + 1) := by
  intro ab ac ad bc bd cd h1 h2 h3 h4 h5 h6 h7 h8 h9 ha hb hc
  cases ab <;> cases ac <;> cases ad <;> cases bc <;> cases bd <;> cases cd <;> simp at h1 h2 h3 h4 h5 h6 h7 h8 h9 ha hb hc <;> first | exact ⟨0, by decide⟩ | exact ⟨1, by decide⟩ | exact ⟨2, by decide⟩
/-- four elements joined in pairs: the three ways differ by one group at most -/
def KK (t : Int) (a b c d : Nat) : List (Nat × Nat) := if t = 1 then [(a, c), (b, d)] else if t = 2 then [(a, b), (c, d)] else [(a, d), (b, c)]
theorem jns_near {n : Nat} {p q q' rk : Nat → Nat} {a b c d : Nat} (hf : FR n p rk) (ha : a < n) (hb : b < n) (hc : c < n) (hd : d < n) {t t' : Int} (h : Jns p (KK t a b c d) q) (h' : Jns p (KK t' a b c d) q') : nRt n q ≤ nRt n q' + 1 := by
  classical
  have sy : ∀ u v, cls p u v ↔ cls p v u := fun u v => ⟨cls_symm, cls_symm⟩
  have tr : ∀ {u v w}, cls p u v → cls p v w → cls p u w := fun h k => cls_trans h k
  obtain ⟨m, k1, k2, k3⟩ := dl_near (decide (cls p a b)) (decide (cls p a c)) (decide (cls p a d)) (decide (cls p b c)) (decide (cls p b d)) (decide (cls p c d))
    (by simpa using fun x y => tr x y) (by simpa using fun x y => tr (cls_symm x) y) (by simpa using fun x y => tr x (cls_symm y))
    (by simpa using fun x y => tr x y) (by simpa using fun x y => tr (cls_symm x) y) (by simpa using fun x y => tr x (cls_symm y))
    (by simpa using fun x y => tr x y) (by simpa using fun x y => tr (cls_symm x) y) (by simpa using fun x y => tr x (cls_symm y))
    (by simpa using fun x y => tr x y) (by simpa using fun x y => tr (cls_symm x) y) (by simpa using fun x y => tr x (cls_symm y))
  have key : ∀ {t : Int} {q : Nat → Nat}, Jns p (KK t a b c d) q → nRt n q + m = nRt n p ∨ nRt n q + (m + 1) = nRt n p := by
    intro t q h
    unfold KK at h
    split at h
    · have e := jns_two hf ha hc hb hd h
      rw [show (decide (cls p c b) : Bool) = decide (cls p b c) from decide_eq_decide.2 (sy c b)] at e
      rcases k1 with k | k <;> rw [k] at e
      · exact .inl e
      · exact .inr e
    · split at h
      · have e := jns_two hf ha hb hc hd h
        rcases k2 with k | k <;> rw [k] at e
        · exact .inl e
        · exact .inr e
      · have e := jns_two hf ha hd hb hc h
        rw [show (decide (cls p d c) : Bool) = decide (cls p c d) from decide_eq_decide.2 (sy d c), show (decide (cls p d b) : Bool) = decide (cls p b d) from decide_eq_decide.2 (sy d b)] at e
        rcases k3 with k | k <;> rw [k] at e
        · exact .inl e
        · exact .inr e
  rcases key h with e | e <;> rcases key h' with e' | e' <;> omega

/-! one break changed -/
/-- the walkers to the right and back -/
def wkL (H : Int) (M : Nat) : List W4 := (List.range M).flatMap fun k => [wkr H k, bkw (wkr H k)]
/-- the links away from the point x0, y0 -/
def lkL (W H : Int) (M : Nat) (f : Nat → Int) (x0 y0 : Int) : List (Nat × Nat) := ((wkL H M).filter fun u => !(decide (u.1 + u.2.2.1 = x0) && decide (u.2.1 + u.2.2.2 = y0))).map fun u => ((sg H u).toNat, (sg H (stp W H f u)).toNat)
theorem wkl_has {W H : Int} {n M : Nat} {f : Nat → Int} {u : W4} (hv : validB W H n f = true) (hM : (M : Int) = 4 * W * H) (hu : okW W H n f u = true) : u ∈ wkL H M := by
  obtain ⟨g1, g2, -⟩ := sg_rng hu
  have hk : ((sg H u).toNat : Int) = sg H u := by omega
  obtain ⟨hok, hsg⟩ := wkr_ok hv (k := (sg H u).toNat) (by omega)
  refine List.mem_flatMap.2 ⟨(sg H u).toNat, List.mem_range.2 (by omega), ?_⟩
  rcases sg_eq hu hok (by rw [hsg]; exact hk.symm) with e | e
  · rw [← e]
    exact List.mem_cons_self ..
  · rw [← e]
    exact List.mem_cons_of_mem _ (List.mem_cons_self ..)
theorem wkl_ok {W H : Int} {n M : Nat} {f : Nat → Int} {u : W4} (hv : validB W H n f = true) (hM : (M : Int) = 4 * W * H) (hu : u ∈ wkL H M) : okW W H n f u = true := by
  obtain ⟨k, hk, h⟩ := List.mem_flatMap.1 hu
  have hok := (wkr_ok hv (k := k) (by have := List.mem_range.1 hk; omega)).1
  rcases List.mem_cons.1 h with rfl | h
  · exact hok
  · obtain rfl := List.mem_singleton.1 h
    exact bkw_ok hok
/-- the segment from the point x0, y0 in the direction e1, e2 -/
def sAt (H x0 y0 e1 e2 : Int) : Nat := (segOf H x0 y0 e1 e2).toNat
theorem at_link {W H : Int} {n : Nat} {f : Nat → Int} (hv : validB W H n f = true) {x0 y0 ex ey : Int} (h1 : signB ex = true) (h2 : signB ey = true) (hp : hasB W H x0 y0 = true) (hq : hasB W H (x0 + ex) (y0 + ey) = true) :
    ∃ u, okW W H n f u = true ∧ u.1 + u.2.2.1 = x0 ∧ u.2.1 + u.2.2.2 = y0 ∧ (sg H u).toNat = sAt H x0 y0 ex ey ∧ (sg H (stp W H f u)).toNat = sAt H x0 y0 (if tkOf W H f x0 y0 = 1 then ex else -ex) (if tkOf W H f x0 y0 = 2 then ey else -ey) := by
  have hw : okW W H n f (x0, y0, ex, ey) = true := by
    show wkB W H n f x0 y0 ex ey = true
    rw [wk_is hv, go_is h1 h2 hp]
    exact hq
  refine ⟨bkw (x0, y0, ex, ey), bkw_ok hw, ?_, ?_, ?_, ?_⟩
  · show x0 + ex + -ex = x0
    omega
  · show y0 + ey + -ey = y0
    omega
  · rw [bkw_sg hw]
    rfl
  · have e : stp W H f (bkw (x0, y0, ex, ey)) = (x0, y0, if tkOf W H f x0 y0 = 1 then ex else -ex, if tkOf W H f x0 y0 = 2 then ey else -ey) := by
      show (x0 + ex + -ex, y0 + ey + -ey, (if tkOf W H f (x0 + ex + -ex) (y0 + ey + -ey) = 1 then - -ex else -ex), (if tkOf W H f (x0 + ex + -ex) (y0 + ey + -ey) = 2 then - -ey else -ey)) = _
      rw [show x0 + ex + -ex = x0 by omega, show y0 + ey + -ey = y0 by omega, Int.neg_neg, Int.neg_neg]
    rw [e]
    rfl
theorem at_only {W H : Int} {n : Nat} {f : Nat → Int} {x0 y0 : Int} {u : W4} (hu : okW W H n f u = true) (h1 : u.1 + u.2.2.1 = x0) (h2 : u.2.1 + u.2.2.2 = y0) :
    ∃ ex ey, (ex = 1 ∨ ex = -1) ∧ (ey = 1 ∨ ey = -1) ∧ (sg H u).toNat = sAt H x0 y0 ex ey ∧ (sg H (stp W H f u)).toNat = sAt H x0 y0 (if tkOf W H f x0 y0 = 1 then ex else -ex) (if tkOf W H f x0 y0 = 2 then ey else -ey) := by
  obtain ⟨-, -, -, -, -, -, g1, g2⟩ := goW hu
  obtain ⟨x, y, dx, dy⟩ := u
  have h1' : x + dx = x0 := h1
  have h2' : y + dy = y0 := h2
  subst h1' h2'
  refine ⟨-dx, -dy, ?_, ?_, ?_, ?_⟩
  · rcases sign_yes g1 with e | e <;> simp only at e <;> omega
  · rcases sign_yes g2 with e | e <;> simp only at e <;> omega
  · rw [← bkw_sg hu]
    rfl
  · have e : stp W H f (x, y, dx, dy) = (x + dx, y + dy, if tkOf W H f (x + dx) (y + dy) = 1 then -dx else - -dx, if tkOf W H f (x + dx) (y + dy) = 2 then -dy else - -dy) := by
      rw [Int.neg_neg, Int.neg_neg]
      rfl
    rw [e]
    rfl
/-- the pairs at the point x0, y0 for the kind t -/
def KKp (H x0 y0 t : Int) : List (Nat × Nat) := KK t (sAt H x0 y0 (-1) (-1)) (sAt H x0 y0 1 (-1)) (sAt H x0 y0 (-1) 1) (sAt H x0 y0 1 1)
theorem kkp_has {H x0 y0 t ex ey : Int} (h1 : ex = 1 ∨ ex = -1) (h2 : ey = 1 ∨ ey = -1) :
    (sAt H x0 y0 ex ey, sAt H x0 y0 (if t = 1 then ex else -ex) (if t = 2 then ey else -ey)) ∈ KKp H x0 y0 t ∨ (sAt H x0 y0 (if t = 1 then ex else -ex) (if t = 2 then ey else -ey), sAt H x0 y0 ex ey) ∈ KKp H x0 y0 t := by
  unfold KKp KK
  by_cases e1 : t = 1
  · subst e1
    rcases h1 with rfl | rfl <;> rcases h2 with rfl | rfl <;> simp
  · by_cases e2 : t = 2
    · subst e2
      rcases h1 with rfl | rfl <;> rcases h2 with rfl | rfl <;> simp
    · rcases h1 with rfl | rfl <;> rcases h2 with rfl | rfl <;> simp [e1, e2]
theorem kkp_of {H x0 y0 t : Int} {c : Nat × Nat} (h : c ∈ KKp H x0 y0 t) :
    ∃ ex ey, signB ex = true ∧ signB ey = true ∧ c = (sAt H x0 y0 ex ey, sAt H x0 y0 (if t = 1 then ex else -ex) (if t = 2 then ey else -ey)) := by
  unfold KKp KK at h
  by_cases e1 : t = 1
  · subst e1
    rw [if_pos rfl] at h
    rcases List.mem_cons.1 h with rfl | h
    · exact ⟨-1, -1, rfl, rfl, by simp⟩
    · obtain rfl := List.mem_singleton.1 h
      exact ⟨1, -1, rfl, rfl, by simp⟩
  · rw [if_neg e1] at h
    by_cases e2 : t = 2
    · subst e2
      rw [if_pos rfl] at h
      rcases List.mem_cons.1 h with rfl | h
      · exact ⟨-1, -1, rfl, rfl, by simp⟩
      · obtain rfl := List.mem_singleton.1 h
        exact ⟨-1, 1, rfl, rfl, by simp⟩
    · rw [if_neg e2] at h
      rcases List.mem_cons.1 h with rfl | h
      · exact ⟨-1, -1, rfl, rfl, by simp [e1, e2]⟩
      · obtain rfl := List.mem_singleton.1 h
        exact ⟨1, -1, rfl, rfl, by simp [e1, e2]⟩
theorem sign_mk {d : Int} (h : signB d = true) : d = 1 ∨ d = -1 := sign_yes h
theorem kkp_lnk {W H : Int} {n : Nat} {f : Nat → Int} (hv : validB W H n f = true) {x0 y0 : Int} (hx0 : 0 < x0) (hx1 : x0 < 2 * W) (hy0 : 0 < y0) (hy1 : y0 < 2 * H) (ho : (x0 + y0) % 2 = 1) {c : Nat × Nat} (h : c ∈ KKp H x0 y0 (tkOf W H f x0 y0)) :
    ∃ u, okW W H n f u = true ∧ c = ((sg H u).toNat, (sg H (stp W H f u)).toNat) := by
  obtain ⟨ex, ey, s1, s2, rfl⟩ := kkp_of h
  have d1 := sign_yes s1
  have d2 := sign_yes s2
  obtain ⟨hW, hH, -, -⟩ := validB_yes hv
  obtain ⟨u, k1, -, -, k2, k3⟩ := at_link hv s1 s2 (has_mk (W := W) (H := H) (by omega) (by omega) (by omega) (by omega) ho) (has_mk (by omega) (by omega) (by omega) (by omega) (by omega))
  exact ⟨u, k1, by rw [k2, k3]⟩
/-- the number of curves out of the links away from a point and the pairs at this point -/
theorem crv_at {W H : Int} {n M : Nat} {f : Nat → Int} (hv : validB W H n f = true) (hM : (M : Int) = 4 * W * H) {x0 y0 : Int} (hx0 : 0 < x0) (hx1 : x0 < 2 * W) (hy0 : 0 < y0) (hy1 : y0 < 2 * H) (ho : (x0 + y0) % 2 = 1)
    {L : List (Nat × Nat)} (hl1 : ∀ c ∈ L, ∃ u, okW W H n f u = true ∧ c = ((sg H u).toNat, (sg H (stp W H f u)).toNat))
    (hl2 : ∀ u, okW W H n f u = true → ¬ (u.1 + u.2.2.1 = x0 ∧ u.2.1 + u.2.2.2 = y0) → ((sg H u).toNat, (sg H (stp W H f u)).toNat) ∈ L)
    {p q : Nat → Nat} (hp : Jns (fun z => z) L p) (hq : Jns p (KKp H x0 y0 (tkOf W H f x0 y0)) q) : nRt M q = (trs W H f M).cnt := by
  have hu : ∀ c ∈ L ++ KKp H x0 y0 (tkOf W H f x0 y0), ∃ u, okW W H n f u = true ∧ c = ((sg H u).toNat, (sg H (stp W H f u)).toNat) := fun c hc => by
    rcases List.mem_append.1 hc with h | h
    · exact hl1 c h
    · exact kkp_lnk hv hx0 hx1 hy0 hy1 ho h
  have hb : ∀ u, okW W H n f u = true → (sg H u).toNat < M ∧ (sg H (stp W H f u)).toNat < M := fun u h => by
    have a := sg_rng h
    have b := sg_rng (show okW W H n f (stp W H f u) = true from stps_ok h 1)
    omega
  have hl : ∀ c ∈ L ++ KKp H x0 y0 (tkOf W H f x0 y0), c.1 < M ∧ c.2 < M := fun c hc => by
    obtain ⟨u, h, rfl⟩ := hu c hc
    exact hb u h
  refine crv_groups hv hM (hp.app hq) hl (fun c hc => ?_) (fun u h => ?_)
  · obtain ⟨u, h, rfl⟩ := hu c hc
    exact (trs_closed hv M (by omega) u h).symm
  · obtain ⟨b1, b2⟩ := hb u h
    by_cases e : u.1 + u.2.2.1 = x0 ∧ u.2.1 + u.2.2.2 = y0
    · obtain ⟨ex, ey, d1, d2, k1, k2⟩ := at_only h e.1 e.2
      rw [k1] at b1
      rw [k2] at b2
      rw [k1, k2]
      rcases kkp_has (H := H) (x0 := x0) (y0 := y0) (t := tkOf W H f x0 y0) d1 d2 with m | m
      · exact .of ⟨b1, b2, .inr (List.mem_append_right _ m)⟩
      · exact .symm (.of ⟨b2, b1, .inr (List.mem_append_right _ m)⟩)
    · exact .of ⟨b1, b2, .inr (List.mem_append_left _ (hl2 u h e))⟩
theorem ok_same {W H : Int} {n : Nat} {f g : Nat → Int} (hw : validB W H n g = true) {u : W4} (h : okW W H n f u = true) : okW W H n g u = true := by
  obtain ⟨-, h2⟩ := wk_valid h
  show wkB W H n g u.1 u.2.1 u.2.2.1 u.2.2.2 = true
  rw [wk_is hw]
  exact h2
/-- the change of one break changes the number of curves by one at most -/
theorem crv_near {W H : Int} {n M : Nat} {f g : Nat → Int} (hv : validB W H n f = true) (hw : validB W H n g = true) (hM : (M : Int) = 4 * W * H) {x0 y0 : Int} (hx0 : 0 < x0) (hx1 : x0 < 2 * W) (hy0 : 0 < y0) (hy1 : y0 < 2 * H) (ho : (x0 + y0) % 2 = 1)
    (he : ∀ X Y, hasB W H X Y = true → ¬ (X = x0 ∧ Y = y0) → tkOf W H f X Y = tkOf W H g X Y) : (trs W H f M).cnt ≤ (trs W H g M).cnt + 1 := by
  have hst : ∀ u, okW W H n f u = true → ¬ (u.1 + u.2.2.1 = x0 ∧ u.2.1 + u.2.2.2 = y0) → stp W H f u = stp W H g u := fun u h hn => by
    obtain ⟨-, hg⟩ := wk_valid h
    obtain ⟨-, -, -, p2⟩ := go_yes hg
    unfold stp stDX stDY
    rw [he _ _ p2 hn]
  have hf0 : FR M (fun z => z) (fun _ => 0) := ⟨fun x h => h, fun x _ => .inl rfl⟩
  have hb : ∀ {f : Nat → Int}, validB W H n f = true → ∀ u, okW W H n f u = true → (sg H u).toNat < M ∧ (sg H (stp W H f u)).toNat < M := fun hv u h => by
    have a := sg_rng h
    have b := sg_rng (show okW W H n _ (stp W H _ u) = true from stps_ok h 1)
    omega
  have hm : ∀ c, c ∈ lkL W H M f x0 y0 ↔ ∃ u, (okW W H n f u = true ∧ ¬ (u.1 + u.2.2.1 = x0 ∧ u.2.1 + u.2.2.2 = y0)) ∧ c = ((sg H u).toNat, (sg H (stp W H f u)).toNat) := fun c => by
    unfold lkL
    rw [List.mem_map]
    constructor
    · rintro ⟨u, h, rfl⟩
      obtain ⟨h1, h2⟩ := List.mem_filter.1 h
      exact ⟨u, ⟨wkl_ok hv hM h1, fun hn => by simp [hn.1, hn.2] at h2⟩, rfl⟩
    · rintro ⟨u, ⟨h1, h2⟩, rfl⟩
      exact ⟨u, List.mem_filter.2 ⟨wkl_has hv hM h1, by
        by_cases a : u.1 + u.2.2.1 = x0
        · have b : ¬ u.2.1 + u.2.2.2 = y0 := fun b => h2 ⟨a, b⟩
          simp [a, b]
        · simp [a]⟩, rfl⟩
  have hlL : ∀ c ∈ lkL W H M f x0 y0, c.1 < M ∧ c.2 < M := fun c hc => by
    obtain ⟨u, h, rfl⟩ := (hm c).1 hc
    exact hb hv u h.1
  obtain ⟨p, hp⟩ := jns_ex _ hf0 hlL
  obtain ⟨⟨rk, hf⟩, -⟩ := hp.cls_iff hf0 hlL
  have hK : ∀ {f : Nat → Int}, validB W H n f = true → ∀ c ∈ KKp H x0 y0 (tkOf W H f x0 y0), c.1 < M ∧ c.2 < M := fun hv c hc => by
    obtain ⟨u, h, rfl⟩ := kkp_lnk hv hx0 hx1 hy0 hy1 ho hc
    exact hb hv u h
  obtain ⟨qf, hqf⟩ := jns_ex _ hf (hK hv)
  obtain ⟨qg, hqg⟩ := jns_ex _ hf (hK hw)
  have e1 := crv_at hv hM hx0 hx1 hy0 hy1 ho (fun c hc => by obtain ⟨u, h, e⟩ := (hm c).1 hc; exact ⟨u, h.1, e⟩) (fun u h hn => (hm _).2 ⟨u, ⟨h, hn⟩, rfl⟩) hp hqf
  have e2 := crv_at hw hM hx0 hx1 hy0 hy1 ho (fun c hc => by
    obtain ⟨u, h, e⟩ := (hm c).1 hc
    exact ⟨u, ok_same hw h.1, by rw [← hst u h.1 h.2]; exact e⟩) (fun u h hn => by
    have h' := ok_same hv h
    exact (hm _).2 ⟨u, ⟨h', hn⟩, by rw [hst u h' hn]⟩) hp hqg
  have hs : ∀ {ex ey : Int}, signB ex = true → signB ey = true → sAt H x0 y0 ex ey < M := fun {ex ey} s1 s2 => by
    have d1 := sign_yes s1
    have d2 := sign_yes s2
    obtain ⟨u, k1, -, -, k2, -⟩ := at_link hv s1 s2 (has_mk (W := W) (H := H) (by omega) (by omega) (by omega) (by omega) ho) (has_mk (by omega) (by omega) (by omega) (by omega) (by omega))
    rw [← k2]
    exact (hb hv u k1).1
  have h := jns_near hf (hs (ex := -1) (ey := -1) rfl rfl) (hs (ex := 1) (ey := -1) rfl rfl) (hs (ex := -1) (ey := 1) rfl rfl) (hs (ex := 1) (ey := 1) rfl rfl) hqf hqg
  rw [e1, e2] at h
  exact h

/-! the pairs of segments at the points -/
/-- for each kind of break, the pairs of directions whose segments are joined -/
def dirL (t : Int) : List ((Int × Int) × (Int × Int)) := if t = 1 then [((-1, -1), (-1, 1)), ((1, -1), (1, 1))] else if t = 2 then [((-1, -1), (1, -1)), ((-1, 1), (1, 1))] else [((-1, -1), (1, 1)), ((1, -1), (-1, 1))]
/-- the pairs at a point, the lesser segment first -/
def prA (W H t X Y : Int) : List (Nat × Nat) := ((dirL t).filter fun d => goB W H X Y d.1.1 d.1.2).map fun d => (min (sAt H X Y d.1.1 d.1.2) (sAt H X Y d.2.1 d.2.2), max (sAt H X Y d.1.1 d.1.2) (sAt H X Y d.2.1 d.2.2))
theorem mm_pair (a b : Nat) : (min a b, max a b) = (a, b) ∨ (min a b, max a b) = (b, a) := by
  rcases Nat.le_total a b with h | h
  · exact .inl (by rw [Nat.min_eq_left h, Nat.max_eq_right h])
  · exact .inr (by rw [Nat.min_eq_right h, Nat.max_eq_left h])
theorem dir_of {t : Int} {d : (Int × Int) × (Int × Int)} (h : d ∈ dirL t) : signB d.1.1 = true ∧ signB d.1.2 = true ∧ d.2 = (if t = 1 then d.1.1 else -d.1.1, if t = 2 then d.1.2 else -d.1.2) := by
  unfold dirL at h
  by_cases e1 : t = 1
  · subst e1
    rw [if_pos rfl] at h
    rcases List.mem_cons.1 h with rfl | h
    · exact ⟨rfl, rfl, by simp⟩
    · obtain rfl := List.mem_singleton.1 h
      exact ⟨rfl, rfl, by simp⟩
  · rw [if_neg e1] at h
    by_cases e2 : t = 2
    · subst e2
      rw [if_pos rfl] at h
      rcases List.mem_cons.1 h with rfl | h
      · exact ⟨rfl, rfl, by simp⟩
      · obtain rfl := List.mem_singleton.1 h
        exact ⟨rfl, rfl, by simp⟩
    · rw [if_neg e2] at h
      rcases List.mem_cons.1 h with rfl | h
      · exact ⟨rfl, rfl, by simp [e1, e2]⟩
      · obtain rfl := List.mem_singleton.1 h
        exact ⟨rfl, rfl, by simp [e1, e2]⟩
theorem dir_has {t ex ey : Int} (h1 : ex = 1 ∨ ex = -1) (h2 : ey = 1 ∨ ey = -1) :
    ((ex, ey), (if t = 1 then ex else -ex, if t = 2 then ey else -ey)) ∈ dirL t ∨ ((if t = 1 then ex else -ex, if t = 2 then ey else -ey), (ex, ey)) ∈ dirL t := by
  unfold dirL
  by_cases e1 : t = 1
  · subst e1
    rcases h1 with rfl | rfl <;> rcases h2 with rfl | rfl <;> simp
  · by_cases e2 : t = 2
    · subst e2
      rcases h1 with rfl | rfl <;> rcases h2 with rfl | rfl <;> simp
    · rcases h1 with rfl | rfl <;> rcases h2 with rfl | rfl <;> simp [e1, e2]
/-- a pair at a point is a step there, or this step back -/
theorem pra_of {W H : Int} {n : Nat} {f : Nat → Int} (hv : validB W H n f = true) {X Y : Int} (hp : hasB W H X Y = true) {c : Nat × Nat} (h : c ∈ prA W H (tkOf W H f X Y) X Y) :
    ∃ u, okW W H n f u = true ∧ (c = ((sg H u).toNat, (sg H (stp W H f u)).toNat) ∨ c = ((sg H (stp W H f u)).toNat, (sg H u).toNat)) := by
  obtain ⟨d, hd, rfl⟩ := List.mem_map.1 h
  obtain ⟨hd, hg⟩ := List.mem_filter.1 hd
  obtain ⟨s1, s2, e⟩ := dir_of hd
  obtain ⟨-, -, -, hq⟩ := go_yes hg
  obtain ⟨u, k1, -, -, k2, k3⟩ := at_link hv s1 s2 hp hq
  refine ⟨u, k1, ?_⟩
  rw [k2, k3, e]
  exact mm_pair _ _
/-- each step is a pair at its point, one way or the other -/
theorem pra_has {W H : Int} {n : Nat} {f : Nat → Int} {u : W4} (hu : okW W H n f u = true) :
    hasB W H (u.1 + u.2.2.1) (u.2.1 + u.2.2.2) = true ∧ (((sg H u).toNat, (sg H (stp W H f u)).toNat) ∈ prA W H (tkOf W H f (u.1 + u.2.2.1) (u.2.1 + u.2.2.2)) (u.1 + u.2.2.1) (u.2.1 + u.2.2.2) ∨ ((sg H (stp W H f u)).toNat, (sg H u).toNat) ∈ prA W H (tkOf W H f (u.1 + u.2.2.1) (u.2.1 + u.2.2.2)) (u.1 + u.2.2.1) (u.2.1 + u.2.2.2)) := by
  obtain ⟨hv, hg⟩ := wk_valid hu
  obtain ⟨s1, s2, -, hp⟩ := go_yes hg
  have hb : goB W H (u.1 + u.2.2.1) (u.2.1 + u.2.2.2) (-u.2.2.1) (-u.2.2.2) = true := (wk_valid (bkw_ok hu)).2
  have hs : goB W H (u.1 + u.2.2.1) (u.2.1 + u.2.2.2) (stDX W H f u.1 u.2.1 u.2.2.1 u.2.2.2) (stDY W H f u.1 u.2.1 u.2.2.1 u.2.2.2) = true := (wk_valid (show okW W H n f (stp W H f u) = true from stps_ok hu 1)).2
  refine ⟨hp, ?_⟩
  have d1 := sign_yes s1
  have d2 := sign_yes s2
  have e1 : (sg H u).toNat = sAt H (u.1 + u.2.2.1) (u.2.1 + u.2.2.2) (-u.2.2.1) (-u.2.2.2) := by
    rw [← bkw_sg hu]
    rfl
  have e2 : (sg H (stp W H f u)).toNat = sAt H (u.1 + u.2.2.1) (u.2.1 + u.2.2.2) (stDX W H f u.1 u.2.1 u.2.2.1 u.2.2.2) (stDY W H f u.1 u.2.1 u.2.2.1 u.2.2.2) := rfl
  have e3 : stDX W H f u.1 u.2.1 u.2.2.1 u.2.2.2 = if tkOf W H f (u.1 + u.2.2.1) (u.2.1 + u.2.2.2) = 1 then -u.2.2.1 else - -u.2.2.1 := by rw [Int.neg_neg]; rfl
  have e4 : stDY W H f u.1 u.2.1 u.2.2.1 u.2.2.2 = if tkOf W H f (u.1 + u.2.2.1) (u.2.1 + u.2.2.2) = 2 then -u.2.2.2 else - -u.2.2.2 := by rw [Int.neg_neg]; rfl
  rw [e1, e2]
  rw [e3, e4] at hs ⊢
  have hin : ∀ {a b : Int × Int}, (a, b) ∈ dirL (tkOf W H f (u.1 + u.2.2.1) (u.2.1 + u.2.2.2)) → goB W H (u.1 + u.2.2.1) (u.2.1 + u.2.2.2) a.1 a.2 = true →
      (sAt H (u.1 + u.2.2.1) (u.2.1 + u.2.2.2) a.1 a.2, sAt H (u.1 + u.2.2.1) (u.2.1 + u.2.2.2) b.1 b.2) ∈ prA W H (tkOf W H f (u.1 + u.2.2.1) (u.2.1 + u.2.2.2)) (u.1 + u.2.2.1) (u.2.1 + u.2.2.2) ∨ (sAt H (u.1 + u.2.2.1) (u.2.1 + u.2.2.2) b.1 b.2, sAt H (u.1 + u.2.2.1) (u.2.1 + u.2.2.2) a.1 a.2) ∈ prA W H (tkOf W H f (u.1 + u.2.2.1) (u.2.1 + u.2.2.2)) (u.1 + u.2.2.1) (u.2.1 + u.2.2.2) := fun {a b} h1 h2 => by
    have h3 : (min (sAt H (u.1 + u.2.2.1) (u.2.1 + u.2.2.2) a.1 a.2) (sAt H (u.1 + u.2.2.1) (u.2.1 + u.2.2.2) b.1 b.2), max (sAt H (u.1 + u.2.2.1) (u.2.1 + u.2.2.2) a.1 a.2) (sAt H (u.1 + u.2.2.1) (u.2.1 + u.2.2.2) b.1 b.2)) ∈ prA W H (tkOf W H f (u.1 + u.2.2.1) (u.2.1 + u.2.2.2)) (u.1 + u.2.2.1) (u.2.1 + u.2.2.2) := List.mem_map.2 ⟨(a, b), List.mem_filter.2 ⟨h1, h2⟩, rfl⟩
    rcases mm_pair (sAt H (u.1 + u.2.2.1) (u.2.1 + u.2.2.2) a.1 a.2) (sAt H (u.1 + u.2.2.1) (u.2.1 + u.2.2.2) b.1 b.2) with e | e <;> rw [e] at h3
    · exact .inl h3
    · exact .inr h3
  rcases dir_has (t := tkOf W H f (u.1 + u.2.2.1) (u.2.1 + u.2.2.2)) (ex := -u.2.2.1) (ey := -u.2.2.2) (by omega) (by omega) with m | m
  · exact hin m hb
  · exact (hin m hs).symm
/-- where a list holds the pairs at all points (in any order), its groups are the curves -/
theorem crv_pairs {W H : Int} {n M : Nat} {f : Nat → Int} (hv : validB W H n f = true) (hM : (M : Int) = 4 * W * H) {L : List (Nat × Nat)} (hm : ∀ c, c ∈ L ↔ ∃ X Y, hasB W H X Y = true ∧ c ∈ prA W H (tkOf W H f X Y) X Y) {q : Nat → Nat} (hj : Jns (fun z => z) L q) :
    nRt M q = (trs W H f M).cnt := by
  have hb : ∀ u, okW W H n f u = true → (sg H u).toNat < M ∧ (sg H (stp W H f u)).toNat < M := fun u h => by
    have a := sg_rng h
    have b := sg_rng (show okW W H n f (stp W H f u) = true from stps_ok h 1)
    omega
  have hu : ∀ c ∈ L, ∃ u, okW W H n f u = true ∧ (c = ((sg H u).toNat, (sg H (stp W H f u)).toNat) ∨ c = ((sg H (stp W H f u)).toNat, (sg H u).toNat)) := fun c hc => by
    obtain ⟨X, Y, hp, h⟩ := (hm c).1 hc
    exact pra_of hv hp h
  refine crv_groups hv hM hj (fun c hc => ?_) (fun c hc => ?_) (fun u h => ?_)
  · obtain ⟨u, h, rfl | rfl⟩ := hu c hc
    · exact hb u h
    · exact (hb u h).symm
  · obtain ⟨u, h, rfl | rfl⟩ := hu c hc
    · exact (trs_closed hv M (by omega) u h).symm
    · exact trs_closed hv M (by omega) u h
  · obtain ⟨b1, b2⟩ := hb u h
    obtain ⟨hp, m | m⟩ := pra_has h
    · exact .of ⟨b1, b2, .inr ((hm _).2 ⟨_, _, hp, m⟩)⟩
    · exact .symm (.of ⟨b2, b1, .inr ((hm _).2 ⟨_, _, hp, m⟩)⟩)
end Go.Proofs.YtjgclemfehfgiaaDoor.Base
namespace Go.Proofs.YtjgclemfehfgiaaDoor.Base
open Go Go.RowKit
set_option linter.unusedVariables false
set_option linter.unusedSimpArgs false

theorem infoEl : (Tryd.prog.info? 158).map (fun i => (i.zero, i.size, i.bytes)) = some (some (.agg #[.int .i64 0, .pointer none]), 2, 16) := by kernel_rfl
/-- block E holds n elements, each pointing to its parent -/
def Elm (w : World) (E n : Nat) (p : Nat → Nat) : Prop :=
  ∃ cs, At w E cs 158 ∧ ∀ k, k < n → cs[k * 2]? = some (.int .i64 (k : Int)) ∧ cs[k * 2 + 1]? = some (.pointer (some ⟨E, p k * 2, none⟩))
theorem Elm.of_block {w w' : World} {E n : Nat} {p : Nat → Nat} (h : Elm w E n p) (e : w'.heap[E]? = w.heap[E]?) : Elm w' E n p := by
  obtain ⟨cs, h1, h2⟩ := h
  exact ⟨cs, h1.of_block e, h2⟩
theorem Elm.lt {w : World} {E n : Nat} {p : Nat → Nat} (h : Elm w E n p) : E < w.heap.size := by obtain ⟨cs, h1, h2⟩ := h; exact h1.lt
theorem Elm.at_ {w : World} {E n : Nat} {p : Nat → Nat} (h : Elm w E n p) {k : Nat} (hk : k < n) : w.cell? ⟨E, k * 2, none⟩ = some (.int .i64 (k : Int)) ∧ w.cell? ⟨E, k * 2 + 1, none⟩ = some (.pointer (some ⟨E, p k * 2, none⟩)) ∧ w.frozen? ⟨E, k * 2, none⟩ = false ∧ w.frozen? ⟨E, k * 2 + 1, none⟩ = false := by
  obtain ⟨cs, h1, h2⟩ := h
  exact ⟨h1.cellv (h2 k hk).1, h1.cellv (h2 k hk).2, h1.frozen _, h1.frozen _⟩
theorem Elm.put {w : World} {E n : Nat} {p : Nat → Nat} (h : Elm w E n p) {e : Nat} (he : e < n) (q : Nat) : Elm (w.setCell ⟨E, e * 2 + 1, none⟩ (.pointer (some ⟨E, q * 2, none⟩))) E n (hvP p e q) := by
  obtain ⟨cs, h1, h2⟩ := h
  refine ⟨_, h1.set (e * 2 + 1) (.pointer (some ⟨E, q * 2, none⟩)), fun k hk => ?_⟩
  obtain ⟨c1, c2⟩ := h2 k hk
  have hsz : e * 2 + 1 < cs.size := (Array.getElem?_eq_some_iff.1 (h2 e he).2).1
  rw [Array.getElem?_setIfInBounds, Array.getElem?_setIfInBounds]
  unfold hvP
  rw [if_neg (by omega)]
  refine ⟨c1, ?_⟩
  by_cases hke : k = e
  · subst hke
    rw [if_pos rfl, if_pos rfl, if_pos hsz]
  · rw [if_neg hke, if_neg (by omega)]
    exact c2
theorem run_neq_ptr_other {P : Program} (w : World) {tp te : TypeId} {j : TypeInfo} {a b : Addr} {ca cb : Array Value} {ta tb : TypeId} (hp : P.underlying tp = some (.pointer te)) (hte : P.info? te = some j) (hsz : j.size ≠ 0)
    (hne : a ≠ b) (ha : w.heap[a.block]? = some (.cells ca ta (0, 0))) (hb : w.heap[b.block]? = some (.cells cb tb (0, 0))) :
    (binOp .neq tp (.pointer (some a)) (.pointer (some b))).run P w = .ok (.bool true) w := by
  have h : ∀ d : Nat, (Op.equalIn (d + 1) tp (.pointer (some a)) (.pointer (some b))).run P w = .ok false w := fun d => by
    simp [Op.equalIn, run_underlying hp, sizeOf, typeInfo, hte, hsz, run_sameAddr_other w hne ha hb]
  simp only [binOp]
  simp [Op.equal, Op.maxDepth, h 9999]
theorem Elm.ne_yes {w : World} {E n : Nat} {p : Nat → Nat} (h : Elm w E n p) {x y : Nat} (hxy : x ≠ y) :
    (binOp .neq 156 (.pointer (some ⟨E, x * 2, none⟩)) (.pointer (some ⟨E, y * 2, none⟩))).run Tryd.prog w = .ok (.bool true) w := by
  obtain ⟨cs, h1, h2⟩ := h
  obtain ⟨i, hi, hz0, hz1, hz2⟩ := info_parts infoEl
  exact run_neq_ptr_other w (te := 158) Tryd.underlying156 hi (by rw [hz1]; decide) (fun e => hxy (Nat.eq_of_mul_eq_mul_right (by decide) (congrArg Addr.off e : x * 2 = y * 2))) h1 h1
theorem ptr_ne_no (w : World) (E x : Nat) :
    (binOp .neq 156 (.pointer (some ⟨E, x * 2, none⟩)) (.pointer (some ⟨E, x * 2, none⟩))).run Tryd.prog w = .ok (.bool false) w := by
  obtain ⟨i, hi, hz0, hz1, hz2⟩ := info_parts infoEl
  exact Lib.run_neq_ptr_same w ⟨E, x * 2, none⟩ (te := 158) Tryd.underlying156 hi
/-- changes as values -/
def chV (E : Nat) (L : List (Nat × Nat)) : List Value := L.flatMap fun c => [.pointer (some ⟨E, c.1 * 2, none⟩), .pointer (some ⟨E, c.2 * 2, none⟩)]
theorem chV_len (E : Nat) (L : List (Nat × Nat)) : (chV E L).length = L.length * 2 := by
  induction L with
  | nil => rfl
  | cons a r ih => simp [chV] at ih ⊢; omega
/-- all but the blocks F and E below base is kept -/
structure Frm (base F E : Nat) (w w' : World) : Prop where
  os : w'.os = w.os
  tape : w'.tape = w.tape
  output : w'.output = w.output
  size : w.heap.size ≤ w'.heap.size
  block : ∀ k, k < base → k ≠ F → k ≠ E → w'.heap[k]? = w.heap[k]?
theorem Frm.refl (base F E : Nat) (w : World) : Frm base F E w w := ⟨rfl, rfl, rfl, Nat.le_refl _, fun _ _ _ _ => rfl⟩
theorem Frm.trans {base F E : Nat} {a b c : World} (h : Frm base F E a b) (k : Frm base F E b c) : Frm base F E a c :=
  ⟨k.os.trans h.os, k.tape.trans h.tape, k.output.trans h.output, Nat.le_trans h.size k.size, fun i h1 h2 h3 => (k.block i h1 h2 h3).trans (h.block i h1 h2 h3)⟩
theorem Frm.below {base F E B : Nat} {a b : World} (h : Frm base F E a b) (h1 : B ≤ F) (h2 : B ≤ E) (h3 : B ≤ base) : Below B a b := ⟨h.os, h.tape, h.output, h.size, fun k hk => h.block k (by omega) (by omega) (by omega)⟩
/-- a forest whose paths may have been shortened -/
structure Fst (w : World) (base F E n : Nat) (lv cv : Value) (p : Nat → Nat) (L : List (Nat × Nat)) : Prop where
  box : At w F #[.slice (some ⟨E, 0, none⟩) n n, lv, cv] 155
  elm : Elm w E n p
  chg : w.ownsRow base 220 2 cv L.length (chV E L)
  far1 : F < base
  far2 : E < base
  ne : F ≠ E
  low : base ≤ w.heap.size
def evN : Value → Nat | .pointer (some a) => a.off / 2 | _ => 0
theorem infoSh : (Tryd.prog.info? 220).map (fun i => (i.zero, i.size, i.bytes)) = some (some (.agg #[.pointer none, .pointer none]), 2, 16) := by kernel_rfl
/-- what standing leaves -/
def Stood (base F E n : Nat) (lv : Value) (rk p : Nat → Nat) (L : List (Nat × Nat)) (r : Nat) (w : World) (e : Ending) (w' : World) : Prop :=
  ∃ cv' p' L', e = .returned (.pointer (some ⟨E, r * 2, none⟩)) ∧ FR n p' rk ∧ (∀ x y, x < n → (Rt p' x y ↔ Rt p x y)) ∧ (∀ x, undo L' p' x = undo L p x) ∧ L'.length ≤ L.length + 256 ∧ (∀ c ∈ L', c ∈ L ∨ (c.1 < n ∧ p c.1 ≠ c.1)) ∧ Fst w' base F E n lv cv' p' L' ∧ Frm base F E w w'
/-- all blocks but F, E and the changes' are kept; the changes lie where they lay, or anew -/
def Kpt (F E : Nat) (cv cv' : Value) (w w' : World) : Prop :=
  (∀ k, k < w.heap.size → k ≠ F → k ≠ E → cv.ownBlock ≠ some k → w'.heap[k]? = w.heap[k]?) ∧ ∀ q, cv'.ownBlock = some q → cv.ownBlock = some q ∨ w.heap.size ≤ q
theorem Kpt.refl (F E : Nat) (cv : Value) (w : World) : Kpt F E cv cv w w := ⟨fun _ _ _ _ _ => rfl, fun q h => .inl h⟩
/-- what standing leaves, told of all blocks -/
def Stood2 (base F E n : Nat) (lv cv : Value) (rk p : Nat → Nat) (L : List (Nat × Nat)) (r : Nat) (w : World) (e : Ending) (w' : World) : Prop :=
  ∃ cv' p' L', e = .returned (.pointer (some ⟨E, r * 2, none⟩)) ∧ FR n p' rk ∧ (∀ x y, x < n → (Rt p' x y ↔ Rt p x y)) ∧ (∀ x, undo L' p' x = undo L p x) ∧ L'.length ≤ L.length + 256 ∧ (∀ c ∈ L', c ∈ L ∨ (c.1 < n ∧ p c.1 ≠ c.1)) ∧ Fst w' base F E n lv cv' p' L' ∧ Frm base F E w w' ∧ Kpt F E cv cv' w w'
set_option maxHeartbeats 4000000 in
set_option maxRecDepth 100000 in
theorem impl_standing2 (w : World) (base F E n : Nat) (lv cv : Value) (rk p : Nat → Nat) (L : List (Nat × Nat)) (k r : Nat) (hs : Fst w base F E n lv cv p L) (hf : FR n p rk) (hk : k < n) (hr : Rt p k r) (hn : n ≤ 256) (hL : L.length ≤ 1000000) (hrk : ∀ x, x < n → rk x ≤ 256) :
    Calls Tryd.prog 133 #[.pointer (some ⟨F, 0, none⟩), .int .i64 (k : Int)] w (Stood2 base F E n lv cv rk p L r w) := by
  have HS := Lib.hid hs
  have HF := Lib.hid hf
  have HR := Lib.hid hr
  have HRK := Lib.hid hrk
  have b0 := hs.box.cellv (i := 0) rfl
  have fz := hs.box.lt
  clear hs hf hr hrk
  go_enter Tryd.func133, Tryd.ntmps133
  go_wp2
  clear b0
  go_loopw [5] (fun ev wr => ∃ (x : Nat) (cv' : Value) (p' : Nat → Nat) (L' : List (Nat × Nat)), x < n ∧ ev = .pointer (some ⟨E, x * 2, none⟩) ∧ L'.length + rk x ≤ L.length + rk k ∧ Hid (Rt p' x r) ∧ Hid (FR n p' rk) ∧ Hid (∀ x y, x < n → (Rt p' x y ↔ Rt p x y)) ∧ Hid (∀ x, undo L' p' x = undo L p x) ∧ Hid (∀ c ∈ L', c ∈ L ∨ (c.1 < n ∧ p c.1 ≠ c.1)) ∧ Hid (Fst wr base F E n lv cv' p' L') ∧ Hid (Frm base F E w wr) ∧ Hid (Kpt F E cv cv' w wr)) (fun ev _ => rk (evN ev))
  case atStart => exact ⟨k, cv, p, L, hk, rfl, Nat.le_refl _, HR, HF, Lib.hid (fun x y _ => Iff.rfl), Lib.hid (fun x => rfl), Lib.hid (fun c h => .inl h), HS, Lib.hid (Frm.refl _ _ _ _), Lib.hid (Kpt.refl _ _ _ _)⟩
  case round =>
    obtain ⟨x, cv', p', L', hx, rfl, hlen, HRx, HFx, HQ, HU, HC, HSx, HW, HK⟩ := hrel
    obtain ⟨c1, c2, c3, c4⟩ := HSx.out.elm.at_ hx
    have ez := HSx.out.elm.lt
    have bz := HSx.out.box.lt
    obtain ⟨y, hy⟩ : ∃ y, p' x = y := ⟨_, rfl⟩
    have HY := Lib.hid hy
    rw [hy] at c2
    clear hy
    by_cases hxy : y = x
    · subst hxy
      have n1 := ptr_ne_no wr E y
      have hrr := HRx.out.uniq (.top HY.out)
      go_wp2
      go_ret
      exact ⟨cv', p', L', by rw [hrr]; rfl, HFx.out, HQ.out, HU.out, by have := HRK.out k hk; omega, HC.out, HSx.out, HW.out, HK.out⟩
    · have n1 := HSx.out.elm.ne_yes hxy
      have hy : y < n := by rw [← HY.out]; exact HFx.out.lt x hx
      have hdn : rk y < rk x := by have := HFx.out.dn x hx; rw [HY.out] at this; omega
      obtain ⟨d1, d2, d3, d4⟩ := HSx.out.elm.at_ hy
      obtain ⟨z, hz⟩ : ∃ z, p' y = z := ⟨_, rfl⟩
      have HZ := Lib.hid hz
      rw [hz] at d2
      clear hz
      by_cases hzy : z = y
      · subst hzy
        have n2 := ptr_ne_no wr E z
        have HR2 := Lib.hid (by have := HRx.out.step; rw [HY.out] at this; exact this)
        go_wp2
        go_roundw
        case rel => exact ⟨z, cv', p', L', hy, rfl, by omega, HR2, HFx, HQ, HU, HC, HSx, HW, HK⟩
        case measure => simpa [evN] using hdn
      · have n2 := HSx.out.elm.ne_yes hzy
        have hz : z < n := by rw [← HZ.out]; exact HFx.out.lt y hy
        have b2 := HSx.out.box.cellv (i := 2) rfl
        have f2 := HSx.out.box.frozen 2
        have hl1 : L'.length ≤ 1001000 := by have := HRK.out k hk; omega
        have hfarF : ∀ g, cv'.ownBlock = some g → base ≤ g := fun g hg => (HSx.out.chg.lt g hg).1
        have HFAR := Lib.hid hfarF
        obtain ⟨i0, hi, hz0, hz1, hz2⟩ := info_parts infoSh
        have HOW := Lib.hid HSx.out.chg
        have hlow := HSx.out.low
        have hF := HSx.out.far1
        have hE := HSx.out.far2
        have hFE := HSx.out.ne
        clear hfarF c1 c3 d1 d3 d4
        go_wp2
        go_region_law (refine step_append_lies (wr.drew.alloc (.cells #[.pointer (some ⟨E, x * 2, none⟩), .pointer (some ⟨E, y * 2, none⟩)] 220)) (by rfl) (.tmp 36) (.tmp 43) 153 (by rfl) base 220 i0 _ 2 16 Tryd.underlying153 hi hz0 hz1 hz2 rfl (by omega) cv' L'.length (chV E L') (by rfl) (HOW.out.drew.alloc _) ⟨wr.heap.size, 0, none⟩ 1 1 [.pointer (some ⟨E, x * 2, none⟩), .pointer (some ⟨E, y * 2, none⟩)] (by rfl) (by rfl) (World.news_of_block (cs := #[.pointer (some ⟨E, x * 2, none⟩), .pointer (some ⟨E, y * 2, none⟩)]) (t := 220) (fr := (0, 0)) (heap_alloc_new wr.drew _)) (fun u hu => by simp at hu; rcases hu with rfl | rfl <;> rfl) (by omega) (by unfold maxLen; omega) (by omega) (by simp; omega) (wr.heap.size + 1) (by simp) ?_; intro gg cap w1 hown1 hgrow hat hlt1; have bb : Below base wr w1 := ((((Below.refl base wr).drew).alloc (by show base ≤ wr.heap.size; omega) _).grown hgrow (by simp; omega) (fun b e => HFAR.out b e)); have q2 := (bb.cell (p := ⟨F, 2, none⟩) hF).trans b2; have q3 := (bb.cell (p := ⟨E, x * 2 + 1, none⟩) hE).trans c2; have g2 := (bb.frozen (p := ⟨F, 2, none⟩) hF).trans f2; have g3 := (bb.frozen (p := ⟨E, x * 2 + 1, none⟩) hE).trans c4; have zF := Nat.lt_of_lt_of_le bz bb.size; have zE := Nat.lt_of_lt_of_le ez bb.size; have q4 : (w1.setCell ⟨F, 2, none⟩ (.slice (some ⟨gg, 0, none⟩) (L'.length + 1) cap)).cell? ⟨E, x * 2 + 1, none⟩ = some (.pointer (some ⟨E, y * 2, none⟩)) := (by rw [World.cell?_setCell_other _ _ _ _ (fun e => by injection e; omega)]; exact q3); have g4 : (w1.setCell ⟨F, 2, none⟩ (.slice (some ⟨gg, 0, none⟩) (L'.length + 1) cap)).frozen? ⟨E, x * 2 + 1, none⟩ = false := (by rw [World.frozen?_setCell]; exact g3); have HOW1 := Lib.hid hown1; have HBB := Lib.hid bb; have HGG := Lib.hid hgrow; have HAT := Lib.hid hat; clear hown1 hgrow hat bb)
        all_goals
          have hdz : rk z < rk y := by have := HFx.out.dn y hy; rw [HZ.out] at this; omega
          go_wp2
          clear n1 n2 q2 q3 q4 g2 g3 g4 b2 c2 d2 f2 c4
          go_roundw
          case rel =>
            refine ⟨z, .slice (some ⟨gg, 0, none⟩) (L'.length + 1) cap, hvP p' x z, L' ++ [(x, y)], hz, rfl, by simp; omega, Lib.hid ?_, Lib.hid ?_, Lib.hid (fun a b ha => ?_), Lib.hid (fun a => ?_), Lib.hid (fun c hc => ?_), Lib.hid ⟨?_, ?_, ?_, hF, hE, hFE, ?_⟩, Lib.hid (HW.out.trans ?_), Lib.hid ⟨fun k hk k1 k2 k3 => ?_, fun q hq => ?_⟩⟩
            · have h1 := HFx.out.same hx (x := z) (r := r) hz
              rw [HY.out, HZ.out] at h1
              refine h1.2 ?_
              have h2 := HRx.out.step.step
              rw [HY.out, HZ.out] at h2
              exact h2
            · have h1 := HFx.out.halve hx
              rw [HY.out, HZ.out] at h1
              exact h1
            · have h1 := HFx.out.same hx (x := a) (r := b) ha
              rw [HY.out, HZ.out] at h1
              exact h1.trans (HQ.out a b ha)
            · rw [undo_snoc, ← HU.out a]
              refine undo_congr (fun t => ?_) L' a
              unfold hvP
              by_cases ht : t = x
              · rw [if_pos ht, ht, HY.out]
              · rw [if_neg ht, if_neg ht]
            · rcases List.mem_append.1 hc with hc | hc
              · exact HC.out c hc
              · rw [List.mem_singleton.1 hc]
                refine .inr ⟨hx, fun e => ?_⟩
                have h1 := ((HQ.out x x hx).2 (.top e)).root
                rw [HY.out] at h1
                exact hxy h1
            · have h1 := (((HSx.out.box.below HBB.out hF).set 2 (.slice (some ⟨gg, 0, none⟩) (L'.length + 1) cap)).setOther (a := ⟨E, x * 2 + 1, none⟩) (fun e => hFE e.symm) (.pointer (some ⟨E, z * 2, none⟩)))
              exact h1
            · exact ((HSx.out.elm.of_block (HBB.out.block E hE)).of_block (Below.heap_setCell w1 ⟨F, 2, none⟩ _ E (fun e => hFE e.symm))).put hx z
            · have h1 : chV E (L' ++ [(x, y)]) = chV E L' ++ [.pointer (some ⟨E, x * 2, none⟩), .pointer (some ⟨E, y * 2, none⟩)] := by simp [chV]
              rw [h1, List.length_append]
              exact ownsRow_setCell_below (ownsRow_setCell_below HOW1.out (by exact hF) _) (by exact hE) _
            · have := HBB.out.size
              simp [World.setCell]
              omega
            · refine ⟨HBB.out.os, HBB.out.tape, HBB.out.output, by have := HBB.out.size; simpa [World.setCell] using this, fun q h1 h2 h3 => ?_⟩
              rw [Below.heap_setCell _ _ _ _ h3, Below.heap_setCell _ _ _ _ h2]
              exact HBB.out.block q h1
            · have hsz := HW.out.size
              rw [Below.heap_setCell _ _ _ _ k2, Below.heap_setCell _ _ _ _ k1]
              refine ((HGG.out.block k (by simp; omega) (fun e => ?_)).trans (Below.heap_alloc _ _ _ (by show k < wr.heap.size; omega))).trans (HK.out.1 k hk k1 k2 k3)
              rcases HK.out.2 k e.symm with h1 | h1
              · exact k3 h1
              · omega
            · have hsz := HW.out.size
              have hq' : gg = q := by simpa [Value.ownBlock] using hq
              subst hq'
              rcases HAT.out with h1 | h1
              · exact HK.out.2 gg h1
              · exact .inr (by omega)
          case measure => simp [evN]; omega
theorem impl_standing (w : World) (base F E n : Nat) (lv cv : Value) (rk p : Nat → Nat) (L : List (Nat × Nat)) (k r : Nat) (hs : Fst w base F E n lv cv p L) (hf : FR n p rk) (hk : k < n) (hr : Rt p k r) (hn : n ≤ 256) (hL : L.length ≤ 1000000) (hrk : ∀ x, x < n → rk x ≤ 256) :
    Calls Tryd.prog 133 #[.pointer (some ⟨F, 0, none⟩), .int .i64 (k : Int)] w (Stood base F E n lv rk p L r w) :=
  (impl_standing2 w base F E n lv cv rk p L k r hs hf hk hr hn hL hrk).mono fun _ _ ⟨cv', p', L', h1, h2, h3, h4, h5, h6, h7, h8, _⟩ => ⟨cv', p', L', h1, h2, h3, h4, h5, h6, h7, h8⟩
end Go.Proofs.YtjgclemfehfgiaaDoor.Base
namespace Go.Proofs.YtjgclemfehfgiaaDoor.Base
open Go.RowKit
set_option linter.unusedVariables false

def eqRows (n : Nat) (f : Nat → Int) (n' : Nat) (f' : Nat → Int) : Bool := decide (n = n') && (List.range n).all fun j => f j == f' j
theorem eqRows_len {n n' : Nat} {f f' : Nat → Int} (h : n ≠ n') : eqRows n f n' f' = false := by simp [eqRows, h]
theorem eqRows_no {n : Nat} {f f' : Nat → Int} {k : Nat} (hk : k < n) (h : f k ≠ f' k) : eqRows n f n f' = false := by
  cases e : eqRows n f n f'
  · rfl
  · simp [eqRows] at e
    exact absurd (e k hk) h
theorem eqRows_yes {n : Nat} {f f' : Nat → Int} (h : ∀ j, j < n → f j = f' j) : eqRows n f n f' = true := by
  simp [eqRows]
  exact h
def sameB (W H : Int) (n : Nat) (f : Nat → Int) (W' H' : Int) (n' : Nat) (f' : Nat → Int) : Bool := decide (W = W') && decide (H = H') && eqRows n f n' f'

theorem drewB (w : World) (m : Nat) : Below w.heap.size w (w.drewN m) := below_drewN (Below.refl _ _) m
theorem quiet_drew {P : Program} {f : FuncId} {args : Array Value} {w : World} {n : Nat} {v : Value}
    (h : Calls P f args (w.drewN n) (Drew v (w.drewN n))) : Calls P f args (w.drewN n) fun e w' => e = .returned v ∧ ∃ m, w' = w.drewN m :=
  h.mono fun _ _ ⟨m, he, hm⟩ => ⟨he, n + m, by rw [hm, World.drewN_drewN]⟩
theorem drew_gives {v : Value} {w w' : World} {e : Ending} (h : Drew v w e w') : Gives v w e w' := by
  obtain ⟨m, h1, h2⟩ := h
  exact ⟨h1, by rw [h2]; exact below_drewN (Below.refl _ _) m⟩

theorem specSameRows (w : World) (A A' : Option Addr) (n n' c c' : Nat) (f f' : Nat → Int) (hr : Row .i64 w A n c f) (hr' : Row .i64 w A' n' c' f') :
    Calls Tryd.prog 148 #[.slice A n c, .slice A' n' c'] w (Drew (.bool (eqRows n f n' f')) w) := by
  obtain ⟨hnc, hcm, _, hcell⟩ := hr
  obtain ⟨hnc', hcm', _, hcell'⟩ := hr'
  unfold maxLen at hcm hcm'
  by_cases hl : n = n'
  · subst hl
    have hn : ((n : Int) == (n : Int)) = true := beq_self_eq_true _
    go_enter Tryd.func148, Tryd.ntmps148
    go_wp2
    go_loopw [5] (fun i wr => ∃ k m : Nat, k ≤ n ∧ i = .int .i64 k ∧ wr = w.drewN m ∧ Hid (∀ j, j < k → f j = f' j)) (fun i _ => n - (intOf i).toNat)
    case atStart => exact ⟨0, 0, Nat.zero_le _, rfl, rfl, Lib.hid (fun j hj => absurd hj (Nat.not_lt_zero _))⟩
    case round =>
      obtain ⟨k, m, hk, rfl, rfl, HE⟩ := hrel
      by_cases hlt : k < n
      · obtain ⟨b, o, rfl, hbl, hc⟩ := hcell (by omega)
        obtain ⟨b', o', rfl, hbl', hc'⟩ := hcell' (by omega)
        have hck := hc k hlt
        have hck' := hc' k hlt
        clear hc hc' hcell hcell'
        by_cases he : f k = f' k
        · have heb : (f k == f' k) = true := beq_iff_eq.2 he
          have heb' : (f k != f' k) = false := by rw [bne_eq_false_iff_eq]; exact he
          have HS := Lib.hid (show ∀ j, j < k + 1 → f j = f' j from fun j hj => by rcases Nat.lt_succ_iff_lt_or_eq.1 hj with h | rfl; exact HE.out j h; exact he)
          clear he
          go_wp2
          go_quiet (fail)
          go_wp2
          go_roundw
          case rel => exact ⟨k + 1, _, by omega, by go_num, rfl, HS⟩
          case measure => simp [intOf]; omega
        · have heb : (f k == f' k) = false := beq_eq_false_iff_ne.2 he
          have heb' : (f k != f' k) = true := bne_iff_ne.2 he
          have HS := Lib.hid (eqRows_no hlt he)
          clear he
          go_wp2
          go_quiet (fail)
          go_wp2
          go_ret
          exact ⟨_, ret_bool HS.out.symm, World.drewN_drewN _ _ _⟩
      · have HS := Lib.hid (eqRows_yes (fun j (hj : j < n) => HE.out j (by omega)))
        clear hcell hcell'
        go_wp2
        go_ret
        exact ⟨m, ret_bool HS.out.symm, rfl⟩
  · have hn : ((n : Int) == (n' : Int)) = false := beq_eq_false_iff_ne.2 (by omega)
    have hn' : ((n : Int) != (n' : Int)) = true := bne_iff_ne.2 (by omega)
    have HS := Lib.hid (eqRows_len (f := f) (f' := f') hl)
    clear hl hcell hcell'
    go_enter Tryd.func148, Tryd.ntmps148
    go_wp2
    go_ret
    exact ⟨0, ret_bool HS.out.symm, rfl⟩

theorem specSame (w : World) (p q : Nat) (W H W' H' : Int) (A A' : Option Addr) (n c n' c' : Nat) (f f' : Nat → Int) (hb : Box w p W H A n c) (hb' : Box w q W' H' A' n' c') (hr : Row .i64 w A n c f) (hr' : Row .i64 w A' n' c' f') :
    Calls Tryd.prog 93 #[.pointer (some ⟨p, 0, none⟩), .pointer (some ⟨q, 0, none⟩)] w (Drew (.bool (sameB W H n f W' H' n' f')) w) := by
  have HR := Lib.hid hr
  have HR' := Lib.hid hr'
  obtain ⟨hp, k0, k1, k2⟩ := hb
  obtain ⟨hq, l0, l1, l2⟩ := hb'
  clear hr hr'
  by_cases h1 : W = W'
  · have h1b : (W == W') = true := beq_iff_eq.2 h1
    by_cases h2 : H = H'
    · have h2b : (H == H') = true := beq_iff_eq.2 h2
      have e : sameB W H n f W' H' n' f' = eqRows n f n' f' := by simp [sameB, h1, h2]
      rw [e]
      clear e h1 h2
      go_enter Tryd.func93, Tryd.ntmps93
      go_wp2
      go_quiet ((go_at_call 148; exact quiet_drew (specSameRows _ A A' n n' c c' f f' (HR.out.below (drewB _ _) (Nat.le_refl _)) (HR'.out.below (drewB _ _) (Nat.le_refl _)))))
      go_wp2
      go_ret
      exact ⟨_, rfl, rfl⟩
    · have h2b : (H == H') = false := beq_eq_false_iff_ne.2 h2
      have e : sameB W H n f W' H' n' f' = false := by simp [sameB, h2]
      rw [e]
      clear e h1 h2
      go_enter Tryd.func93, Tryd.ntmps93
      go_wp2
      go_quiet (fail)
      go_wp2
      go_ret
      exact ⟨_, rfl, rfl⟩
  · have h1b : (W == W') = false := beq_eq_false_iff_ne.2 h1
    have e : sameB W H n f W' H' n' f' = false := by simp [sameB, h1]
    rw [e]
    clear e h1
    go_enter Tryd.func93, Tryd.ntmps93
    go_wp2
    go_quiet (fail)
    go_wp2
    go_ret
    exact ⟨_, rfl, rfl⟩

theorem box_two (w : World) (t : TypeId) (W H W' H' : Int) (A A' : Option Addr) (n c n' c' : Nat) :
    Box ((w.alloc (.cells #[.int .i64 W, .int .i64 H, .slice A n c] t)).alloc (.cells #[.int .i64 W', .int .i64 H', .slice A' n' c'] t)) w.heap.size W H A n c ∧
    Box ((w.alloc (.cells #[.int .i64 W, .int .i64 H, .slice A n c] t)).alloc (.cells #[.int .i64 W', .int .i64 H', .slice A' n' c'] t)) (w.heap.size + 1) W' H' A' n' c' := by
  refine ⟨(Box.new w t W H A n c).below ((Below.refl _ _).alloc (Nat.le_refl _) _) (by simp), ?_⟩
  have h := Box.new (w.alloc (.cells #[.int .i64 W, .int .i64 H, .slice A n c] t)) t W' H' A' n' c'
  rwa [World.size_alloc] at h

theorem spec_samePanel (w : World) (W H W' H' : Int) (A A' : Option Addr) (n c n' c' : Nat) (f f' : Nat → Int) (hr : Row .i64 w A n c f) (hr' : Row .i64 w A' n' c' f') :
    Calls Tryd.prog 48 #[.agg #[.int .i64 W, .int .i64 H, .slice A n c], .agg #[.int .i64 W', .int .i64 H', .slice A' n' c']] w (Gives (.bool (sameB W H n f W' H' n' f')) w) := by
  have HR := Lib.hid hr
  have HR' := Lib.hid hr'
  clear hr hr'
  have hbel : Below w.heap.size w ((w.alloc (.cells #[.int .i64 W, .int .i64 H, .slice A n c] 30)).alloc (.cells #[.int .i64 W', .int .i64 H', .slice A' n' c'] 30)) := by go_grown
  have HL := Lib.hid hbel
  have HX := Lib.hid (box_two w 30 W H W' H' A A' n c n' c')
  clear hbel
  go_enter Tryd.func48, Tryd.ntmps48
  go_wp2_with fail
  refine (specSame _ _ _ W H W' H' A A' n c n' c' f f' HX.out.1 HX.out.2 (HR.out.below HL.out (Nat.le_refl _)) (HR'.out.below HL.out (Nat.le_refl _))).mono ?_
  rintro e w1 ⟨m, rfl, rfl⟩
  go_wp2
  go_ret
  exact ⟨rfl, below_drewN HL.out m⟩

end Go.Proofs.YtjgclemfehfgiaaDoor.Base
namespace Go.Proofs.YtjgclemfehfgiaaDoor.Base
open Go Go.RowKit
set_option linter.unusedVariables false
set_option linter.unusedSimpArgs false

/-- the two rows do not lie in one block -/
def ApartR (A : Option Addr) (n : Nat) (B : Option Addr) (m : Nat) : Prop := 0 < n → 0 < m → ∀ b, blk A = some b → blk B = some b → False
/-- joined elements that the call has made -/
def OwnJ (w : World) (base : Nat) (A : Option Addr) (n c : Nat) (f : Nat → Int) (B : Option Addr) (m d : Nat) (g : Nat → Int) : Prop :=
  OwnRow w base A n c f ∧ OwnRow w base B m d g ∧ ApartR A n B m
def JnMade (n : Nat) (f : Nat → Int) (m : Nat) (g : Nat → Int) (w : World) (e : Ending) (w' : World) : Prop :=
  ∃ A c B d, e = .returned (.agg #[.slice A n c, .slice B m d]) ∧ OwnJ w' w.heap.size A n c f B m d g ∧ Below w.heap.size w w'
def JnOut (n : Nat) (f : Nat → Int) (m : Nat) (g : Nat → Int) (code : Int) (w : World) (e : Ending) (w' : World) : Prop :=
  ∃ A c B d, e = .returned (.tuple #[.agg #[.slice A n c, .slice B m d], .int .i64 code]) ∧ OwnJ w' w.heap.size A n c f B m d g ∧ Below w.heap.size w w'
theorem OwnRow.setLow {w : World} {base : Nat} {A : Option Addr} {n c : Nat} {f : Nat → Int} (h : OwnRow w base A n c f) {p : Nat} (hp : p < base) (i : Nat) (v : Value) : OwnRow (w.setCell ⟨p, i, none⟩ v) base A n c f :=
  ⟨h.1, h.2.1, h.2.2.1, fun hn => by
    obtain ⟨b, o, e, h1, h2, hc⟩ := h.2.2.2 hn
    refine ⟨b, o, e, h1, by simpa [World.setCell] using h2, fun j hj => ⟨?_, ?_⟩⟩
    · rw [World.cell?_setCell_other _ _ _ _ (fun e => by injection e; omega)]
      exact (hc j hj).1
    · rw [World.frozen?_setCell]
      exact (hc j hj).2⟩
theorem OwnJ.below {w w' : World} {base K : Nat} {A : Option Addr} {n c : Nat} {f : Nat → Int} {B : Option Addr} {m d : Nat} {g : Nat → Int} (h : OwnJ w base A n c f B m d g) (hb : Below K w w') (hB : w.heap.size ≤ K) : OwnJ w' base A n c f B m d g :=
  ⟨h.1.below hb hB, h.2.1.below hb hB, h.2.2⟩
theorem eqJ_same (w : World) (A A' B B' : Option Addr) (n c c' m d d' : Nat) (f g : Nat → Int) (hr : Row .i64 w A n c f) (hr' : Row .i64 w A' n c' f) (hs : Row .i64 w B m d g) (hs' : Row .i64 w B' m d' g) :
    Calls Tryd.prog 34 #[.agg #[.slice A n c, .slice B m d], .agg #[.slice A' n c', .slice B' m d']] w (Gives (.bool true) w) := by
  have HR := Lib.hid hr
  have HR' := Lib.hid hr'
  have HS := Lib.hid hs
  have HS' := Lib.hid hs'
  have HL := Lib.hid (((Below.refl w.heap.size w).alloc (Nat.le_refl _) (.cells #[.slice A n c, .slice B m d] 50)).alloc (by simp) (.cells #[.slice A' n c', .slice B' m d'] 50))
  clear hr hr' hs hs'
  go_enter Tryd.func34, Tryd.ntmps34
  go_wp2_with fail
  refine (eqInts_same _ A A' n c c' f (HR.out.below (by go_grown) (Nat.le_refl _)) (HR'.out.below (by go_grown) (Nat.le_refl _))).mono ?_
  rintro e w1 ⟨k, rfl, rfl⟩
  go_wp2_with fail
  refine (eqInts_same _ B B' m d d' g (HS.out.below (below_drewN HL.out k) (Nat.le_refl _)) (HS'.out.below (below_drewN HL.out k) (Nat.le_refl _))).mono ?_
  rintro e w1 ⟨k', rfl, rfl⟩
  go_wp2
  go_ret
  exact ⟨rfl, by first | exact below_drewN HL.out (k + k') | exact below_drewN (below_drewN HL.out k) k'⟩
/-- no other block has changed -/
def KeepsJ (w w' : World) (A : Option Addr) (n : Nat) (B : Option Addr) (m : Nat) : Prop :=
  w.heap.size ≤ w'.heap.size ∧ ∀ p, p < w.heap.size → (0 < n → blk A = some p → False) → (0 < m → blk B = some p → False) → w'.heap[p]? = w.heap[p]?
theorem Cel.kept {w w' : World} {A B : Option Addr} {n m p : Nat} {cs : List Value} (h : Cel w p cs) (k : KeepsJ w w' A n B m) (h1 : 0 < n → blk A = some p → False) (h2 : 0 < m → blk B = some p → False) : Cel w' p cs :=
  ⟨Nat.lt_of_lt_of_le h.1 k.1, fun i v hv => (World.cell?_of_block (a := ⟨p, i, none⟩) (k.2 p h.1 h1 h2)).trans (h.2 i v hv)⟩
theorem Row.kept {w w' : World} {A B C : Option Addr} {n m q c : Nat} {f : Nat → Int} (h : Row .i64 w C q c f) (k : KeepsJ w w' A n B m) (h1 : ∀ b, 0 < q → blk C = some b → 0 < n → blk A = some b → False) (h2 : ∀ b, 0 < q → blk C = some b → 0 < m → blk B = some b → False) : Row .i64 w' C q c f :=
  ⟨h.1, h.2.1, h.2.2.1, fun hn => by
    obtain ⟨b, o, e, hb, hc⟩ := h.2.2.2 hn
    have eb : blk C = some b := by rw [e]; rfl
    exact ⟨b, o, e, Nat.lt_of_lt_of_le hb k.1, fun i hi => (World.cell?_of_block (a := ⟨b, o + i, none⟩) (k.2 b hb (h1 b hn eb) (h2 b hn eb))).trans (hc i hi)⟩⟩
/-- joined elements whose numbers are counted -/
def MarkedJ (base : Nat) (A : Option Addr) (n c : Nat) (B : Option Addr) (m d : Nat) (k : Int) (w : World) (e : Ending) (w' : World) : Prop :=
  e = .returned (.int .i64 (k + n + m)) ∧ OwnJ w' base A n c (fun i => k + i) B m d (fun i => k + n + i) ∧ Below base w w' ∧ KeepsJ w w' A n B m
theorem Marked.belowB {B base : Nat} {w w' : World} {A : Option Addr} {n c : Nat} {f : Nat → Int} {r : Option Nat} (g : w.grownBy w' r) (h : ∀ b, r = some b → 0 < n ∧ blk A = some b) (ho : OwnRow w base A n c f) (hB : B ≤ base) (hs : base ≤ w.heap.size) : Below B w w' :=
  markedS_below g h (ownS_one.2 ho) hB hs
theorem markJ_any (w : World) (base : Nat) (A : Option Addr) (n c : Nat) (f : Nat → Int) (B : Option Addr) (m d : Nat) (g : Nat → Int) (k : Int) (ho : OwnJ w base A n c f B m d g) (hz : base ≤ w.heap.size) (k0 : 0 ≤ k) (k1 : k + n + m ≤ 9223372036854775807) :
    Calls Tryd.prog 35 #[.agg #[.slice A n c, .slice B m d], .int .i64 k] w (MarkedJ base A n c B m d k w) := by
  obtain ⟨hr, hs, ha⟩ := ho
  have HR := Lib.hid hr
  have HS := Lib.hid hs
  have HA := Lib.hid ha
  clear hr hs ha
  have bN := (Below.refl w.heap.size w).alloc (Nat.le_refl _) (.cells #[.slice A n c, .slice B m d] 50)
  have HX := Lib.hid (Cel.new w [.slice A n c, .slice B m d] 50)
  have HB := Lib.hid (bN.mono hz)
  have HN := Lib.hid bN
  have HR1 := Lib.hid (HR.out.below bN (Nat.le_refl _))
  have HS1 := Lib.hid (HS.out.below bN (Nat.le_refl _))
  clear bN
  go_enter Tryd.func35, Tryd.ntmps35
  go_wp2_with fail
  refine (mark_any _ base A n c f k HR1.out k0 (by omega)).mono ?_
  rintro e w1 ⟨rfl, hr1, r, hg1, hrr⟩
  have HS2 := Lib.hid (HS1.out.grownR hg1 (fun b hm hb e => by obtain ⟨hn, hA⟩ := hrr _ e; exact HA.out hn hm b hA hb))
  have HX2 := Lib.hid (HX.out.grownR hg1 (fun e => by obtain ⟨hn, hA⟩ := hrr _ e; have := (HR.out.base_lt hn _ hA).2; omega))
  have HB2 := Lib.hid (HB.out.trans (Marked.belowB hg1 hrr HR1.out (Nat.le_refl _) (by simp; omega)))
  have HR2 := Lib.hid hr1
  have hz2 := hg1.size
  have HG1 := Lib.hid hg1
  have HRR1 := Lib.hid hrr
  simp at hz2
  clear hr1 hg1 hrr HR1 HS1 HX
  have kz := HX2.out.1
  have k1' := HX2.out.2 1 _ rfl
  go_wp2_with fail
  clear k1' kz
  refine (mark_any _ base B m d g (k + n) HS2.out (by omega) (by omega)).mono ?_
  rintro e w2 ⟨rfl, hs1, r, hg2, hrr⟩
  have HR3 := Lib.hid (HR2.out.grownR hg2 (fun b hn hb e => by obtain ⟨hm, hB⟩ := hrr _ e; exact HA.out hn hm b hb hB))
  have HB3 := Lib.hid (HB2.out.trans (Marked.belowB hg2 hrr HS2.out (Nat.le_refl _) (by omega)))
  have HS3 := Lib.hid hs1
  have HG2 := Lib.hid hg2
  have HRR2 := Lib.hid hrr
  have hz3 := hg2.size
  clear hs1 hg2 hrr
  go_wp2
  go_ret
  refine ⟨rfl, ⟨HR3.out, HS3.out, HA.out⟩, HB3.out, by omega, fun p hp h1 h2 => ?_⟩
  have e1 := HN.out.block p hp
  have e2 := HG1.out.block p (by simp; omega) (fun e => by obtain ⟨hn, hA⟩ := HRR1.out _ e.symm; exact h1 hn hA)
  have e3 := HG2.out.block p (by omega) (fun e => by obtain ⟨hn, hA⟩ := HRR2.out _ e.symm; exact h2 hn hA)
  exact e3.trans (e2.trans e1)
theorem heldJ_any (w : World) (A : Option Addr) (n c : Nat) (B : Option Addr) (m d : Nat) (k : Int) (hr : Row .i64 w A n c (fun i => k + i)) (hs : Row .i64 w B m d (fun i => k + n + i)) (k0 : 0 ≤ k) (k1 : k + n + m ≤ 9223372036854775807) :
    Calls Tryd.prog 36 #[.agg #[.slice A n c, .slice B m d], .int .i64 k] w (Gives (.int .i64 (k + n + m)) w) := by
  have HR := Lib.hid hr
  have HS := Lib.hid hs
  clear hr hs
  go_enter Tryd.func36, Tryd.ntmps36
  go_wp2_with fail
  refine (held_any _ A n c k (HR.out.below ((Below.refl _ _).alloc (Nat.le_refl _) _) (Nat.le_refl _)) k0 (by omega)).mono ?_
  rintro e w1 ⟨rfl, rfl⟩
  go_wp2_with fail
  refine (held_any _ B m d (k + n) (HS.out.below ((Below.refl _ _).alloc (Nat.le_refl _) _) (Nat.le_refl _)) (by omega) (by omega)).mono ?_
  rintro e w1 ⟨rfl, rfl⟩
  go_wp2
  go_ret
  exact ⟨rfl, by go_grown⟩
end Go.Proofs.YtjgclemfehfgiaaDoor.Base
namespace Go.Proofs.YtjgclemfehfgiaaDoor.Base
open Go Go.RowKit
set_option linter.unusedVariables false
set_option linter.unusedSimpArgs false
/-- a copy of a list that the call has made -/
def CloneOut (n : Nat) (f : Nat → Int) (w : World) (e : Ending) (w' : World) : Prop :=
  ∃ v, e = .returned v ∧ w'.ownsRow w.heap.size 2 1 v n (cellsOfF n f) ∧ Below w.heap.size w w'
theorem cells_zero (f : Nat → Int) : cellsOfF 0 f = [] := by simp [cellsOfF]
theorem clone_own (w : World) (A : Option Addr) (n c : Nat) (f : Nat → Int) (hr : Row .i64 w A n c f) (hn2 : n ≤ 1048576) :
    Calls Tryd.prog 106 #[.slice A n c] w (CloneOut n f w) := by
  obtain ⟨hnc, hcm, hwf, hcell⟩ := hr
  obtain ⟨i0, hi, hz0, hz1, hz2⟩ := info_parts infoI64
  have HBL := Lib.hid (show Below w.heap.size w (w.alloc (.cells #[] 2)) from (Below.refl _ _).alloc (Nat.le_refl _) _)
  have hnil := fun (W : World) => Lib.run_eql_slice_nil (P := Tryd.prog) W 22 2 A n c 0 0 Tryd.underlying22
  by_cases hn : 0 < n
  · obtain ⟨b, o, rfl, hb, hc⟩ := hcell hn
    have HC := Lib.hid hc
    clear hcell hc hwf
    go_enter Tryd.func106, Tryd.ntmps106
    go_wp2_with (at_builtin; refine wpList_append_own _ rfl (.tmp 5) (.tmp 6) 22 rfl w.heap.size 2 i0 (.int .i64 0) 1 8 Tryd.underlying22 hi hz0 hz1 hz2 rfl (by decide) _ 0 [] rfl (owns_empty w _) ⟨b, o, none⟩ n c (cellsOfF n f) rfl ?c1 ?c2 ?c3 ?c4 ?c5 ?c6 ?_)
    case c1 => rw [cellsOfF_len]; omega
    case c2 =>
      intro j u hj
      have hjn : j < n := by
        rcases Nat.lt_or_ge j n with h | h
        · exact h
        · rw [List.getElem?_eq_none (by rw [cellsOfF_len]; exact h)] at hj; cases hj
      rw [cellsOfF_at hjn] at hj
      cases hj
      have e : (⟨b, o, none⟩ : Addr).add j = ⟨b, o + j, none⟩ := by unfold Addr.add; split <;> simp_all
      rw [e, HBL.out.cell (p := ⟨b, o + j, none⟩) hb]
      exact HC.out j hjn
    case c3 => intro u hu; simp [cellsOfF] at hu; obtain ⟨i, _, rfl⟩ := hu; rfl
    case c4 => unfold maxLen; omega
    case c5 => omega
    case c6 => simp
    intro v' w1 hown hg _
    have HBB := Lib.hid (HBL.out.grown hg (by simp) (fun k hk => by simp [Value.ownBlock] at hk; omega))
    have HO := Lib.hid hown
    clear hown hg
    go_wp2
    go_ret
    exact ⟨v', rfl, HO.out, HBB.out⟩
  · obtain rfl : n = 0 := by omega
    cases A with
    | none =>
      go_enter Tryd.func106, Tryd.ntmps106
      go_wp2
      go_ret
      exact ⟨_, rfl, by rw [cells_zero]; exact ⟨rfl, .inl ⟨rfl, rfl⟩⟩, Below.refl _ _⟩
    | some ad =>
      go_enter Tryd.func106, Tryd.ntmps106
      go_wp2_with (at_builtin; refine wpList_append_own _ rfl (.tmp 5) (.tmp 6) 22 rfl w.heap.size 2 i0 (.int .i64 0) 1 8 Tryd.underlying22 hi hz0 hz1 hz2 rfl (by decide) _ 0 [] rfl (owns_empty w _) ad 0 c [] rfl rfl (fun j u hj => by simp at hj) (fun u hu => by simp at hu) (by decide) (by decide) (by simp) ?_)
      intro v' w1 hown hg _
      have HBB := Lib.hid (HBL.out.grown hg (by simp) (fun k hk => by simp [Value.ownBlock] at hk; omega))
      have HO := Lib.hid hown
      clear hown hg
      go_wp2
      go_ret
      exact ⟨v', rfl, by rw [cells_zero]; exact HO.out, HBB.out⟩
theorem sz_drew (w : World) (o : Obj) : (w.alloc o).drew.heap.size = w.heap.size + 1 := by show (w.alloc _).heap.size = _; simp
theorem owns_mono {w : World} {base base' n s : Nat} {e : TypeId} {v : Value} {xs : List Value} (h : w.ownsRow base e s v n xs) (hb : base' ≤ base) : w.ownsRow base' e s v n xs := by
  refine ⟨h.1, ?_⟩
  rcases h.2 with ⟨e1, e2⟩ | ⟨g, cap, cur, e1, hg0, h3⟩
  · exact .inl ⟨e1, e2⟩
  · exact .inr ⟨g, cap, cur, e1, by omega, h3⟩
/-- elements of which the first k are linked -/
def ElmK (w : World) (E n k : Nat) (p : Nat → Nat) : Prop :=
  ∃ cs, At w E cs 158 ∧ (∀ i, i < k → cs[i * 2]? = some (.int .i64 (i : Int)) ∧ cs[i * 2 + 1]? = some (.pointer (some ⟨E, p i * 2, none⟩))) ∧ ∀ i, k ≤ i → i < n → cs[i * 2]? = some (.int .i64 0) ∧ cs[i * 2 + 1]? = some (.pointer none)
theorem ElmK.put {w : World} {E n k : Nat} {p : Nat → Nat} (h : ElmK w E n k p) (hk : k < n) : ElmK ((w.setCell ⟨E, k * 2, none⟩ (.int .i64 (k : Int))).setCell ⟨E, k * 2 + 1, none⟩ (.pointer (some ⟨E, p k * 2, none⟩))) E n (k + 1) p := by
  obtain ⟨cs, h1, h2, h3⟩ := h
  obtain ⟨c1, c2⟩ := h3 k (Nat.le_refl _) hk
  have s1 : k * 2 < cs.size := (Array.getElem?_eq_some_iff.1 c1).1
  have s2 : k * 2 + 1 < cs.size := (Array.getElem?_eq_some_iff.1 c2).1
  refine ⟨_, (h1.set (k * 2) (.int .i64 (k : Int))).set (k * 2 + 1) (.pointer (some ⟨E, p k * 2, none⟩)), fun i hi => ?_, fun i hi1 hi2 => ?_⟩
  · rw [Array.getElem?_setIfInBounds, Array.getElem?_setIfInBounds, Array.getElem?_setIfInBounds, Array.getElem?_setIfInBounds]
    by_cases e : i = k
    · subst e
      rw [if_neg (by omega), if_pos rfl, if_pos rfl]
      simp [s1, s2]
    · rw [if_neg (by omega), if_neg (by omega), if_neg (by omega), if_neg (by omega)]
      exact h2 i (by omega)
  · rw [Array.getElem?_setIfInBounds, Array.getElem?_setIfInBounds, Array.getElem?_setIfInBounds, Array.getElem?_setIfInBounds]
    rw [if_neg (by omega), if_neg (by omega), if_neg (by omega), if_neg (by omega)]
    exact h3 i (by omega) hi2
theorem owns_ne2 {w : World} {base n s : Nat} {e : TypeId} {v : Value} {xs : List Value} (h : w.ownsRow base e s v n xs) {E i j : Nat} {a b : Value} (hne : ∀ g, v.ownBlock = some g → g ≠ E) : (((w.setCell ⟨E, i, none⟩ a).setCell ⟨E, j, none⟩ b).drew).ownsRow base e s v n xs := by
  have hg : ∀ (x : World) (k : Nat) (u : Value), x.grownBy (x.setCell ⟨E, k, none⟩ u) (some E) := fun x k u => ⟨rfl, rfl, rfl, by simp [World.setCell], fun q hq hq2 => Below.heap_setCell x ⟨E, k, none⟩ u q (by rintro rfl; exact hq2 rfl)⟩
  have hv : v.ownBlock = none ∨ v.ownBlock ≠ some E := .inr (fun e => hne E e rfl)
  exact owns_belowS ((h.kept (hg w i a) hv).kept (hg _ j b) hv) (Below.refl _ _).drew
def zeroEl (n : Nat) : Array Value := madeCells #[.int .i64 0, .pointer none] (n * 2)
theorem zeroEl_at {n i : Nat} (h : i < n) : (zeroEl n)[i * 2]? = some (.int .i64 0) ∧ (zeroEl n)[i * 2 + 1]? = some (.pointer none) := by
  have h1 : (i * 2) % 2 = 0 := by omega
  have h2 : (i * 2 + 1) % 2 = 1 := by omega
  unfold zeroEl madeCells
  constructor
  · rw [Array.getElem?_map, Array.getElem?_range, if_pos (by omega)]
    simp [h1]
  · rw [Array.getElem?_map, Array.getElem?_range, if_pos (by omega)]
    simp [h2]
theorem make_el (n : Nat) (hn : n ≤ 256) (w : World) : (Instr.makeSlice 152 (.int .i64 (n : Int)) (.int .i64 (n : Int))).run Tryd.prog w = .ok (.slice (some ⟨w.heap.size, 0, none⟩) n n) (w.alloc (.cells (zeroEl n) 158)) := by
  obtain ⟨i, hi, hz0, hz1, hz2⟩ := info_parts infoEl
  have h := run_make (P := Tryd.prog) w 152 158 i _ Tryd.underlying152 hi hz0 .i64 .i64 n n (by omega) (Int.le_refl _) (by rw [hz2]; omega) (by omega)
  rw [hz1] at h
  simpa [zeroEl, Value.cells] using h
def pNat (f : Nat → Int) (k : Nat) : Nat := (f k).toNat
set_option maxHeartbeats 4000000 in
set_option maxRecDepth 100000 in
theorem impl_planted (w : World) (A : Option Addr) (n c : Nat) (f : Nat → Int) (B : Option Addr) (m d : Nat) (g : Nat → Int) (hr : Row .i64 w A n c f) (hr' : Row .i64 w B m d g) (n1 : 1 ≤ n) (n2 : n ≤ 256) (hm : m ≤ 1048576) (hf : ∀ k, k < n → 0 ≤ f k ∧ f k < n) :
    Calls Tryd.prog 80 #[.agg #[.slice A n c, .slice B m d]] w (fun e w' => ∃ F E lv base, e = .returned (.pointer (some ⟨F, 0, none⟩)) ∧ Fst w' base F E n lv (.slice none 0 0) (pNat f) [] ∧ w'.ownsRow w.heap.size 2 1 lv m (cellsOfF m g) ∧ (∀ b, lv.ownBlock = some b → b < base ∧ b ≠ F ∧ b ≠ E) ∧ w.heap.size ≤ F ∧ w.heap.size ≤ E ∧ Below w.heap.size w w') := by
  have hmk := make_el n n2
  have HL := Lib.hid ((Below.refl w.heap.size w).alloc (Nat.le_refl _) (.cells #[.slice A n c, .slice B m d] 50))
  have HX := Lib.hid (Cel.new w [.slice A n c, .slice B m d] 50)
  have HRA := Lib.hid (hr.below HL.out (Nat.le_refl _))
  have HRB := Lib.hid (hr'.below HL.out (Nat.le_refl _))
  have HRd := Lib.hid (hr'.below HL.out.drew (Nat.le_refl _))
  clear hr hr'
  have kz := HX.out.1
  have k0 := HX.out.2 0 _ rfl
  have k1 := HX.out.2 1 _ rfl
  go_enter Tryd.func80, Tryd.ntmps80
  go_wp2
  generalize w.alloc (.cells #[.slice A n c, .slice B m d] 50) = w1 at *
  have hw1 := HL.out.size
  go_cut [3] (fun s3 wx => ∃ F E lv, s3 = .pointer (some ⟨F, 0, none⟩) ∧ Hid (At wx F #[.slice (some ⟨E, 0, none⟩) n n, lv, .slice none 0 0] 155) ∧ Hid (At wx E (zeroEl n) 158) ∧ Hid (wx.ownsRow w1.heap.size 2 1 lv m (cellsOfF m g)) ∧ w1.heap.size ≤ F ∧ w1.heap.size ≤ E ∧ F ≠ E ∧ Hid (∀ b, lv.ownBlock = some b → b ≠ F ∧ b ≠ E) ∧ Hid (Below w1.heap.size w1 wx))
  case first =>
    have OL := Lib.hid (Old.mk_ (Below.refl w1.heap.size w1).drew)
    go_region_held3 (fun w' => (∀ b o, b < (w1).heap.size → w'.cell? ⟨b, o, none⟩ = (w1).cell? ⟨b, o, none⟩) ∧ Below (w1).heap.size (w1) w') (first | assumption | exact OL.out | exact Old.trans (by assumption) (by assumption) | exact Old.trans (by assumption) ((Below.refl _ _).alloc (Nat.le_refl _) _)) (first | (go_at_call 106; refine (clone_own _ B m d g ?_ hm).mono ?_; (first | exact HRd.out | exact HRB.out.below (((Below.refl _ _).drew).alloc (Nat.le_refl _) _) (Nat.le_refl _) | exact HRB.out.below (((Below.refl _ _).alloc (Nat.le_refl _) _).drew) (Nat.le_refl _)); rintro e wa ⟨lv, rfl, hO, ba⟩; obtain ⟨Al, cl, rfl⟩ := owns_slice hO; have bO : Below w1.heap.size w1 wa := (by first | exact ((Below.refl w1.heap.size w1).drew).trans ba | exact (((Below.refl w1.heap.size w1).alloc (Nat.le_refl _) _).drew).trans (ba.mono (by simp)) | exact (((Below.refl w1.heap.size w1).drew).alloc (Nat.le_refl _) _).trans (ba.mono (by simp))); have hOl := Old.mk_ bO))
    all_goals (go_wp2_with fail; go_meet)
    all_goals first
      | exact ⟨wa.heap.size, w1.heap.size, _, rfl, Lib.hid (At.new wa _ _), Lib.hid (((At.new w1 (zeroEl n) 158).drew.below ba (by show _ < (w1.alloc _).heap.size; simp)).below ((Below.refl _ _).alloc (Nat.le_refl _) _) (by have := ba.size; have h2 := sz_drew w1 (.cells (zeroEl n) 158); omega)), Lib.hid (owns_mono (hO.alloc _) (by show _ ≤ (w1.alloc _).heap.size; simp)), bO.size, Nat.le_refl _, by have := ba.size; have h2 := sz_drew w1 (.cells (zeroEl n) 158); omega, Lib.hid (fun b hb => by have h3 := hO.lt b hb; have h2 := sz_drew w1 (.cells (zeroEl n) 158); omega), Lib.hid (bO.alloc bO.size _)⟩
      | exact ⟨wa.heap.size + 1, wa.heap.size, _, rfl, Lib.hid (by have h := At.new (wa.alloc (.cells (zeroEl n) 158)) #[.slice (some ⟨wa.heap.size, 0, none⟩) n n, .slice Al m cl, .slice none 0 0] 155; rw [World.size_alloc] at h; exact h), Lib.hid ((At.new wa (zeroEl n) 158).below ((Below.refl _ _).alloc (Nat.le_refl _) _) (by simp)), Lib.hid (((owns_mono hO (Nat.le_refl _)).alloc _).alloc _), by have := bO.size; omega, bO.size, by omega, Lib.hid (fun b hb => by have h3 := hO.lt b hb; omega), Lib.hid ((bO.alloc bO.size _).alloc (by have := bO.size; simp; omega) _)⟩
  case rest =>
    obtain ⟨F, E, lv, rfl, HFb, HEb, HLO, hF, hE, hFE, HNE, HBx⟩ := hcut
    have hxz := HBx.out.size
    have HX2 := Lib.hid (HX.out.below HBx.out kz)
    have HRA2 := Lib.hid (HRA.out.below HBx.out (Nat.le_refl _))
    have HB2 := Lib.hid (HL.out.trans (HBx.out.mono hw1))
    have kz2 := HX2.out.1
    have j0 := HX2.out.2 0 _ rfl
    clear k0 k1 HX HRB HRd hmk
    go_wp2
    clear j0
    go_loopw [18] (fun iv wr => ∃ k : Nat, k ≤ n ∧ iv = .int .i64 (k : Int) ∧ Hid (ElmK wr E n k (pNat f)) ∧ Hid (At wr F #[.slice (some ⟨E, 0, none⟩) n n, lv, .slice none 0 0] 155) ∧ Hid (wr.ownsRow w1.heap.size 2 1 lv m (cellsOfF m g)) ∧ Hid (Below w1.heap.size wc wr)) (fun iv _ => n - (intOf iv).toNat)
    case atStart => exact ⟨0, Nat.zero_le _, rfl, Lib.hid ⟨_, HEb.out, fun i h => absurd h (Nat.not_lt_zero _), fun i _ h => zeroEl_at h⟩, HFb, HLO, Lib.hid (Below.refl _ _)⟩
    case round =>
      clear HEb HFb HLO
      obtain ⟨k, hk, rfl, HE, HFb, HLO, HW⟩ := hrel
      by_cases hlt : k < n
      · obtain ⟨b, o, rfl, hbl, hc⟩ := (HRA.out.below (HBx.out.trans HW.out) (Nat.le_refl _)).2.2.2 (by omega)
        have hck := hc k hlt
        obtain ⟨z, hz⟩ : ∃ z : Nat, f k = z := ⟨(f k).toNat, by have := hf k hlt; omega⟩
        have hzn : z < n := by have := hf k hlt; omega
        have HZ := Lib.hid (show pNat f k = z by unfold pNat; omega)
        rw [hz] at hck
        clear hc hz
        have b0 := HFb.out.cellv (i := 0) rfl
        have bz := HFb.out.lt
        obtain ⟨cs, a1, a2, a3⟩ := HE.out
        obtain ⟨e0, e1⟩ := a3 k (Nat.le_refl _) hlt
        have c0 := a1.cellv e0
        have c1 := a1.cellv e1
        have g0 := a1.frozen (k * 2)
        have g1 := a1.frozen (k * 2 + 1)
        have ez := a1.lt
        clear a1 a2 a3 e0 e1
        have t0 : ((wr.setCell ⟨E, k * 2, none⟩ (.int .i64 (k : Int))).setCell ⟨E, k * 2 + 1, none⟩ (.pointer (some ⟨E, z * 2, none⟩))).drew.cell? ⟨F, 0, none⟩ = some (.slice (some ⟨E, 0, none⟩) n n) := by
          show (World.setCell _ _ _).cell? _ = _
          rw [World.cell?_setCell_other _ _ _ _ (fun e => by injection e; omega), World.cell?_setCell_other _ _ _ _ (fun e => by injection e; omega)]
          exact b0
        go_wp2
        go_region_held3 (fun w' => w'.cell? ⟨F, 0, none⟩ = some (.slice (some ⟨E, 0, none⟩) n n))
          (first | exact b0 | exact t0 | go_keep | assumption)
          (fail)
        rename_i hSx
        clear hSx t0 b0 c0 c1 g0 g1
        go_wp2
        go_roundw
        case rel =>
          have hp := HE.out.put hlt
          rw [HZ.out] at hp
          obtain ⟨cs, p1, p2, p3⟩ := hp
          exact ⟨k + 1, by omega, by go_num, Lib.hid ⟨cs, p1.drew, p2, p3⟩, Lib.hid ((HFb.out.setOther (by exact fun e => hFE e.symm) _).setOther (by exact fun e => hFE e.symm) _).drew, Lib.hid (owns_ne2 HLO.out (fun b hb => (HNE.out b hb).2)), Lib.hid (((HW.out.setCell (by exact hE) _).setCell (by exact hE) _).drew)⟩
        case measure => simp [intOf]; omega
      · obtain rfl : k = n := by omega
        go_wp2
        go_ret
        obtain ⟨cs, a1, a2, a3⟩ := HE.out
        refine ⟨F, E, lv, wr.heap.size, rfl, ⟨HFb.out, ⟨cs, a1, a2⟩, ⟨rfl, .inl ⟨rfl, rfl⟩⟩, HFb.out.lt, a1.lt, hFE, Nat.le_refl _⟩, owns_mono HLO.out hw1, fun b hb => ⟨(HLO.out.lt b hb).2, HNE.out b hb⟩, by omega, by omega, HB2.out.trans (HW.out.mono hw1)⟩
end Go.Proofs.YtjgclemfehfgiaaDoor.Base
namespace Go.Proofs.YtjgclemfehfgiaaDoor.Base
open Go Go.RowKit
set_option linter.unusedVariables false
set_option linter.unusedSimpArgs false
attribute [local go_sem] Oper.semAt_some

/-- what the body of a deferred function must achieve that holds one range over a function -/
def bodyPost1 (P : Program) (fn : Func) (R : Ending → World → Prop) : Exit → Act → World → Prop
  | .normal, a, w | .ret, a, w => ∃ D ar w', a.defers = [{ target := .collected D, args := ar }] ∧ (Instr.takeDeferred D).run P w = .ok [] w' ∧ ∃ v, (results fn a.tmps).run P w' = .ok v w' ∧ R (.returned v) w'
  | _, _, _ => False
theorem callsD_of_wp_mark {P : Program} {n : Nat} {f : FuncId} {fn : Func} {c : Code} {args : Array Value} {u : FrameMode} {w : World} {R : Ending → World → Prop}
    (hf : P.funcs[f]? = some fn) (hb : fn.body = some c)
    (h : c.wpIn Fence.wide n P (bodyPost1 P fn R) { tmps := args ++ Array.replicate (fn.ntmps - args.size) undef, defers := [] } w) :
    CallsD P f args u w fun e u' w' => u' = u ∧ R e w' := by
  intro c₀ cs hu
  let b : Frame := { (default : Frame) with fn := f, kind := .deferred, roundOf := none }
  have henter : Frame.enter P f args .deferred =
      b.atR { tmps := args ++ Array.replicate (fn.ntmps - args.size) undef, defers := [] } [.code c] := by
    simp [Frame.enter, Frame.atR, hf, hb, b]
  have hc : ({ c₀ with mode := u } : Frame) = c₀ := by subst hu; rfl
  obtain ⟨e, a', w', hq, harr⟩ := h b [] (c₀ :: cs) rfl trivial (room_wide _)
  rw [← henter] at harr
  cases e with
  | normal =>
    obtain ⟨D, ar, w2, hd, ht, v, hr, hR⟩ := hq
    have h1 := step_collected (P := P) (fr := { b.atR a' [] with mode := .returning }) (cs := c₀ :: cs) (w := w') (d := { target := .collected D, args := ar }) (r := D) (ds := []) (calls := []) (by simp) hd rfl ht
    exact ⟨.returned v, u, w2, _, ⟨rfl, hR⟩, (by rw [hc]; exact (harr.steps.trans (.one (stepR_end rfl))).trans (.one h1)), rfl, rfl, rfl, fn, hf, hr⟩
  | ret =>
    obtain ⟨D, ar, w2, hd, ht, v, hr, hR⟩ := hq
    obtain ⟨todo, hs⟩ := harr.1 rfl
    have h1 := step_collected (P := P) (fr := { b.atR a' todo with mode := .returning }) (cs := c₀ :: cs) (w := w') (d := { target := .collected D, args := ar }) (r := D) (ds := []) (calls := []) (by simp) hd rfl ht
    exact ⟨.returned v, u, w2, _, ⟨rfl, hR⟩, (by rw [hc]; exact hs.steps.trans (.one h1)), rfl, rfl, rfl, fn, hf, hr⟩
  | panic chain => exact hq.elim
  | exit id => exact hq.elim
  | goto l => exact hq.elim
  | outgrown => exact hq.elim

/-- block G holds the changes L -/
def ChA (w : World) (G E : Nat) (L : List (Nat × Nat)) : Prop :=
  ∃ cs, At w G cs 220 ∧ ∀ j, j < L.length → cs[j * 2]? = some (.pointer (some ⟨E, (L.getD j (0, 0)).1 * 2, none⟩)) ∧ cs[j * 2 + 1]? = some (.pointer (some ⟨E, (L.getD j (0, 0)).2 * 2, none⟩))
theorem ChA.of_block {w w' : World} {G E : Nat} {L : List (Nat × Nat)} (h : ChA w G E L) (e : w'.heap[G]? = w.heap[G]?) : ChA w' G E L := by
  obtain ⟨cs, h1, h2⟩ := h
  exact ⟨cs, h1.of_block e, h2⟩
theorem ChA.lt {w : World} {G E : Nat} {L : List (Nat × Nat)} (h : ChA w G E L) : G < w.heap.size := by obtain ⟨cs, h1, h2⟩ := h; exact h1.lt
theorem chV_at (E : Nat) : ∀ (L : List (Nat × Nat)) (j : Nat), j < L.length → (chV E L)[j * 2]? = some (.pointer (some ⟨E, (L.getD j (0, 0)).1 * 2, none⟩)) ∧ (chV E L)[j * 2 + 1]? = some (.pointer (some ⟨E, (L.getD j (0, 0)).2 * 2, none⟩))
  | [], j, h => absurd h (Nat.not_lt_zero _)
  | (a, b) :: L, 0, h => by simp [chV]
  | (a, b) :: L, j + 1, h => by
    have ih := chV_at E L j (by simpa using h)
    have e1 : (j + 1) * 2 = j * 2 + 1 + 1 := by omega
    rw [e1]
    simpa [chV] using ih
theorem owns_chA {w : World} {base E : Nat} {cv : Value} {L : List (Nat × Nat)} (h : w.ownsRow base 220 2 cv L.length (chV E L)) (hl : 0 < L.length) : ∃ G cap, cv = .slice (some ⟨G, 0, none⟩) L.length cap ∧ base ≤ G ∧ ChA w G E L := by
  obtain ⟨h0, h1⟩ := h
  rcases h1 with ⟨e1, e2⟩ | ⟨g, cap, cur, e1, hg, h2, h3, h4, h5, h6⟩
  · omega
  · refine ⟨g, cap, e1, hg, cur, h2, fun j hj => ?_⟩
    have h7 : ∀ i, i < L.length * 2 → cur[i]? = (chV E L)[i]? := fun i hi => by
      rw [← h6, List.getElem?_take_of_lt hi, Array.getElem?_toList]
    rw [h7 _ (by omega), h7 _ (by omega)]
    exact chV_at E L j hj
def chE (E : Nat) (L : List (Nat × Nat)) (j : Nat) : Value := .agg #[.pointer (some ⟨E, (L.getD j (0, 0)).1 * 2, none⟩), .pointer (some ⟨E, (L.getD j (0, 0)).2 * 2, none⟩)]
theorem impl_backward (w : World) (A : Option Addr) (m c : Nat) :
    Calls Tryd.prog 177 #[.slice A m c] w (fun e w' => e = .returned (.func (.func 197) #[] #[.pointer (some ⟨w.heap.size, 0, none⟩)]) ∧ w' = w.alloc (.cells #[.slice A m c] 153)) := by
  go_enter Tryd.func177, Tryd.ntmps177
  go_wp2
  go_ret
  exact ⟨rfl, rfl⟩
set_option maxHeartbeats 4000000 in
theorem bwd_iter (n : Nat) (hn1 : 1 ≤ n) (w : World) (E pb G : Nat) (A : Option Addr) (cap : Nat) (L : List (Nat × Nat)) (hb : At w pb #[.slice A L.length cap] 153) (hG : 0 < L.length → A = some ⟨G, 0, none⟩ ∧ ChA w G E L) (hm : L.length ≤ 1048576) :
    IterY Fence.wide n Tryd.prog 197 #[.pointer (some ⟨pb, 0, none⟩)] (fun k => #[.int .i64 ((L.length : Int) - 1 - k), chE E L (L.length - 1 - k)]) L.length 0 [pb, G] w := fun l J Jx Wa hba hnew hJ hJx hset hY h0 => by
  refine callsIn_of_wp Tryd.func197 rfl trivial ?_ rfl
  simp only [Tryd.ntmps197, List.size_toArray, List.length_cons, List.length_nil, Nat.reduceAdd, Nat.reduceSub, Array.replicate_succ, Array.replicate_zero, List.push_toArray, List.append_toArray, List.nil_append, List.cons_append]
  have HA := Lib.hid (hb.below hba hb.lt)
  have HG := Lib.hid (fun h => (hG h).2.of_block (hba.block G (hG h).2.lt))
  have HGA := Lib.hid (fun h => (hG h).1)
  have HJ0 := Lib.hid h0
  have HY := Lib.hid hY
  have k0 : Wa.cell? ⟨pb, 0, none⟩ = some (.slice A L.length cap) := HA.out.cellv (i := 0) rfl
  have l0 := HA.out.lt
  clear hb hG h0 hnew hJ hJx hset hY
  obtain ⟨N, hN⟩ : ∃ N, L.length = N := ⟨_, rfl⟩
  have HN := Lib.hid hN
  rw [hN] at hm HA HG HGA HY k0 ⊢
  clear hN
  gi_wp2_with fail
  clear k0
  gi_loopw [3] (fun iv wr => ∃ k : Nat, k ≤ N ∧ iv = .int .i64 ((N : Int) - 1 - k) ∧ Hid (J [] k wr) ∧ Hid (At wr pb #[.slice A N cap] 153) ∧ Hid (0 < N → ChA wr G E L)) (fun iv _ => (intOf iv + 1).toNat)
  case atStart => exact ⟨0, Nat.zero_le _, by simp, HJ0, HA, HG⟩
  case round =>
    clear HJ0 HA HG l0
    obtain ⟨k, hk, rfl, HJk, HAk, HGk⟩ := hrel
    by_cases hlt : k < N
    · obtain ⟨j, hj⟩ : ∃ j : Nat, N - 1 - k = j := ⟨_, rfl⟩
      have hji : (N : Int) - 1 - k = (j : Int) := by omega
      have hjN : j < N := by omega
      obtain ⟨cs, g1, g2⟩ := HGk.out (by omega)
      obtain ⟨c1, c2⟩ := g2 j (by rw [HN.out]; exact hjN)
      obtain ⟨x, hx⟩ : ∃ x, (L.getD j (0, 0)).1 = x := ⟨_, rfl⟩
      obtain ⟨y, hy⟩ : ∃ y, (L.getD j (0, 0)).2 = y := ⟨_, rfl⟩
      rw [hx] at c1
      rw [hy] at c2
      have q1 := g1.cellv c1
      have q2 := g1.cellv c2
      have lG := g1.lt
      have hAe := HGA.out (by omega)
      obtain ⟨fn, tm, assign, body, hyy, hR⟩ := HY.out [] k wr hlt HJk.out
      have hel : chE E L (N - 1 - k) = .agg #[.pointer (some ⟨E, x * 2, none⟩), .pointer (some ⟨E, y * 2, none⟩)] := by unfold chE; rw [hj, hx, hy]
      have hy' : (Instr.yield l #[.int .i64 (j : Int), .agg #[.pointer (some ⟨E, x * 2, none⟩), .pointer (some ⟨E, y * 2, none⟩)]]).run Tryd.prog wr = .ok (.round l fn tm assign body) wr := by
        rw [hji, hel] at hyy
        exact hyy
      subst hAe
      have HJJ := Lib.hid hji
      have k0 : wr.cell? ⟨pb, 0, none⟩ = some (.slice (some ⟨G, 0, none⟩) N cap) := HAk.out.cellv (i := 0) rfl
      have l0 := HAk.out.lt
      rw [hji]
      clear hyy hel hx hy c1 c2 g1 g2 hji hj
      gi_wp2_with fail
      clear k0 q1 q2
      refine hR.mono ?_
      clear hy' hR
      rintro e W5 (⟨rfl, hJ5, hk5⟩ | ⟨rfl, hJx5⟩)
      · have HA5 := Lib.hid (HAk.out.of_block (hk5.box pb (by simp) l0))
        have HG5 := Lib.hid (fun h : 0 < N => (HGk.out h).of_block (hk5.box G (by simp) lG))
        have HJ5 := Lib.hid hJ5
        clear hk5 hJ5 HAk HGk HJk
        gi_wp2
        go_roundw
        case rel => exact ⟨k + 1, by omega, by have := HJJ.out; first | (congr 1; done) | (congr 1; omega), HJ5, HA5, HG5⟩
        case measure => (simp [intOf]; try omega)
      · have HJ5 := Lib.hid hJx5
        clear hJx5
        gi_wp2
        refine bodyPost_ret (results_none rfl _ _ _) rfl ?_
        exact ⟨⟨_, rfl⟩, .inr ⟨k + 1, by omega, HJ5.out⟩⟩
    · obtain rfl : k = N := by omega
      have hz : (k : Int) - 1 - k = -1 := by omega
      rw [hz]
      gi_wp2
      go_end0
      exact ⟨⟨_, rfl⟩, .inl ⟨[], HJk.out⟩⟩
end Go.Proofs.YtjgclemfehfgiaaDoor.Base
namespace Go.Proofs.YtjgclemfehfgiaaDoor.Base
open Go Go.RowKit
set_option linter.unusedVariables false
set_option linter.unusedSimpArgs false
attribute [local go_sem] Oper.semAt_some

/-- what stands in the rounds -/
def RsI (w : World) (F E n : Nat) (p : Nat → Nat) (L : List (Nat × Nat)) (X : List Nat) (k : Nat) (A : World) : Prop :=
  X = [E] ∧ Elm A E n (undo (L.drop (L.length - k)) p) ∧ Frm w.heap.size F E w A ∧ A.heap[F]? = w.heap[F]?
theorem Elm.putObj {w : World} {E n : Nat} {p : Nat → Nat} (h : Elm w E n p) {l : Nat} (hl : l ≠ E) (o' : Obj) : Elm (w.putObj l o') E n p := h.of_block (World.putObj_heap_other (fun e => hl e.symm))
theorem Frm.put {base F E : Nat} {w A : World} (h : Frm base F E w A) {l : Nat} (hl : base ≤ l) (o' : Obj) : Frm base F E w (A.putObj l o') :=
  ⟨h.os, h.tape, h.output, by simpa using h.size, fun k h1 h2 h3 => (World.putObj_heap_other (by omega)).trans (h.block k h1 h2 h3)⟩
theorem Frm.set {base F E : Nat} {w A : World} (h : Frm base F E w A) {b : Nat} (hb : base ≤ b ∨ b = E ∨ b = F) (i : Nat) (v : Value) : Frm base F E w (A.setCell ⟨b, i, none⟩ v) :=
  ⟨h.os, h.tape, h.output, by simpa [World.setCell] using h.size, fun k h1 h2 h3 => (Below.heap_setCell A ⟨b, i, none⟩ v k (by show k ≠ b; rcases hb with hb | hb | hb <;> omega)).trans (h.block k h1 h2 h3)⟩
theorem Frm.bel {base F E K : Nat} {w A A' : World} (h : Frm base F E w A) (hb : Below K A A') (hK : base ≤ K) : Frm base F E w A' :=
  ⟨hb.os.trans h.os, hb.tape.trans h.tape, hb.output.trans h.output, Nat.le_trans h.size hb.size, fun k h1 h2 h3 => (hb.block k (by omega)).trans (h.block k h1 h2 h3)⟩
theorem holds_rsI {w : World} {F E n B : Nat} {p : Nat → Nat} {L : List (Nat × Nat)} (hF : F < w.heap.size) (hB : w.heap.size ≤ B) : HoldsY B (RsI w F E n p L) where
  below := fun X k A A' ⟨h1, h2, h3, h4⟩ hb => ⟨h1, h2.of_block (hb.block E h2.lt), h3.bel hb (by exact h3.size), (hb.block F (by have := h3.size; omega)).trans h4⟩
  put := fun X k A l o' ⟨h1, h2, h3, h4⟩ hl hX ho => ⟨h1, h2.putObj (by rintro rfl; exact hX (by rw [h1]; simp)) o', h3.put (by omega) o', (World.putObj_heap_other (by omega)).trans h4⟩
  set := fun X k A b i u ⟨h1, h2, h3, h4⟩ hl hX => ⟨h1, h2.of_block (Below.heap_setCell A ⟨b, i, none⟩ u E (by show E ≠ b; rintro rfl; exact hX (by rw [h1]; simp))), h3.set (.inl (by omega)) i u, (Below.heap_setCell A ⟨b, i, none⟩ u F (by show F ≠ b; omega)).trans h4⟩
theorem at_putR {A : World} {p : Nat} {cs : Array Value} {T : TypeId} (h : At A p cs T) {l : Nat} {o' : Obj} (ho : ∃ o : Obj, A.heap[l]? = some o ∧ o.isCells = false) : At (A.putObj l o') p cs T := by
  refine h.of_block (World.putObj_heap_other ?_)
  rintro rfl
  obtain ⟨o, h1, h2⟩ := ho
  unfold At at h
  rw [h] at h1
  cases h1
  cases h2
theorem holds_noY (B : Nat) : HoldsX B (fun _ _ => False) := ⟨fun _ _ _ h _ => h, fun _ _ _ _ h _ _ => h⟩
theorem drop_step {L : List (Nat × Nat)} {k j : Nat} (hk : k < L.length) (hj : L.length - 1 - k = j) : L.drop (L.length - (k + 1)) = L.getD j (0, 0) :: L.drop (L.length - k) := by
  have e1 : L.length - (k + 1) = j := by omega
  have e2 : L.length - k = j + 1 := by omega
  have hjl : j < L.length := by omega
  rw [e1, e2, List.drop_eq_getElem_cons hjl]
  simp [List.getD_eq_getElem?_getD, hjl]
/-- what restore leaves -/
def Restored (w : World) (F E n : Nat) (lv : Value) (p : Nat → Nat) (L : List (Nat × Nat)) (e : Ending) (w' : World) : Prop :=
  (∃ v, e = .returned v) ∧ Elm w' E n (undo L p) ∧ At w' F #[.slice (some ⟨E, 0, none⟩) n n, lv, .slice none 0 0] 155 ∧ Frm w.heap.size F E w w'
set_option maxHeartbeats 4000000 in
theorem impl_restore (w : World) (base F E n : Nat) (lv cv : Value) (p : Nat → Nat) (L : List (Nat × Nat)) (u : FrameMode) (hs : Fst w base F E n lv cv p L) (hn : n ≤ 256) (hL : L.length ≤ 1000000) (hin : ∀ c ∈ L, c.1 < n) :
    CallsD Tryd.prog 132 #[.pointer (some ⟨F, 0, none⟩)] u w (fun e u' w' => u' = u ∧ Restored w F E n lv p L e w') := by
  have HS := Lib.hid hs
  have HIN := Lib.hid hin
  obtain ⟨A, cap, rfl⟩ := owns_slice hs.chg
  have hG : ∃ G, G < w.heap.size ∧ G ≠ E ∧ (0 < L.length → A = some ⟨G, 0, none⟩ ∧ ChA w G E L) := by
    by_cases h0 : 0 < L.length
    · obtain ⟨G, c, e1, e2, e3⟩ := owns_chA hs.chg h0
      injection e1 with e1 e4 e5
      exact ⟨G, e3.lt, by have := hs.far2; omega, fun _ => ⟨e1, e3⟩⟩
    · exact ⟨F, hs.box.lt, hs.ne, fun h => absurd h h0⟩
  obtain ⟨G, gz, gE, hG⟩ := hG
  have HG := Lib.hid hG
  have b2 := hs.box.cellv (i := 2) rfl
  have fz := hs.box.lt
  have ez := hs.elm.lt
  have hEF := hs.ne
  clear hs hin hG
  refine callsD_of_wp_mark (n := 4) Tryd.func132 rfl ?_
  simp only [Tryd.ntmps132, List.size_toArray, List.length_cons, List.length_nil, Nat.reduceAdd, Nat.reduceSub, Array.replicate_succ, Array.replicate_zero, List.push_toArray, List.append_toArray, List.nil_append, List.cons_append]
  gi_wp2_with fail
  refine ⟨trivial, (callsIn_wide.2 (impl_backward w A L.length cap)).mono ?_⟩
  rintro e w1 ⟨rfl, rfl⟩
  clear b2
  have hb1 := (Below.refl w.heap.size w).alloc (Nat.le_refl _) (.cells #[.slice A L.length cap] 153)
  have HP := Lib.hid (At.new w #[.slice A L.length cap] 153)
  have HB := Lib.hid hb1
  have HG1 := Lib.hid (fun h : 0 < L.length => (show A = some ⟨G, 0, none⟩ ∧ ChA (w.alloc (.cells #[.slice A L.length cap] 153)) G E L from ⟨(HG.out h).1, (HG.out h).2.of_block (hb1.block G gz)⟩))
  have hz1 : (w.alloc (.cells #[.slice A L.length cap] 153)).heap.size = w.heap.size + 1 := by simp
  clear hb1 HG
  obtain ⟨pb, hpb⟩ : ∃ pb, w.heap.size = pb := ⟨_, rfl⟩
  have HPB := Lib.hid hpb
  rw [hpb] at HP hz1 fz ez gz ⊢
  clear hpb
  gi_wp2
  generalize hw1 : w.alloc (.cells #[.slice A L.length cap] 153) = w1 at *
  clear hw1
  have hit : IterY Fence.wide 3 Tryd.prog 197 #[.pointer (some ⟨pb, 0, none⟩)] (fun k => #[.int .i64 ((L.length : Int) - 1 - k), chE E L (L.length - 1 - k)]) L.length 0 [pb, G] w1 := bwd_iter 3 (by omega) w1 E pb G A cap L HP.out HG1.out (by omega)
  refine wpIn_rangeY rfl (by omega) (gf := 197) (lb := #[.pointer (some ⟨pb, 0, none⟩)]) rfl trivial (enters_of Tryd.func197 (by kernel_rfl) rfl) hit (Nat.zero_le _) (by simp; omega) (Below.refl _ _) (fun _ => rfl)
    (RsI w F E n p L) (fun _ _ _ => False) (holds_rsI (by rw [HPB.out]; exact fz) (by have := HPB.out; omega)) (fun _ => holds_noY _) [E] (by simp; omega)
    ⟨rfl, ?start, ?frm0, ?box0⟩
    (fun k a' X => ∃ p3, a' = { tmps := #[.pointer (some ⟨F, 0, none⟩), undef, undef, .pointer (some ⟨p3, 0, none⟩), .pointer (some ⟨F, 0, none⟩), .pointer (some ⟨F, 0, none⟩), .pointer (some ⟨F, 2, none⟩), .slice A L.length cap, .func (.func 197) #[] #[.pointer (some ⟨pb, 0, none⟩)], .int .i64 ((L.length : Int) - 1 - k),
        .agg #[.pointer (some ⟨E, (L.getD (L.length - 1 - k) (0, 0)).1 * 2, none⟩), .pointer (some ⟨E, (L.getD (L.length - 1 - k) (0, 0)).2 * 2, none⟩)], undef, undef, undef, undef, undef, undef, undef, undef, undef], defers := [] } ∧ At X p3 #[.pointer (some ⟨E, (L.getD (L.length - 1 - k) (0, 0)).1 * 2, none⟩), .pointer (some ⟨E, (L.getD (L.length - 1 - k) (0, 0)).2 * 2, none⟩)] 220)
    (fun k a' X l o' h ho => by obtain ⟨p3, e, ha⟩ := h; exact ⟨p3, e, at_putR ha ho⟩) ?assign ?body ?done ?stop
  case start =>
    have h := HS.out.elm.of_block (HB.out.block E (by rw [HPB.out]; exact ez))
    simpa [undo] using h
  case frm0 =>
    exact (Frm.refl w.heap.size F E w).bel HB.out (Nat.le_refl _)
  case box0 => exact HB.out.block F (by rw [HPB.out]; exact fz)
  case assign =>
    intro l j X Aw K hj hX hi hK
    clear hit
    dsimp only [chE]
    obtain ⟨⟨x, y⟩, hq⟩ : ∃ q, L.getD (L.length - 1 - j) (0, 0) = q := ⟨_, rfl⟩
    rw [hq] at hK ⊢
    clear hq
    gi_wp2
    exact hK _ _ ((Below.refl _ _).alloc (Nat.le_refl _) _) ⟨_, rfl, At.new _ _ _⟩
  case body =>
    rintro l k X a' Aw hk hX hXb ⟨rfl, i2, i3, i4⟩ ⟨p3, rfl, h3⟩
    clear hit
    have HI2 := Lib.hid i2
    have HI3 := Lib.hid i3
    have HI4 := Lib.hid i4
    have hjl : L.length - 1 - k < L.length := by omega
    have hmem : L.getD (L.length - 1 - k) (0, 0) ∈ L := by simp [List.getD_eq_getElem?_getD, hjl]
    have hstep := drop_step hk (j := L.length - 1 - k) rfl
    obtain ⟨⟨x, y⟩, hq⟩ : ∃ q, L.getD (L.length - 1 - k) (0, 0) = q := ⟨_, rfl⟩
    rw [hq] at h3 hmem hstep ⊢
    have hx : x < n := HIN.out _ hmem
    have HST := Lib.hid hstep
    have H3 := Lib.hid h3
    obtain ⟨-, e1, -, e2⟩ := i2.at_ hx
    have q0 := h3.cellv (i := 0) rfl
    have q1 := h3.cellv (i := 1) rfl
    have l3 := h3.lt
    have lE := i2.lt
    clear hq hmem hstep h3 i2 i3 i4
    gi_wp2
    refine ⟨[E], ⟨rfl, ?_, HI3.out.set (.inr (.inl rfl)) _ _, (Below.heap_setCell Aw ⟨E, x * 2 + 1, none⟩ _ F hEF).trans HI4.out⟩, Ext.set _ _ _ (by simp), fun b hb => ⟨.inl hb, by simp at hb; subst hb; simpa [World.setCell] using lE⟩⟩
    rw [HST.out]
    exact HI2.out.put hx y
  case done =>
    rintro D X W hD hXb ⟨rfl, i2, i3, i4⟩ hK
    clear hit
    have HI2 := Lib.hid i2
    have HI3 := Lib.hid i3
    have HKD := Lib.hid hK
    have HF := Lib.hid (HS.out.box.of_block i4)
    have c2 := HF.out.cellv (i := 2) rfl
    have f2 := HF.out.frozen 2
    have lF := HF.out.lt
    clear i2 i3 i4 hK
    gi_wp2
    have hFD : F ≠ D := by omega
    have hED : E ≠ D := by omega
    have HKX := Lib.hid (show (W.setCell ⟨F, 2, none⟩ (.slice none 0 0)).heap[D]? = some (.deferred (some [])) from by
      rw [Below.heap_setCell _ _ _ _ (by simpa using fun e => hFD e.symm)]; exact HKD.out)
    refine ⟨D, #[], _, rfl, run_takeDeferred HKX.out, _, results_none rfl _ _ _, ⟨_, rfl⟩, ?_, ?_, ?_⟩
    · have h := (HI2.out.of_block (Below.heap_setCell W ⟨F, 2, none⟩ (.slice none 0 0) E (fun e => hEF e.symm))).putObj (fun e => hED e.symm) (.deferred none)
      simpa using h
    · exact at_putR (HF.out.set 2 (.slice none 0 0)) ⟨_, HKX.out, rfl⟩
    · exact (HI3.out.set (.inr (.inr rfl)) _ _).put (by have := HPB.out; omega) _
  case stop => rintro D t k X hD hk h _; exact h.elim
end Go.Proofs.YtjgclemfehfgiaaDoor.Base
namespace Go.Proofs.YtjgclemfehfgiaaDoor.Base
open Go Go.RowKit
set_option linter.unusedVariables false
set_option linter.unusedSimpArgs false

theorem Fst.drew {w : World} {base F E n : Nat} {lv cv : Value} {p : Nat → Nat} {L : List (Nat × Nat)} (h : Fst w base F E n lv cv p L) : Fst w.drew base F E n lv cv p L :=
  ⟨h.box.drew, h.elm.of_block rfl, h.chg.drew, h.far1, h.far2, h.ne, h.low⟩
theorem Fst.bel {w w' : World} {base F E n : Nat} {lv cv : Value} {p : Nat → Nat} {L : List (Nat × Nat)} (h : Fst w base F E n lv cv p L) (hb : Below w.heap.size w w') : Fst w' base F E n lv cv p L :=
  ⟨h.box.below hb h.box.lt, h.elm.of_block (hb.block E h.elm.lt), owns_belowS h.chg hb, h.far1, h.far2, h.ne, Nat.le_trans h.low hb.size⟩
/-- an element that is stored in another block -/
theorem grown_set (w : World) (b i : Nat) (v : Value) : w.grownBy (w.setCell ⟨b, i, none⟩ v) (some b) :=
  ⟨rfl, rfl, rfl, by simp [World.setCell], fun q hq hq2 => Below.heap_setCell w ⟨b, i, none⟩ v q (by rintro rfl; exact hq2 rfl)⟩
theorem own_ne {v : Value} {b : Nat} (h : ∀ q, v.ownBlock = some q → q ≠ b) : v.ownBlock = none ∨ v.ownBlock ≠ some b := .inr (fun e => h b e rfl)
theorem region_out {P : Program} {c : Code} {Q : Exit → Act → World → Prop} {a : Act} {w : World} (h : c.wp P (Exit.then (fun a w => Q .normal a w) (fun _ _ _ => False)) a w) : c.wp P Q a w :=
  wp_mono h (fun e a w hq => by cases e with
    | normal => exact hq
    | _ => exact hq.elim)
theorem own_apart {cv lv : Value} {base : Nat} (h : ∀ q, cv.ownBlock = some q → base ≤ q) (k : ∀ q, lv.ownBlock = some q → q < base) : cv.ownBlock = none ∨ cv.ownBlock ≠ lv.ownBlock := by
  cases e : cv.ownBlock with
  | none => exact .inl rfl
  | some q =>
    refine .inr (fun e2 => ?_)
    have h1 := h q e
    have h2 := k q e2.symm
    omega
theorem cells_snoc (m : Nat) (g : Nat → Int) (y : Int) : cellsOfF m g ++ [.int .i64 y] = cellsOfF (m + 1) (putF g m y) := by
  unfold cellsOfF putF
  rw [List.range_succ, List.map_append]
  simp only [List.map_cons, List.map_nil, if_pos]
  congr 1
  refine List.map_congr_left fun i hi => ?_
  rw [if_neg (by have := List.mem_range.1 hi; omega)]
/-- the forest ahead of restore -/
structure Jst (w : World) (b0 base F E n : Nat) (p0 : Nat → Nat) (m : Nat) (g : Nat → Int) (lv cv : Value) (p : Nat → Nat) (L : List (Nat × Nat)) (W : World) : Prop where
  fst : Fst W base F E n lv cv p L
  len : L.length ≤ 1000000
  dom : ∀ c ∈ L, c.1 < n
  und : ∀ x, undo L p x = p0 x
  log : W.ownsRow b0 2 1 lv m (cellsOfF m g)
  far : ∀ q, lv.ownBlock = some q → q ≠ F ∧ q ≠ E
  bel : Below b0 w W
/-- the forest behind restore -/
def Jst2 (w : World) (b0 F E n : Nat) (p0 : Nat → Nat) (m : Nat) (g : Nat → Int) (e : Ending) (W : World) : Prop :=
  ∃ lv v, e = .returned v ∧ Elm W E n p0 ∧ At W F #[.slice (some ⟨E, 0, none⟩) n n, lv, .slice none 0 0] 155 ∧ W.ownsRow b0 2 1 lv m (cellsOfF m g) ∧ (∀ q, lv.ownBlock = some q → q ≠ F ∧ q ≠ E) ∧ Below b0 w W
theorem Elm.congr {w : World} {E n : Nat} {p q : Nat → Nat} (h : Elm w E n p) (e : ∀ x, p x = q x) : Elm w E n q := by
  obtain ⟨cs, h1, h2⟩ := h
  exact ⟨cs, h1, fun k hk => by rw [← e]; exact h2 k hk⟩
theorem Frm.keepOwn {base F E : Nat} {w A : World} (h : Frm base F E w A) {B : Nat} {lv : Value} {m : Nat} {t : TypeId} {xs : List Value} (ho : w.ownsRow B t 1 lv m xs) (hne : ∀ q, lv.ownBlock = some q → q < base ∧ q ≠ F ∧ q ≠ E) : A.ownsRow B t 1 lv m xs := by
  refine ⟨ho.1, ?_⟩
  rcases ho.2 with hn | ⟨g, cap, cur, rfl, h1, h2, rest⟩
  · exact .inl hn
  · have hq := hne g rfl
    have hl := (Array.getElem?_eq_some_iff.1 h2).1
    exact .inr ⟨g, cap, cur, rfl, h1, (h.block g hq.1 hq.2.1 hq.2.2).trans h2, rest⟩
set_option maxHeartbeats 4000000 in
set_option maxRecDepth 100000 in
theorem impl_join1 (w : World) (b0 base F E P Q n m : Nat) (lv : Value) (rk p : Nat → Nat) (g : Nat → Int) (a b ra rb : Nat) (hs : Fst w base F E n lv (.slice none 0 0) p [])
    (hlog : w.ownsRow b0 2 1 lv m (cellsOfF m g)) (hlv : ∀ q, lv.ownBlock = some q → q < base ∧ q ≠ F ∧ q ≠ E) (hbF : b0 ≤ F) (hbE : b0 ≤ E)
    (hP : At w P #[.slice (some ⟨Q, 0, none⟩) 2 2] 22) (hQ : At w Q #[.int .i64 (a : Int), .int .i64 (b : Int)] 2) (hQb : Q < base) (hQF : Q ≠ F) (hQE : Q ≠ E)
    (hf : FR n p rk) (ha : a < n) (hb : b < n) (hra : Rt p a ra) (hrb : Rt p b rb) (hn : n ≤ 256) (hm : m ≤ 1000000) (p0 : Nat → Nat) (m0 : Nat) (g0 : Nat → Int)
    (hcase : (ra = rb ∧ p0 = p ∧ m0 = m ∧ g0 = g) ∨ (ra ≠ rb ∧ p0 = hvP p (max ra rb) (min ra rb) ∧ m0 = m + 1 ∧ g0 = putF g m (max ra rb : Nat))) (hrk : ∀ x, x < n → rk x ≤ 256) :
    Calls Tryd.prog 83 #[.pointer (some ⟨F, 0, none⟩), .slice (some ⟨P, 0, none⟩) 1 1] w (Jst2 w b0 F E n p0 m0 g0) := by
  have HS := Lib.hid hs
  have HF := Lib.hid hf
  have HRA := Lib.hid hra
  have HRB := Lib.hid hrb
  have HRK := Lib.hid hrk
  have HLOG := Lib.hid hlog
  have HLV := Lib.hid hlv
  have HQ := Lib.hid hQ
  have HCS := Lib.hid hcase
  have hral := hra.lt hf ha
  have hrbl := hrb.lt hf hb
  have P0 := hP.cellv (i := 0) rfl
  have q0 := hQ.cellv (i := 0) rfl
  have q1 := hQ.cellv (i := 1) rfl
  have Pz := hP.lt
  have Qz := hQ.lt
  clear hs hlog hf hra hrb hrk hlv hQ hP hcase
  go_enter_defers Tryd.func83, Tryd.ntmps83
  go_wp2
  go_loopw [11] (fun iv wr => (iv = .int .i64 0 ∧ wr = w) ∨ (iv = .int .i64 1 ∧ ∃ lv' cv' p' L', Hid (Jst w b0 base F E n p0 m0 g0 lv' cv' p' L' wr))) (fun iv _ => 1 - (intOf iv).toNat)
  case atStart => exact .inl ⟨rfl, rfl⟩
  case round =>
    rcases hrel with ⟨rfl, hw⟩ | ⟨rfl, lv', cv', p', L', HJ⟩
    · subst hw
      have HSd := Lib.hid HS.out.drew
      go_wp2_with fail
      go_region_held3 (fun w' => w'.cell? ⟨Q, 0, none⟩ = some (.int .i64 (a : Int)) ∧ w'.cell? ⟨Q, 1, none⟩ = some (.int .i64 (b : Int)))
        (first | exact ⟨q0, q1⟩ | exact ⟨r0, r1⟩ | exact ⟨t0, t1⟩ | go_keep | assumption)
        (first
          | (go_at_call 133; (with_reducible refine (impl_standing _ base F E n lv (.slice none 0 0) rk p [] a ra ?_ HF.out ha HRA.out hn (by simp) HRK.out).mono ?_); exact HSd.out; rintro e wa ⟨cva, pa, La, rfl, fa, qa, ua, la, da, sa, wwa⟩; have ea := wwa.block Q hQb hQF hQE; have r0 : wa.cell? ⟨Q, 0, none⟩ = some (.int .i64 (a : Int)) := (World.cell?_of_block (a := ⟨Q, 0, none⟩) ea).trans q0; have r1 : wa.cell? ⟨Q, 1, none⟩ = some (.int .i64 (b : Int)) := (World.cell?_of_block (a := ⟨Q, 1, none⟩) ea).trans q1; have FA := Lib.hid fa; have QA := Lib.hid qa; have UA := Lib.hid ua; have DA := Lib.hid da; have SA := Lib.hid sa; have WA := Lib.hid wwa; clear fa qa ua da sa wwa ea)
          | (go_at_call 133; (with_reducible refine (impl_standing _ base F E n lv cva rk pa La b rb ?_ FA.out hb ((QA.out b rb hb).2 HRB.out) hn (by simp at la; omega) HRK.out).mono ?_); (first | exact SA.out | exact SA.out.drew); rintro e wb ⟨cvb, pb, Lb, rfl, fb, qb, ub, lb, db, sb, wwb⟩; have eb := wwb.block Q hQb hQF hQE; have t0 : wb.cell? ⟨Q, 0, none⟩ = some (.int .i64 (a : Int)) := (World.cell?_of_block (a := ⟨Q, 0, none⟩) eb).trans r0; have t1 : wb.cell? ⟨Q, 1, none⟩ = some (.int .i64 (b : Int)) := (World.cell?_of_block (a := ⟨Q, 1, none⟩) eb).trans r1; have FB := Lib.hid fb; have QB := Lib.hid qb; have UB := Lib.hid ub; have DB := Lib.hid db; have SB := Lib.hid sb; have WB := Lib.hid wwb; clear fb qb ub db sb wwb eb))
      rename_i hSx
      clear hSx r0 r1 t0 t1 q0 q1 HSd SA
      obtain ⟨x1, x2, x3, x4⟩ := SB.out.elm.at_ hral
      obtain ⟨y1, y2, y3, y4⟩ := SB.out.elm.at_ hrbl
      have ez := SB.out.elm.lt
      have bz := SB.out.box.lt
      have HBW := Lib.hid ((((Below.refl b0 wr).drew).trans (WA.out.below (B := b0) hbF hbE (by have := HS.out.far1; omega))).trans (WB.out.below (B := b0) hbF hbE (by have := HS.out.far1; omega)))
      have HLB := Lib.hid (WB.out.keepOwn (WA.out.keepOwn HLOG.out HLV.out) HLV.out)
      have HU := Lib.hid (fun x => (show undo Lb pb x = p x by rw [UB.out x, UA.out x]; rfl))
      have HD := Lib.hid (fun (c : Nat × Nat) (hc : c ∈ Lb) => (show c.1 < n from by
        rcases DB.out c hc with h | h
        · rcases DA.out c h with h | h
          · cases h
          · exact h.1
        · exact h.1))
      have HDR := Lib.hid (fun (c : Nat × Nat) (hc : c ∈ Lb) => (show p c.1 ≠ c.1 from by
        rcases DB.out c hc with h | h
        · rcases DA.out c h with h | h
          · cases h
          · exact h.2
        · intro e
          have h1 := (QA.out c.1 c.1 h.1).2 (.top e)
          exact h.2 h1.root))
      have hlb : Lb.length ≤ 1000000 := by simp at la; omega
      clear DA DB UA UB HLOG
      rcases HCS.out with ⟨hab, e1, e2, e3⟩ | ⟨hab, e1, e2, e3⟩
      · subst hab
        subst e1 e2 e3
        clear P0 Pz Qz
        go_wp2_with fail
        go_quiet (fail)
        go_wp2
        go_roundw
        case rel =>
          refine .inr ⟨rfl, lv, cvb, pb, Lb, Lib.hid ⟨SB.out.bel (below_drewN (Below.refl wb.heap.size wb) nq), hlb, HD.out, HU.out, owns_belowS HLB.out (below_drewN (Below.refl wb.heap.size wb) nq), fun q hq => (HLV.out q hq).2, below_drewN HBW.out nq⟩⟩
        case measure => simp [intOf]
      · have hmx : max ra rb = rb ∧ min ra rb = ra ∨ max ra rb = ra ∧ min ra rb = rb := by omega
        have n1 : ((ra : Int) == (rb : Int)) = false := beq_eq_false_iff_ne.2 (by omega)
        by_cases hlt : ra < rb
        · have n2 : decide ((rb : Int) < (ra : Int)) = false := by simp; omega
          clear P0 Pz Qz
          go_wp2_with fail
          go_quiet (fail)
          have SB1 := Lib.hid (SB.out.bel (below_drewN (Below.refl wb.heap.size wb) nq))
          have HL1 := Lib.hid (owns_belowS HLB.out (below_drewN (Below.refl wb.heap.size wb) nq))
          have HB1 := Lib.hid (below_drewN HBW.out nq)
          clear x1 x2 x3 x4 y1 y2 y3 y4 ez bz SB HLB HBW WA WB
          generalize wb.drewN nq = w5 at *
          obtain ⟨x1, x2, x3, x4⟩ := SB1.out.elm.at_ hral
          obtain ⟨y1, y2, y3, y4⟩ := SB1.out.elm.at_ hrbl
          have ez := SB1.out.elm.lt
          go_wp2_with fail
          go_quiet (fail)
          have SB2 := Lib.hid (SB1.out.bel (below_drewN (Below.refl w5.heap.size w5) nq))
          have HL2 := Lib.hid (owns_belowS HL1.out (below_drewN (Below.refl w5.heap.size w5) nq))
          have HB2 := Lib.hid (below_drewN HB1.out nq)
          clear x1 x2 x3 x4 y1 y2 y3 y4 ez SB1 HL1 HB1
          generalize w5.drewN nq = w6 at *
          obtain ⟨x1, x2, x3, x4⟩ := SB2.out.elm.at_ hral
          obtain ⟨y1, y2, y3, y4⟩ := SB2.out.elm.at_ hrbl
          have ez := SB2.out.elm.lt
          go_wp2_with fail
          have hYl : rb < n := hrbl
          have hFE := SB2.out.ne
          have HEX := Lib.hid (show max ra rb = rb ∧ min ra rb = ra by omega)
          have SB7 := Lib.hid (show Fst (w6.setCell ⟨E, rb * 2 + 1, none⟩ (.pointer (some ⟨E, ra * 2, none⟩))) base F E n lv cvb (hvP pb rb ra) Lb from ⟨SB2.out.box.setOther (fun e => hFE e.symm) _, SB2.out.elm.put hYl ra, ownsRow_setCell_below SB2.out.chg (by exact SB2.out.far2) _, SB2.out.far1, SB2.out.far2, hFE, by simpa [World.setCell] using SB2.out.low⟩)
          have HL7 := Lib.hid (HL2.out.kept (grown_set w6 E (rb * 2 + 1) (.pointer (some ⟨E, ra * 2, none⟩))) (own_ne (fun q hq => (HLV.out q hq).2.2)))
          have HB7 := Lib.hid (HB2.out.setCell (p := ⟨E, rb * 2 + 1, none⟩) (by exact hbE) (.pointer (some ⟨E, ra * 2, none⟩)))
          clear x1 x2 x3 x4 y1 y2 y3 y4 ez SB2 HL2 HB2 n1 n2
          generalize w6.setCell ⟨E, rb * 2 + 1, none⟩ (.pointer (some ⟨E, ra * 2, none⟩)) = w7 at *
          obtain ⟨y1, -, y3, -⟩ := SB7.out.elm.at_ hYl
          have ez := SB7.out.elm.lt
          have b1 := SB7.out.box.cellv (i := 1) rfl
          have g1 := SB7.out.box.frozen 1
          have bz := SB7.out.box.lt
          have hbz : b0 ≤ w7.heap.size := by omega
          obtain ⟨i0, hi, hz0, hz1, hz2⟩ := info_parts infoI64
          refine region_out ?_
          go_region_law (refine step_append_lies (w7.drew.alloc (.cells #[.int .i64 (rb : Int)] 2)) (by rfl) (.tmp 53) (.tmp 58) 22 (by rfl) b0 2 i0 (.int .i64 0) 1 8 Tryd.underlying22 hi hz0 hz1 hz2 rfl (by decide) lv m (cellsOfF m g) (by rfl) (HL7.out.drew.alloc _) ⟨w7.heap.size, 0, none⟩ 1 1 [.int .i64 (rb : Int)] (by rfl) (by rfl) (World.news_of_block (cs := #[.int .i64 (rb : Int)]) (t := 2) (fr := (0, 0)) (heap_alloc_new w7.drew _)) (fun u hu => by simp at hu; subst hu; rfl) (by omega) (by unfold maxLen; omega) (by omega) (by simp; omega) (w7.heap.size + 1) (by simp) ?_; intro gg cap wz hown1 hgrow hat hlt1; have eF : wz.heap[F]? = w7.heap[F]? := (hgrow.block F (by simp; omega) (fun e => (HLV.out F e.symm).2.1 rfl)).trans (Below.heap_alloc _ _ _ (by exact bz)); have eE : wz.heap[E]? = w7.heap[E]? := (hgrow.block E (by simp; omega) (fun e => (HLV.out E e.symm).2.2 rfl)).trans (Below.heap_alloc _ _ _ (by exact ez)); have q2 := (World.cell?_of_block (a := ⟨F, 1, none⟩) eF).trans b1; have f2 := (World.frozen?_of_block (a := ⟨F, 1, none⟩) eF).trans g1; have zF : F < wz.heap.size := Nat.lt_of_lt_of_le (by simp; omega) hgrow.size; have HOW := Lib.hid hown1; have HGR := Lib.hid hgrow; have HAT := Lib.hid hat; have HEF := Lib.hid eF; have HEE := Lib.hid eE; clear hown1 hgrow hat eF eE)
          all_goals
            go_wp2
            clear q2 f2 b1 g1 y1 y3
            go_roundw
            case rel =>
              subst e1 e2 e3
              rw [HEX.out.1, HEX.out.2]
              have hgF : gg ≠ F := by
                rcases HAT.out with h | h
                · exact (HLV.out gg h).2.1
                · omega
              have hgE : gg ≠ E := by
                rcases HAT.out with h | h
                · exact (HLV.out gg h).2.2
                · omega
              refine .inr ⟨rfl, .slice (some ⟨gg, 0, none⟩) (m + 1) cap, cvb, hvP pb rb ra, Lb, Lib.hid ⟨⟨?_, ?_, ?_, SB7.out.far1, SB7.out.far2, SB7.out.ne, ?_⟩, hlb, HD.out, fun t => ?_, ?_, ?_, ?_⟩⟩
              · exact (SB7.out.box.of_block HEF.out).set 1 (.slice (some ⟨gg, 0, none⟩) (m + 1) cap)
              · exact (SB7.out.elm.of_block HEE.out).of_block (Below.heap_setCell wz ⟨F, 1, none⟩ _ E (fun e => hFE e.symm))
              · exact ownsRow_setCell_below (((SB7.out.chg.drew.alloc _).kept HGR.out (own_apart (fun q hq => (SB7.out.chg.lt q hq).1) (fun q hq => (HLV.out q hq).1)))) (by exact SB7.out.far1) _
              · have h1 := HGR.out.size
                have h2 := SB7.out.low
                have h3 : (w7.drew.alloc (.cells #[.int .i64 (rb : Int)] 2)).heap.size = w7.heap.size + 1 := by simp
                have h4 : (wz.setCell ⟨F, 1, none⟩ (.slice (some ⟨gg, 0, none⟩) (m + 1) cap)).heap.size = wz.heap.size := by simp [World.setCell]
                rw [h4]
                omega
              · rw [undo_other Lb pb t (fun c hc e => HDR.out c hc (by rw [e]; exact HRB.out.root))]
                unfold hvP
                rw [HU.out t]
              · have h1 := HOW.out
                rw [cells_snoc] at h1
                exact h1.kept (grown_set wz F 1 _) (own_ne (fun q hq => by have e5 : gg = q := (by simpa [Value.ownBlock] using hq); omega))
              · intro q hq
                injection hq with hq
                subst hq
                exact ⟨hgF, hgE⟩
              · exact (((HB7.out.drew).alloc hbz _).grown HGR.out (by simp; omega) (fun q hq => (HL7.out.lt q hq).1)).setCell (by exact hbF) _
            case measure => simp [intOf]
        · have n2 : decide ((rb : Int) < (ra : Int)) = true := by simp; omega
          clear P0 Pz Qz
          go_wp2_with fail
          go_quiet (fail)
          have SB1 := Lib.hid (SB.out.bel (below_drewN (Below.refl wb.heap.size wb) nq))
          have HL1 := Lib.hid (owns_belowS HLB.out (below_drewN (Below.refl wb.heap.size wb) nq))
          have HB1 := Lib.hid (below_drewN HBW.out nq)
          clear x1 x2 x3 x4 y1 y2 y3 y4 ez bz SB HLB HBW WA WB
          generalize wb.drewN nq = w5 at *
          obtain ⟨x1, x2, x3, x4⟩ := SB1.out.elm.at_ hral
          obtain ⟨y1, y2, y3, y4⟩ := SB1.out.elm.at_ hrbl
          have ez := SB1.out.elm.lt
          go_wp2_with fail
          go_quiet (fail)
          have SB2 := Lib.hid (SB1.out.bel (below_drewN (Below.refl w5.heap.size w5) nq))
          have HL2 := Lib.hid (owns_belowS HL1.out (below_drewN (Below.refl w5.heap.size w5) nq))
          have HB2 := Lib.hid (below_drewN HB1.out nq)
          clear x1 x2 x3 x4 y1 y2 y3 y4 ez SB1 HL1 HB1
          generalize w5.drewN nq = w6 at *
          obtain ⟨x1, x2, x3, x4⟩ := SB2.out.elm.at_ hral
          obtain ⟨y1, y2, y3, y4⟩ := SB2.out.elm.at_ hrbl
          have ez := SB2.out.elm.lt
          go_wp2_with fail
          have hYl : ra < n := hral
          have hFE := SB2.out.ne
          have HEX := Lib.hid (show max ra rb = ra ∧ min ra rb = rb by omega)
          have SB7 := Lib.hid (show Fst (w6.setCell ⟨E, ra * 2 + 1, none⟩ (.pointer (some ⟨E, rb * 2, none⟩))) base F E n lv cvb (hvP pb ra rb) Lb from ⟨SB2.out.box.setOther (fun e => hFE e.symm) _, SB2.out.elm.put hYl rb, ownsRow_setCell_below SB2.out.chg (by exact SB2.out.far2) _, SB2.out.far1, SB2.out.far2, hFE, by simpa [World.setCell] using SB2.out.low⟩)
          have HL7 := Lib.hid (HL2.out.kept (grown_set w6 E (ra * 2 + 1) (.pointer (some ⟨E, rb * 2, none⟩))) (own_ne (fun q hq => (HLV.out q hq).2.2)))
          have HB7 := Lib.hid (HB2.out.setCell (p := ⟨E, ra * 2 + 1, none⟩) (by exact hbE) (.pointer (some ⟨E, rb * 2, none⟩)))
          clear x1 x2 x3 x4 y1 y2 y3 y4 ez SB2 HL2 HB2 n1 n2
          generalize w6.setCell ⟨E, ra * 2 + 1, none⟩ (.pointer (some ⟨E, rb * 2, none⟩)) = w7 at *
          obtain ⟨y1, -, y3, -⟩ := SB7.out.elm.at_ hYl
          have ez := SB7.out.elm.lt
          have b1 := SB7.out.box.cellv (i := 1) rfl
          have g1 := SB7.out.box.frozen 1
          have bz := SB7.out.box.lt
          have hbz : b0 ≤ w7.heap.size := by omega
          obtain ⟨i0, hi, hz0, hz1, hz2⟩ := info_parts infoI64
          refine region_out ?_
          go_region_law (refine step_append_lies (w7.drew.alloc (.cells #[.int .i64 (ra : Int)] 2)) (by rfl) (.tmp 53) (.tmp 58) 22 (by rfl) b0 2 i0 (.int .i64 0) 1 8 Tryd.underlying22 hi hz0 hz1 hz2 rfl (by decide) lv m (cellsOfF m g) (by rfl) (HL7.out.drew.alloc _) ⟨w7.heap.size, 0, none⟩ 1 1 [.int .i64 (ra : Int)] (by rfl) (by rfl) (World.news_of_block (cs := #[.int .i64 (ra : Int)]) (t := 2) (fr := (0, 0)) (heap_alloc_new w7.drew _)) (fun u hu => by simp at hu; subst hu; rfl) (by omega) (by unfold maxLen; omega) (by omega) (by simp; omega) (w7.heap.size + 1) (by simp) ?_; intro gg cap wz hown1 hgrow hat hlt1; have eF : wz.heap[F]? = w7.heap[F]? := (hgrow.block F (by simp; omega) (fun e => (HLV.out F e.symm).2.1 rfl)).trans (Below.heap_alloc _ _ _ (by exact bz)); have eE : wz.heap[E]? = w7.heap[E]? := (hgrow.block E (by simp; omega) (fun e => (HLV.out E e.symm).2.2 rfl)).trans (Below.heap_alloc _ _ _ (by exact ez)); have q2 := (World.cell?_of_block (a := ⟨F, 1, none⟩) eF).trans b1; have f2 := (World.frozen?_of_block (a := ⟨F, 1, none⟩) eF).trans g1; have zF : F < wz.heap.size := Nat.lt_of_lt_of_le (by simp; omega) hgrow.size; have HOW := Lib.hid hown1; have HGR := Lib.hid hgrow; have HAT := Lib.hid hat; have HEF := Lib.hid eF; have HEE := Lib.hid eE; clear hown1 hgrow hat eF eE)
          all_goals
            go_wp2
            clear q2 f2 b1 g1 y1 y3
            go_roundw
            case rel =>
              subst e1 e2 e3
              rw [HEX.out.1, HEX.out.2]
              have hgF : gg ≠ F := by
                rcases HAT.out with h | h
                · exact (HLV.out gg h).2.1
                · omega
              have hgE : gg ≠ E := by
                rcases HAT.out with h | h
                · exact (HLV.out gg h).2.2
                · omega
              refine .inr ⟨rfl, .slice (some ⟨gg, 0, none⟩) (m + 1) cap, cvb, hvP pb ra rb, Lb, Lib.hid ⟨⟨?_, ?_, ?_, SB7.out.far1, SB7.out.far2, SB7.out.ne, ?_⟩, hlb, HD.out, fun t => ?_, ?_, ?_, ?_⟩⟩
              · exact (SB7.out.box.of_block HEF.out).set 1 (.slice (some ⟨gg, 0, none⟩) (m + 1) cap)
              · exact (SB7.out.elm.of_block HEE.out).of_block (Below.heap_setCell wz ⟨F, 1, none⟩ _ E (fun e => hFE e.symm))
              · exact ownsRow_setCell_below (((SB7.out.chg.drew.alloc _).kept HGR.out (own_apart (fun q hq => (SB7.out.chg.lt q hq).1) (fun q hq => (HLV.out q hq).1)))) (by exact SB7.out.far1) _
              · have h1 := HGR.out.size
                have h2 := SB7.out.low
                have h3 : (w7.drew.alloc (.cells #[.int .i64 (ra : Int)] 2)).heap.size = w7.heap.size + 1 := by simp
                have h4 : (wz.setCell ⟨F, 1, none⟩ (.slice (some ⟨gg, 0, none⟩) (m + 1) cap)).heap.size = wz.heap.size := by simp [World.setCell]
                rw [h4]
                omega
              · rw [undo_other Lb pb t (fun c hc e => HDR.out c hc (by rw [e]; exact HRA.out.root))]
                unfold hvP
                rw [HU.out t]
              · have h1 := HOW.out
                rw [cells_snoc] at h1
                exact h1.kept (grown_set wz F 1 _) (own_ne (fun q hq => by have e5 : gg = q := (by simpa [Value.ownBlock] using hq); omega))
              · intro q hq
                injection hq with hq
                subst hq
                exact ⟨hgF, hgE⟩
              · exact (((HB7.out.drew).alloc hbz _).grown HGR.out (by simp; omega) (fun q hq => (HL7.out.lt q hq).1)).setCell (by exact hbF) _
            case measure => simp [intOf]
    · clear P0 q0 q1 Pz Qz
      go_wp2
      refine leaves_cons (f := 132) (args := #[.pointer (some ⟨F, 0, none⟩)]) (by simp) (by simp [go_sem]) ?_
      refine (impl_restore wr base F E n lv' cv' p' L' .returning HJ.out.fst hn HJ.out.len HJ.out.dom).mono ?_
      rintro e u' w' ⟨rfl, ⟨v, rfl⟩, h1, h2, h3⟩
      refine ⟨_, results_none rfl _ _ _, lv', _, rfl, h1.congr HJ.out.und, h2, h3.keepOwn HJ.out.log (fun q hq => ⟨(HJ.out.log.lt q hq).2, HJ.out.far q hq⟩), HJ.out.far, HJ.out.bel.trans (h3.below hbF hbE (HJ.out.bel.size |> fun h => by have := HJ.out.fst.far1; have := HJ.out.fst.low; omega))⟩
end Go.Proofs.YtjgclemfehfgiaaDoor.Base
