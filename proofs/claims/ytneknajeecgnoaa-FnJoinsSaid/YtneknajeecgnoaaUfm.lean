/-
  Joining groups, as mathematics: who stands for whom behind a list of joined pairs, and how many groups there are.
-/
import Derived.Test.YtneknajeecgnoaaFrm
import Derived.Test.YtneknajeecgnoaaGsm
import Derived.Test.YtneknajeecgnoaaJgs
import Derived.Test.YtneknajeecgnoaaNwj
import Derived.Test.YtneknajeecgnoaaDrw
import Derived.Test.YtneknajeecgnoaaAtt
import Derived.Test.YtneknajeecgnoaaGst
import Derived.Test.YtneknajeecgnoaaSmj
import Derived.Test.YtneknajeecgnoaaUdm
namespace Go.Proofs.Ytneknajeecgnoaa.Base
set_option linter.unusedVariables false
set_option linter.unusedSimpArgs false

/-- x and y have the same element that stands for them -/
def cls (p : Nat → Nat) (x y : Nat) : Prop := ∃ r, Rt p x r ∧ Rt p y r
/-- the number of elements below n that stand for themselves -/
def nRt (n : Nat) (p : Nat → Nat) : Nat := ((List.range n).filter fun z => p z == z).length
section
variable {n : Nat} {p q rk : Nat → Nat}
theorem cls_refl (hf : FR n p rk) {x : Nat} (hx : x < n) : cls p x x := by
  obtain ⟨r, h⟩ := hf.has hx
  exact ⟨r, h, h⟩
theorem cls_symm {x y : Nat} (h : cls p x y) : cls p y x := by
  obtain ⟨r, h1, h2⟩ := h
  exact ⟨r, h2, h1⟩
theorem cls_trans {x y z : Nat} (h : cls p x y) (k : cls p y z) : cls p x z := by
  obtain ⟨r, h1, h2⟩ := h
  obtain ⟨s, h3, h4⟩ := k
  obtain rfl := h2.uniq h3
  exact ⟨r, h1, h4⟩
/-- two elements that stand for groups, joined: the greater one gets the lesser one as its parent -/
theorem FR.join (hf : FR n p rk) {x y : Nat} (hx : p x = x) (hy : p y = y) (hne : x ≠ y) (hxn : x < n) (hyn : y < n) :
    (∃ rk', FR n (hvP p x y) rk') ∧ ∀ z r, z < n → (Rt (hvP p x y) z r ↔ (Rt p z x ∧ r = y) ∨ (¬ Rt p z x ∧ Rt p z r)) := by
  have hpx : hvP p x y x = y := if_pos rfl
  have hpo : ∀ z, z ≠ x → hvP p x y z = p z := fun z h => if_neg h
  have hyy : hvP p x y y = y := by rw [hpo y (fun e => hne e.symm), hy]
  have fwd : ∀ (d z r : Nat), z < n → rk z ≤ d → Rt p z r → Rt (hvP p x y) z (if r = x then y else r) := by
    intro d
    induction d with
    | zero =>
      intro z r hz hd h
      have hz0 : p z = z := by
        rcases hf.dn z hz with h1 | h1
        · exact h1
        · omega
      obtain rfl := (Rt.top hz0).uniq h
      by_cases e : z = x
      · subst e
        rw [if_pos rfl]
        exact .up (by rw [hpx]; exact fun e => hne e.symm) (by rw [hpx]; exact .top hyy)
      · rw [if_neg e]
        exact .top (by rw [hpo z e, hz0])
    | succ d ih =>
      intro z r hz hd h
      by_cases hz0 : p z = z
      · obtain rfl := (Rt.top hz0).uniq h
        by_cases e : z = x
        · subst e
          rw [if_pos rfl]
          exact .up (by rw [hpx]; exact fun e => hne e.symm) (by rw [hpx]; exact .top hyy)
        · rw [if_neg e]
          exact .top (by rw [hpo z e, hz0])
      · have h1 := (hf.dn z hz).resolve_left hz0
        have e : z ≠ x := fun e => hz0 (by rw [e]; exact hx)
        exact .up (by rw [hpo z e]; exact hz0) (by rw [hpo z e]; exact ih (p z) r (hf.lt z hz) (by omega) h.step)
  have both : ∀ z r, z < n → (Rt (hvP p x y) z r ↔ (Rt p z x ∧ r = y) ∨ (¬ Rt p z x ∧ Rt p z r)) := by
    intro z r hz
    obtain ⟨r0, h0⟩ := hf.has hz
    have h1 := fwd (rk z) z r0 hz (Nat.le_refl _) h0
    by_cases e : r0 = x
    · subst e
      rw [if_pos rfl] at h1
      constructor
      · intro h
        exact .inl ⟨h0, h.uniq h1⟩
      · rintro (⟨-, rfl⟩ | ⟨h2, -⟩)
        · exact h1
        · exact absurd h0 h2
    · rw [if_neg e] at h1
      have hnx : ¬ Rt p z x := fun h => e (h0.uniq h)
      constructor
      · intro h
        obtain rfl := h.uniq h1
        exact .inr ⟨hnx, h0⟩
      · rintro (⟨h2, -⟩ | ⟨-, h2⟩)
        · exact absurd h2 hnx
        · obtain rfl := h2.uniq h0
          exact h1
  refine ⟨?_, both⟩
  classical
  refine ⟨fun z => if Rt p z x then rk z + rk y + 1 else rk z, fun z hz => ?_, fun z hz => ?_⟩
  · unfold hvP
    split
    · exact hyn
    · exact hf.lt z hz
  · by_cases e : z = x
    · subst e
      refine .inr ?_
      rw [hpx]
      have h1 : Rt p z z := .top hx
      have h2 : ¬ Rt p y z := fun h => hne ((Rt.top hy).uniq h).symm
      simp only [if_pos h1, if_neg h2]
      omega
    · rw [hpo z e]
      rcases hf.dn z hz with h1 | h1
      · exact .inl h1
      · refine .inr ?_
        have h3 : Rt p (p z) x ↔ Rt p z x := ⟨fun h => .up (by intro e2; rw [e2] at h1; omega) h, fun h => h.step⟩
        by_cases h4 : Rt p z x
        · simp only [if_pos h4, if_pos (h3.2 h4)]
          omega
        · simp only [if_neg h4, if_neg (fun h => h4 (h3.1 h))]
          omega
/-- the groups behind such a joining -/
theorem cls_join (hf : FR n p rk) {x y a b : Nat} (ha : Rt p a x) (hb : Rt p b y) (hne : x ≠ y) (han : a < n) (hbn : b < n) {u v : Nat} (hu : u < n) (hv : v < n) (M m : Nat) (hM : (M = x ∧ m = y) ∨ (M = y ∧ m = x)) :
    cls (hvP p M m) u v ↔ cls p u v ∨ (cls p u a ∧ cls p b v) ∨ (cls p u b ∧ cls p a v) := by
  have hxn := ha.lt hf han
  have hyn := hb.lt hf hbn
  have hxx := ha.root
  have hyy := hb.root
  have key : ∀ z r, z < n → (Rt (hvP p M m) z r ↔ (Rt p z M ∧ r = m) ∨ (¬ Rt p z M ∧ Rt p z r)) := by
    rcases hM with ⟨rfl, rfl⟩ | ⟨rfl, rfl⟩
    · exact (hf.join hxx hyy hne hxn hyn).2
    · exact (hf.join hyy hxx (fun e => hne e.symm) hyn hxn).2
  obtain ⟨ru, h1⟩ := hf.has hu
  obtain ⟨rv, h2⟩ := hf.has hv
  have cx : ∀ z rz, Rt p z rz → (cls p z a ↔ rz = x) := fun z rz h => ⟨fun ⟨r, h3, h4⟩ => by rw [h.uniq h3]; exact h4.uniq ha, fun e => ⟨x, e ▸ h, ha⟩⟩
  have cy : ∀ z rz, Rt p z rz → (cls p z b ↔ rz = y) := fun z rz h => ⟨fun ⟨r, h3, h4⟩ => by rw [h.uniq h3]; exact h4.uniq hb, fun e => ⟨y, e ▸ h, hb⟩⟩
  have cuv : cls p u v ↔ ru = rv := ⟨fun ⟨r, h3, h4⟩ => (h1.uniq h3).trans (h4.uniq h2), fun e => ⟨ru, h1, e ▸ h2⟩⟩
  have sb : cls p b v ↔ rv = y := ⟨fun h => (cy v rv h2).1 (cls_symm h), fun h => cls_symm ((cy v rv h2).2 h)⟩
  have sa : cls p a v ↔ rv = x := ⟨fun h => (cx v rv h2).1 (cls_symm h), fun h => cls_symm ((cx v rv h2).2 h)⟩
  rw [cuv, cx u ru h1, cy u ru h1, sb, sa]
  have eu : ∀ r, Rt p u r ↔ r = ru := fun r => ⟨fun h => h.uniq h1, fun e => e ▸ h1⟩
  have ev : ∀ r, Rt p v r ↔ r = rv := fun r => ⟨fun h => h.uniq h2, fun e => e ▸ h2⟩
  constructor
  · rintro ⟨r, h3, h4⟩
    rw [key u r hu, eu, eu] at h3
    rw [key v r hv, ev, ev] at h4
    rcases hM with ⟨rfl, rfl⟩ | ⟨rfl, rfl⟩ <;> omega
  · intro h
    refine ⟨if ru = M then m else ru, ?_, ?_⟩
    · rw [key u _ hu, eu, eu]
      split <;> omega
    · rw [key v _ hv, ev, ev]
      rcases hM with ⟨rfl, rfl⟩ | ⟨rfl, rfl⟩ <;> split <;> omega
theorem filter_put {P Q : Nat → Bool} {x : Nat} : ∀ n, (∀ z, z ≠ x → P z = Q z) → P x = true → Q x = false → x < n → ((List.range n).filter Q).length + 1 = ((List.range n).filter P).length
  | 0, _, _, _, h => absurd h (Nat.not_lt_zero _)
  | n + 1, h, h1, h2, hx => by
    rw [List.range_succ, List.filter_append, List.filter_append, List.length_append, List.length_append]
    by_cases e : x = n
    · subst e
      have h3 : (List.range x).filter Q = (List.range x).filter P := List.filter_congr (fun z hz => (h z (by have := List.mem_range.1 hz; omega)).symm)
      simp [h1, h2, h3]
    · have h3 := filter_put (P := P) (Q := Q) n h h1 h2 (by omega)
      have h4 : [n].filter Q = [n].filter P := List.filter_congr (fun z hz => by rw [List.mem_singleton.1 hz]; exact (h n (fun e2 => e e2.symm)).symm)
      rw [h4]
      omega
/-- one group less -/
theorem nRt_join {x y : Nat} (hx : p x = x) (hne : x ≠ y) (hxn : x < n) : nRt n (hvP p x y) + 1 = nRt n p := by
  unfold nRt
  refine filter_put n (x := x) (fun z hz => ?_) (by simp [hx]) ?_ hxn
  · unfold hvP
    rw [if_neg hz]
  · unfold hvP
    rw [if_pos rfl]
    simpa using fun e : y = x => hne e.symm
end
/-- q arises out of p by joining the pairs of l, one after the other -/
inductive Jns : (Nat → Nat) → List (Nat × Nat) → (Nat → Nat) → Prop
  | nil {p : Nat → Nat} : Jns p [] p
  | same {p q : Nat → Nat} {a b x : Nat} {l : List (Nat × Nat)} : Rt p a x → Rt p b x → Jns p l q → Jns p ((a, b) :: l) q
  | diff {p q : Nat → Nat} {a b x y : Nat} {l : List (Nat × Nat)} : Rt p a x → Rt p b y → x ≠ y → Jns (hvP p (max x y) (min x y)) l q → Jns p ((a, b) :: l) q
/-- connected by steps -/
inductive Cn (E : Nat → Nat → Prop) : Nat → Nat → Prop
  | refl {x : Nat} : Cn E x x
  | of {x y : Nat} : E x y → Cn E x y
  | symm {x y : Nat} : Cn E x y → Cn E y x
  | trans {x y z : Nat} : Cn E x y → Cn E y z → Cn E x z
theorem Cn.mono {E E' : Nat → Nat → Prop} (h : ∀ x y, E x y → Cn E' x y) {x y : Nat} (k : Cn E x y) : Cn E' x y := by
  induction k with
  | refl => exact .refl
  | of e => exact h _ _ e
  | symm _ ih => exact .symm ih
  | trans _ _ ih1 ih2 => exact .trans ih1 ih2
/-- steps within the first n: by what p joins already, and by the pairs of l -/
def Stp (n : Nat) (p : Nat → Nat) (l : List (Nat × Nat)) (x y : Nat) : Prop := x < n ∧ y < n ∧ (cls p x y ∨ (x, y) ∈ l)
theorem mm_cases (x y : Nat) : (max x y = x ∧ min x y = y) ∨ (max x y = y ∧ min x y = x) := by omega
theorem mm_ne {x y : Nat} (h : x ≠ y) : max x y ≠ min x y := by omega
section
variable {n : Nat}
theorem Jns.cls_iff {p q : Nat → Nat} {l : List (Nat × Nat)} (h : Jns p l q) : ∀ {rk : Nat → Nat}, FR n p rk → (∀ c ∈ l, c.1 < n ∧ c.2 < n) → (∃ rk', FR n q rk') ∧ ∀ x y, x < n → y < n → (cls q x y ↔ Cn (Stp n p l) x y) := by
  induction h with
  | @nil p =>
    intro rk hf _
    refine ⟨⟨rk, hf⟩, fun x y hx hy => ⟨fun h => .of ⟨hx, hy, .inl h⟩, fun h => ?_⟩⟩
    have key : ∀ {x y : Nat}, Cn (Stp n p []) x y → x = y ∨ (x < n ∧ y < n ∧ cls p x y) := by
      intro x y h
      induction h with
      | refl => exact .inl rfl
      | of e => exact .inr ⟨e.1, e.2.1, e.2.2.elim id (fun h => by cases h)⟩
      | symm _ ih => exact ih.imp (fun e => e.symm) (fun ⟨a, b, c⟩ => ⟨b, a, cls_symm c⟩)
      | trans _ _ ih1 ih2 =>
        rcases ih1 with rfl | ⟨a, b, c⟩
        · exact ih2
        · rcases ih2 with rfl | ⟨a', b', c'⟩
          · exact .inr ⟨a, b, c⟩
          · exact .inr ⟨a, b', cls_trans c c'⟩
    rcases key h with rfl | h
    · exact cls_refl hf hx
    · exact h.2.2
  | @same p q a b x l ha hb hj ih =>
    intro rk hf hl
    obtain ⟨han, hbn⟩ := hl (a, b) (List.mem_cons_self ..)
    obtain ⟨h1, h2⟩ := ih hf (fun c hc => hl c (List.mem_cons_of_mem _ hc))
    refine ⟨h1, fun u v hu hv => (h2 u v hu hv).trans ⟨fun h => h.mono fun s t e => .of ⟨e.1, e.2.1, e.2.2.imp id (List.mem_cons_of_mem _)⟩, fun h => h.mono fun s t e => ?_⟩⟩
    rcases e.2.2 with h3 | h3
    · exact .of ⟨e.1, e.2.1, .inl h3⟩
    · rcases List.mem_cons.1 h3 with h4 | h4
      · injection h4 with e1 e2
        subst e1 e2
        exact .of ⟨e.1, e.2.1, .inl ⟨x, ha, hb⟩⟩
      · exact .of ⟨e.1, e.2.1, .inr h4⟩
  | @diff p q a b x y l ha hb hne hj ih =>
    intro rk hf hl
    obtain ⟨han, hbn⟩ := hl (a, b) (List.mem_cons_self ..)
    have hxn := ha.lt hf han
    have hyn := hb.lt hf hbn
    have hfj : ∃ rk', FR n (hvP p (max x y) (min x y)) rk' := by
      rcases mm_cases x y with ⟨e1, e2⟩ | ⟨e1, e2⟩ <;> rw [e1, e2]
      · exact (hf.join ha.root hb.root hne hxn hyn).1
      · exact (hf.join hb.root ha.root (fun e => hne e.symm) hyn hxn).1
    obtain ⟨rk1, hf1⟩ := hfj
    obtain ⟨h1, h2⟩ := ih hf1 (fun c hc => hl c (List.mem_cons_of_mem _ hc))
    refine ⟨h1, fun u v hu hv => (h2 u v hu hv).trans ⟨fun h => h.mono fun s t e => ?_, fun h => h.mono fun s t e => ?_⟩⟩
    · have hab : Cn (Stp n p ((a, b) :: l)) a b := .of ⟨han, hbn, .inr (List.mem_cons_self ..)⟩
      rcases e.2.2 with h3 | h3
      · rcases (cls_join hf ha hb hne han hbn e.1 e.2.1 _ _ (mm_cases x y)).1 h3 with h4 | ⟨h4, h5⟩ | ⟨h4, h5⟩
        · exact .of ⟨e.1, e.2.1, .inl h4⟩
        · exact (Cn.of ⟨e.1, han, .inl h4⟩).trans (hab.trans (.of ⟨hbn, e.2.1, .inl h5⟩))
        · exact (Cn.of ⟨e.1, hbn, .inl h4⟩).trans (hab.symm.trans (.of ⟨han, e.2.1, .inl h5⟩))
      · exact .of ⟨e.1, e.2.1, .inr (List.mem_cons_of_mem _ h3)⟩
    · have hc := fun {s t : Nat} (h1 : s < n) (h2 : t < n) => cls_join hf ha hb hne han hbn h1 h2 _ _ (mm_cases x y)
      rcases e.2.2 with h3 | h3
      · exact .of ⟨e.1, e.2.1, .inl ((hc e.1 e.2.1).2 (.inl h3))⟩
      · rcases List.mem_cons.1 h3 with h4 | h4
        · injection h4 with e1 e2
          subst e1 e2
          exact .of ⟨e.1, e.2.1, .inl ((hc e.1 e.2.1).2 (.inr (.inl ⟨cls_refl hf e.1, cls_refl hf e.2.1⟩)))⟩
        · exact .of ⟨e.1, e.2.1, .inr h4⟩
end
/-- a list without doubles is no longer than one that holds its images -/
theorem inj_len {l l' : List Nat} (φ : Nat → Nat) (hn : l.Nodup) (hi : ∀ x ∈ l, ∀ y ∈ l, φ x = φ y → x = y) (hm : ∀ x ∈ l, φ x ∈ l') : l.length ≤ l'.length := by
  induction l generalizing l' with
  | nil => exact Nat.zero_le _
  | cons a r ih =>
    have ha := hm a (List.mem_cons_self ..)
    obtain ⟨h1, h2⟩ := List.nodup_cons.1 hn
    have h3 := ih (l' := l'.erase (φ a)) h2 (fun x hx y hy => hi x (List.mem_cons_of_mem _ hx) y (List.mem_cons_of_mem _ hy)) (fun x hx => by
      have hne : φ x ≠ φ a := fun e => h1 (by rw [← hi x (List.mem_cons_of_mem _ hx) a (List.mem_cons_self ..) e]; exact hx)
      exact (List.mem_erase_of_ne hne).2 (hm x (List.mem_cons_of_mem _ hx)))
    rw [List.length_erase_of_mem ha] at h3
    have : 0 < l'.length := List.length_pos_of_mem ha
    simp only [List.length_cons]
    omega
/-- where groups are told by a number below N each, and each number is one's, there are N groups -/
theorem nRt_of {n N : Nat} {p rk of : Nat → Nat} (hf : FR n p rk) (hc : ∀ x y, x < n → y < n → (cls p x y ↔ of x = of y)) (hlt : ∀ x, x < n → of x < N) (hs : ∀ k, k < N → ∃ x, x < n ∧ of x = k) : nRt n p = N := by
  have hmem : ∀ r, r ∈ (List.range n).filter (fun z => p z == z) ↔ r < n ∧ p r = r := fun r => by simp
  have hnd : ((List.range n).filter (fun z => p z == z)).Nodup := List.nodup_range.filter _
  refine Nat.le_antisymm ?_ ?_
  · have h := inj_len (l' := List.range N) of hnd (fun x hx y hy e => by
      obtain ⟨h1, h2⟩ := (hmem x).1 hx
      obtain ⟨h3, h4⟩ := (hmem y).1 hy
      obtain ⟨r, h5, h6⟩ := (hc x y h1 h3).2 e
      exact ((Rt.top h2).uniq h5).trans (h6.uniq (Rt.top h4))) (fun x hx => List.mem_range.2 (hlt x ((hmem x).1 hx).1))
    simpa [nRt] using h
  · classical
    have hex : ∀ k, k < N → ∃ r, r < n ∧ p r = r ∧ of r = k := fun k hk => by
      obtain ⟨x, hx, e⟩ := hs k hk
      obtain ⟨r, hr⟩ := hf.has hx
      have hrn := hr.lt hf hx
      exact ⟨r, hrn, hr.root, by rw [← e]; exact ((hc x r hx hrn).1 ⟨r, hr, .top hr.root⟩).symm⟩
    have h := inj_len (l := List.range N) (l' := (List.range n).filter (fun z => p z == z)) (fun k => if hk : k < N then (hex k hk).choose else 0) List.nodup_range (fun x hx y hy e => by
      have hx' := List.mem_range.1 hx
      have hy' := List.mem_range.1 hy
      simp only [dif_pos hx', dif_pos hy'] at e
      rw [← (hex x hx').choose_spec.2.2, ← (hex y hy').choose_spec.2.2, e]) (fun x hx => by
      have hx' := List.mem_range.1 hx
      simp only [dif_pos hx']
      exact (hmem _).2 ⟨(hex x hx').choose_spec.1, (hex x hx').choose_spec.2.1⟩)
    simpa [nRt] using h
end Go.Proofs.Ytneknajeecgnoaa.Base

namespace Go.Proofs.Ytneknajeecgnoaa.Base
set_option linter.unusedVariables false
set_option linter.unusedSimpArgs false

theorem lg_put {g : Nat → Int} {m : Nat} {z : Int} : ∀ {i : Nat} {x : Int}, i ≤ m → lgB (putF g m z) i x = lgB g i x := fun {i x} hi => by
  rw [Bool.eq_iff_iff, lg_iff, lg_iff]
  constructor
  · rintro ⟨j, hj, e⟩
    refine ⟨j, hj, ?_⟩
    unfold putF at e
    rwa [if_neg (by omega)] at e
  · rintro ⟨j, hj, e⟩
    refine ⟨j, hj, ?_⟩
    unfold putF
    rwa [if_neg (by omega)]
theorem VJ.root {n m : Nat} {f g : Nat → Int} (h : VJ n f m g) {x : Nat} (hx : x < n) (e : f x = x) : lgB g m x = false := by
  have h1 := (h.pars x hx).2.2
  rw [e] at h1
  cases h2 : lgB g m (x : Int)
  · rfl
  · rw [h2] at h1; simp at h1
theorem VJ.joined {n m : Nat} {f g : Nat → Int} (h : VJ n f m g) {M k : Nat} (hM : M < n) (hk : k < n) (hMk : M ≠ k) (eM : f M = M) (ek : f k = k) : VJ n (putF f M (k : Nat)) (m + 1) (putF g m (M : Nat)) := by
  have hMl := h.root hM eM
  have hkl := h.root hk ek
  have hgm : putF g m (M : Nat) m = (M : Int) := by unfold putF; rw [if_pos rfl]
  have hgo : ∀ i, i < m → putF g m (M : Nat) i = g i := fun i hi => by unfold putF; rw [if_neg (by omega)]
  refine ⟨h.n1, h.n2, fun i hi => ?_, fun z hz => ?_, fun i hi => ?_⟩
  · rcases Nat.lt_succ_iff_lt_or_eq.1 hi with h1 | rfl
    · rw [hgo i h1, lg_put (Nat.le_of_lt h1)]
      exact h.logs i h1
    · rw [hgm, lg_put (Nat.le_refl _)]
      exact ⟨by omega, by omega, hMl⟩
  · rw [lg_succ, lg_put (Nat.le_refl _), hgm]
    by_cases e : z = M
    · subst e
      have e1 : putF f z (k : Nat) z = (k : Int) := by unfold putF; rw [if_pos rfl]
      rw [e1]
      refine ⟨by omega, by omega, ?_⟩
      have e2 : ((k : Int) == (z : Int)) = false := beq_eq_false_iff_ne.2 (by omega)
      rw [e2]
      simp
    · have e1 : putF f M (k : Nat) z = f z := by unfold putF; rw [if_neg e]
      rw [e1]
      have e2 : ((M : Int) == (z : Int)) = false := beq_eq_false_iff_ne.2 (by omega)
      rw [e2, Bool.or_false]
      exact h.pars z hz
  · rcases Nat.lt_succ_iff_lt_or_eq.1 hi with h1 | rfl
    · rw [hgo i h1, lg_put (Nat.le_of_lt h1)]
      have h2 := h.logs i h1
      have e1 : putF f M (k : Nat) (g i).toNat = f (g i).toNat := by
        unfold putF
        rw [if_neg (fun e => ?_)]
        have : lgB g m M = true := lg_iff.2 ⟨i, h1, by omega⟩
        rw [hMl] at this
        cases this
      rw [e1]
      exact h.ords i h1
    · rw [hgm, Int.toNat_natCast, lg_put (Nat.le_refl _)]
      have e1 : putF f M (k : Nat) M = (k : Int) := by unfold putF; rw [if_pos rfl]
      rw [e1]
      exact hkl
theorem pNat_put (f : Nat → Int) (M k : Nat) : pNat (putF f M (k : Nat)) = hvP (pNat f) M k := by
  funext z
  unfold pNat putF hvP
  split <;> simp
theorem VJ.top {n m : Nat} {f g : Nat → Int} (h : VJ n f m g) {x : Nat} (hx : x < n) (e : pNat f x = x) : f x = x := by
  have := h.pars x hx
  unfold pNat at e
  omega
/-- joining keeps validity, and puts both elements into one group -/
theorem VJ.jcase {n m : Nat} {f g : Nat → Int} (h : VJ n f m g) {a b x y m0 : Nat} {f0 g0 : Nat → Int} (ha : a < n) (hb : b < n) (hx : upN f m a = x) (hy : upN f m b = y) (hc : JCase f m g x y f0 m0 g0) :
    VJ n f0 m0 g0 ∧ upN f0 m0 a = upN f0 m0 b ∧ ((x = y ∧ m0 = m) ∨ (x ≠ y ∧ m0 = m + 1)) := by
  rcases hc with ⟨e, rfl, rfl, rfl⟩ | ⟨e, rfl, rfl, rfl⟩
  · exact ⟨h, by rw [hx, hy, e], .inl ⟨e, rfl⟩⟩
  · have r1 := h.rt ha
    have r2 := h.rt hb
    rw [hx] at r1
    rw [hy] at r2
    have hxn := r1.lt h.fr ha
    have hyn := r2.lt h.fr hb
    have ex := h.top hxn r1.root
    have ey := h.top hyn r2.root
    have hv : VJ n (putF f (max x y) (min x y : Nat)) (m + 1) (putF g m (max x y : Nat)) := by
      rcases mm_cases x y with ⟨e1, e2⟩ | ⟨e1, e2⟩ <;> rw [e1, e2]
      · exact h.joined hxn hyn e ex ey
      · exact h.joined hyn hxn (fun e' => e e'.symm) ey ex
    refine ⟨hv, ?_, .inr ⟨e, rfl⟩⟩
    have q1 := hv.rt ha
    have q2 := hv.rt hb
    have hcl : cls (pNat (putF f (max x y) (min x y : Nat))) a b := by
      rw [pNat_put]
      exact (cls_join h.fr r1 r2 e ha hb ha hb _ _ (mm_cases x y)).2 (.inr (.inl ⟨cls_refl h.fr ha, cls_refl h.fr hb⟩))
    obtain ⟨r, h1, h2⟩ := hcl
    exact (q1.uniq h1).trans (h2.uniq q2)
/-- as many groups as elements that are not logged -/
theorem VJ.nRt {n m : Nat} {f g : Nat → Int} (h : VJ n f m g) : nRt n (pNat f) + m = n := by
  have hlog : ∀ i, i < m → (g i).toNat < n ∧ ((g i).toNat : Int) = g i := fun i hi => by have := h.logs i hi; omega
  have hnd : ((List.range m).map fun i => (g i).toNat).Nodup := by
    rw [List.nodup_iff_pairwise_ne, List.pairwise_map]
    refine (List.pairwise_lt_range (n := m)).imp_of_mem ?_
    intro a b ha hb hab e
    have hb' := List.mem_range.1 hb
    obtain ⟨h1, h2, h3⟩ := h.logs b hb'
    obtain ⟨h4, h5, h6⟩ := h.logs a (by omega)
    have : lgB g b (g b) = true := lg_iff.2 ⟨a, hab, by omega⟩
    rw [h3] at this
    cases this
  have hmem : ∀ z, z ∈ (List.range n).filter (fun z => !(pNat f z == z)) ↔ z ∈ (List.range m).map fun i => (g i).toNat := fun z => by
    rw [List.mem_filter, List.mem_range, List.mem_map]
    constructor
    · rintro ⟨hz, hp⟩
      have h1 := (h.pars z hz).2.2
      have h0 := h.pars z hz
      have hne : (f z == (z : Int)) = false := by
        rw [beq_eq_false_iff_ne]
        intro e
        simp [pNat, e] at hp
      rw [hne] at h1
      have h2 : lgB g m (z : Int) = true := by
        cases hq : lgB g m (z : Int)
        · exact absurd hq.symm h1
        · rfl
      obtain ⟨i, hi, e⟩ := lg_iff.1 h2
      exact ⟨i, List.mem_range.2 hi, by rw [e]; simp⟩
    · rintro ⟨i, hi, rfl⟩
      have hi' := List.mem_range.1 hi
      obtain ⟨h1, h2⟩ := hlog i hi'
      refine ⟨h1, ?_⟩
      have h3 := h.pars _ h1
      have h4 : lgB g m (((g i).toNat : Nat) : Int) = true := lg_iff.2 ⟨i, hi', by omega⟩
      rw [h4] at h3
      have h5 : (f (g i).toNat == (((g i).toNat : Nat) : Int)) = false := by
        cases hq : (f (g i).toNat == (((g i).toNat : Nat) : Int))
        · rfl
        · rw [hq] at h3; exact absurd rfl h3.2.2
      have h6 := beq_eq_false_iff_ne.1 h5
      simp [pNat]
      omega
  have hlen : ((List.range n).filter (fun z => !(pNat f z == z))).length = m := by
    refine Nat.le_antisymm ?_ ?_
    · have := inj_len (l' := (List.range m).map fun i => (g i).toNat) id (List.nodup_range.filter _ : ((List.range n).filter (fun z => !(pNat f z == z))).Nodup) (fun _ _ _ _ e => e) (fun x hx => (hmem x).1 hx)
      simpa using this
    · have := inj_len (l' := (List.range n).filter (fun z => !(pNat f z == z))) id hnd (fun _ _ _ _ e => e) (fun x hx => (hmem x).2 hx)
      simpa using this
  have hsum : ∀ l : List Nat, (l.filter fun z => pNat f z == z).length + (l.filter fun z => !(pNat f z == z)).length = l.length := by
    intro l
    induction l with
    | nil => rfl
    | cons a r ih =>
      cases hq : (pNat f a == a) <;> simp [hq] <;> omega
  have := hsum (List.range n)
  rw [hlen, List.length_range] at this
  exact this
section
variable {rt : Nat → Nat}
theorem snoc_new (L : List (List Int)) (x : Int) : snocAt (L ++ [[]]) L.length x = L ++ [[x]] := by
  unfold snocAt
  simp
/-- an element's root has a list just if an element before has it -/
theorem gs_has : ∀ k r, (gs rt k).1 r ≠ 0 ↔ ∃ j, j < k ∧ rt j = r
  | 0, r => ⟨fun h => absurd rfl h, fun ⟨j, h, _⟩ => absurd h (Nat.not_lt_zero _)⟩
  | k + 1, r => by
    have ih := gs_has k
    have hs : (∃ j, j < k + 1 ∧ rt j = r) ↔ (∃ j, j < k ∧ rt j = r) ∨ rt k = r := ⟨fun ⟨j, h1, h2⟩ => by
      rcases Nat.lt_succ_iff_lt_or_eq.1 h1 with h | rfl
      · exact .inl ⟨j, h, h2⟩
      · exact .inr h2, fun h => h.elim (fun ⟨j, h1, h2⟩ => ⟨j, by omega, h2⟩) (fun h => ⟨k, by omega, h⟩)⟩
    by_cases h : (gs rt k).1 (rt k) = 0
    · rw [gs_new h, hs, ← ih r]
      show (if r = rt k then (gs rt k).2.length + 1 else (gs rt k).1 r) ≠ 0 ↔ _
      by_cases e : r = rt k
      · rw [if_pos e]
        exact ⟨fun _ => .inr e.symm, fun _ => by omega⟩
      · rw [if_neg e]
        exact ⟨fun h => .inl h, fun h => h.elim id (fun h => absurd h.symm e)⟩
    · rw [gs_old h, hs, ← ih r]
      exact ⟨fun h => .inl h, fun h2 => h2.elim id (fun h3 => by subst h3; exact h)⟩
/-- the elements that are the first ones of their groups -/
theorem gs_count : ∀ k, (gs rt k).2.length = ((List.range k).filter fun j => (gs rt j).1 (rt j) == 0).length
  | 0 => rfl
  | k + 1 => by
    have ih := gs_count k
    rw [List.range_succ, List.filter_append, List.length_append, ← ih]
    by_cases h : (gs rt k).1 (rt k) = 0
    · rw [gs_new h]
      show (snocAt _ _ _).length = _
      rw [snoc_len]
      simp [h]
    · rw [gs_old h]
      show (snocAt _ _ _).length = _
      rw [snoc_len]
      simp [h]
theorem first_ex {r : Nat} : ∀ j, rt j = r → ∃ i, i ≤ j ∧ rt i = r ∧ (gs rt i).1 r = 0
  | j, e => by
    by_cases h : (gs rt j).1 r = 0
    · exact ⟨j, Nat.le_refl _, e, h⟩
    · obtain ⟨i, hi, e2⟩ := (gs_has j r).1 h
      obtain ⟨i2, h1, h2, h3⟩ := first_ex i e2
      exact ⟨i2, by omega, h2, h3⟩
  termination_by j => j
/-- as many lists as groups -/
theorem gs_groups {n : Nat} {p rk : Nat → Nat} (hf : FR n p rk) (hr : ∀ x, x < n → Rt p x (rt x)) : (gs rt n).2.length = nRt n p := by
  rw [gs_count]
  have hm1 : ∀ j, j ∈ (List.range n).filter (fun j => (gs rt j).1 (rt j) == 0) ↔ j < n ∧ (gs rt j).1 (rt j) = 0 := fun j => by simp
  have hm2 : ∀ r, r ∈ (List.range n).filter (fun z => p z == z) ↔ r < n ∧ p r = r := fun r => by simp
  refine Nat.le_antisymm ?_ ?_
  · refine inj_len rt (List.nodup_range.filter _) (fun x hx y hy e => ?_) (fun x hx => ?_)
    · obtain ⟨h1, h2⟩ := (hm1 x).1 hx
      obtain ⟨h3, h4⟩ := (hm1 y).1 hy
      rcases Nat.lt_trichotomy x y with h | h | h
      · exact absurd h4 ((gs_has y (rt y)).2 ⟨x, h, e⟩)
      · exact h
      · exact absurd h2 ((gs_has x (rt x)).2 ⟨y, h, e.symm⟩)
    · obtain ⟨h1, -⟩ := (hm1 x).1 hx
      exact (hm2 _).2 ⟨(hr x h1).lt hf h1, (hr x h1).root⟩
  · classical
    have hrr : ∀ r, r < n → p r = r → rt r = r := fun r h1 h2 => (hr r h1).uniq (.top h2)
    have hex : ∀ r, r < n ∧ p r = r → ∃ i, i ≤ r ∧ rt i = r ∧ (gs rt i).1 r = 0 := fun r h => first_ex r (hrr r h.1 h.2)
    refine inj_len (fun r => if h : r < n ∧ p r = r then (hex r h).choose else 0) (List.nodup_range.filter _) (fun x hx y hy e => ?_) (fun x hx => ?_)
    · have hx' := (hm2 x).1 hx
      have hy' := (hm2 y).1 hy
      simp only [dif_pos hx', dif_pos hy'] at e
      rw [← (hex x hx').choose_spec.2.1, ← (hex y hy').choose_spec.2.1, e]
    · have hx' := (hm2 x).1 hx
      simp only [dif_pos hx']
      obtain ⟨h1, h2, h3⟩ := (hex x hx').choose_spec
      refine (hm1 _).2 ⟨by omega, ?_⟩
      rw [h2]
      exact h3
/-- what the lists of all groups are like -/
structure Grp (k : Nat) (L : List (List Int)) : Prop where
  ne : ∀ l ∈ L, l ≠ []
  asc : ∀ l ∈ L, l.Pairwise (fun a b => a < b)
  hd : ∀ i j, i < j → j < L.length → (L.getD i []).getD 0 0 < (L.getD j []).getD 0 0
  bd : ∀ l ∈ L, ∀ x ∈ l, 0 ≤ x ∧ x < (k : Int)
  sum : (L.map List.length).sum = k
theorem gs_grp : ∀ k, Grp k (gs rt k).2
  | 0 => ⟨fun l h => (by cases h), fun l h => (by cases h), fun i j _ h => absurd h (Nat.not_lt_zero _), fun l h => (by cases h), rfl⟩
  | k + 1 => by
    have ih := gs_grp k
    have hb := gs_bd (rt := rt) k (rt k)
    by_cases h : (gs rt k).1 (rt k) = 0
    · rw [gs_new h]
      show Grp (k + 1) (snocAt _ _ _)
      rw [snoc_new]
      generalize (gs rt k).2 = L at *
      have hin : ∀ l, l ∈ L ++ [[(k : Int)]] → l ∈ L ∨ l = [(k : Int)] := fun l hl => by simpa using hl
      refine ⟨fun l hl => ?_, fun l hl => ?_, fun i j hij hj => ?_, fun l hl x hx => ?_, ?_⟩
      · rcases hin l hl with h1 | rfl
        · exact ih.ne l h1
        · simp
      · rcases hin l hl with h1 | rfl
        · exact ih.asc l h1
        · simp
      · have hj2 : j < L.length + 1 := by simpa using hj
        have hi : i < L.length := by omega
        have e1 : (L ++ [[(k : Int)]]).getD i [] = L.getD i [] := by
          rw [List.getD_eq_getElem?_getD, List.getD_eq_getElem?_getD, List.getElem?_append_left hi]
        rw [e1]
        have hmi : L.getD i [] ∈ L := by
          rw [List.getD_eq_getElem?_getD, List.getElem?_eq_getElem hi]
          exact List.getElem_mem hi
        rcases Nat.lt_succ_iff_lt_or_eq.1 hj2 with h2 | rfl
        · have e2 : (L ++ [[(k : Int)]]).getD j [] = L.getD j [] := by
            rw [List.getD_eq_getElem?_getD, List.getD_eq_getElem?_getD, List.getElem?_append_left h2]
          rw [e2]
          exact ih.hd i j hij h2
        · have e2 : (L ++ [[(k : Int)]]).getD L.length [] = [(k : Int)] := by
            rw [List.getD_eq_getElem?_getD, List.getElem?_append_right (Nat.le_refl _), Nat.sub_self]
            rfl
          rw [e2]
          have h3 := ih.ne _ hmi
          have h4 : (L.getD i []).getD 0 0 ∈ L.getD i [] := by
            revert h3
            generalize L.getD i [] = l
            cases l with
            | nil => intro h; exact absurd rfl h
            | cons a r => intro _; exact List.mem_cons_self ..
          exact (ih.bd _ hmi _ h4).2
      · rcases hin l hl with h1 | rfl
        · have := ih.bd l h1 x hx; omega
        · simp at hx; omega
      · rw [List.map_append, List.sum_append, ih.sum]
        simp
    · rw [gs_old h]
      show Grp (k + 1) (snocAt _ _ _)
      have hi : (gs rt k).1 (rt k) - 1 < (gs rt k).2.length := by omega
      generalize (gs rt k).1 (rt k) - 1 = i at *
      generalize (gs rt k).2 = L at *
      have hmi : L.getD i [] ∈ L := by
        rw [List.getD_eq_getElem?_getD, List.getElem?_eq_getElem hi]
        exact List.getElem_mem hi
      have hin : ∀ l, l ∈ snocAt L i (k : Int) → l ∈ L ∨ l = L.getD i [] ++ [(k : Int)] := fun l hl => List.mem_or_eq_of_mem_set hl
      have hget : ∀ j, (snocAt L i (k : Int)).getD j [] = if j = i then L.getD i [] ++ [(k : Int)] else L.getD j [] := fun j => by
        unfold snocAt
        rw [List.getD_eq_getElem?_getD (l := L.set _ _), List.getElem?_set]
        by_cases e : i = j
        · subst e
          rw [if_pos rfl, if_pos hi, if_pos rfl]
          rfl
        · rw [if_neg e, if_neg (fun e2 => e e2.symm), ← List.getD_eq_getElem?_getD]
      have hhd : ∀ j, j < L.length → ((snocAt L i (k : Int)).getD j []).getD 0 0 = (L.getD j []).getD 0 0 := fun j hj => by
        rw [hget j]
        by_cases e : j = i
        · subst e
          rw [if_pos rfl]
          have h3 := ih.ne _ hmi
          revert h3
          generalize L.getD j [] = l
          cases l with
          | nil => intro h; exact absurd rfl h
          | cons a r => intro _; rfl
        · rw [if_neg e]
      refine ⟨fun l hl => ?_, fun l hl => ?_, fun a b hab hb2 => ?_, fun l hl x hx => ?_, ?_⟩
      · rcases hin l hl with h1 | rfl
        · exact ih.ne l h1
        · simp
      · rcases hin l hl with h1 | rfl
        · exact ih.asc l h1
        · rw [List.pairwise_append]
          refine ⟨ih.asc _ hmi, List.pairwise_singleton _ _, fun a ha b hb2 => ?_⟩
          rw [List.mem_singleton.1 hb2]
          exact (ih.bd _ hmi a ha).2
      · rw [snoc_len] at hb2
        rw [hhd a (by omega), hhd b hb2]
        exact ih.hd a b hab hb2
      · rcases hin l hl with h1 | rfl
        · have := ih.bd l h1 x hx; omega
        · rcases List.mem_append.1 hx with h2 | h2
          · have := ih.bd _ hmi x h2; omega
          · simp at h2; omega
      · have key : ∀ (L : List (List Int)) (i : Nat), i < L.length → ((L.set i (L.getD i [] ++ [(k : Int)])).map List.length).sum = (L.map List.length).sum + 1 := by
          intro L
          induction L with
          | nil => intro i hi; exact absurd hi (Nat.not_lt_zero _)
          | cons a r ih2 =>
            intro i hi
            cases i with
            | zero => simp; omega
            | succ i =>
              have h5 := ih2 i (by simpa using hi)
              simp at h5 ⊢
              omega
        have h6 := key L i hi
        unfold snocAt
        rw [h6, ih.sum]
end
end Go.Proofs.Ytneknajeecgnoaa.Base

namespace Go.Proofs.Ytneknajeecgnoaa.Base
open Go Go.RowKit
set_option linter.unusedVariables false
set_option linter.unusedSimpArgs false
theorem idI_cells (k : Nat) : ivs (idI k) = cellsOfF k idF := by
  refine List.ext_getElem? (fun j => ?_)
  induction k with
  | zero => rfl
  | succ k ih =>
    have e1 : ivs (idI (k + 1)) = ivs (idI k) ++ [.int .i64 (k : Int)] := by rw [idI_succ]; unfold ivs; simp
    have e2 : cellsOfF (k + 1) idF = cellsOfF k idF ++ [.int .i64 (k : Int)] := by unfold cellsOfF idF; rw [List.range_succ]; simp
    have hl : (ivs (idI k)).length = (cellsOfF k idF).length := by
      have h : ∀ n, (ivs (idI n)).length = n := fun n => by
        induction n with
        | zero => rfl
        | succ n ih => rw [idI_succ]; unfold ivs at ih ⊢; simp at ih ⊢; exact ih
      rw [h, cellsOfF_len]
    rw [e1, e2]
    rcases Nat.lt_or_ge j (ivs (idI k)).length with h | h
    · rw [List.getElem?_append_left h, List.getElem?_append_left (by omega)]
      exact ih
    · rw [List.getElem?_append_right h, List.getElem?_append_right (by omega), hl]
set_option maxHeartbeats 2000000 in
theorem spec_new2 (w : World) (N : Nat) (h1 : 1 ≤ N) (h2 : N ≤ 256) : Calls Try.prog 89 #[.int .i64 (N : Int)] w (JnMade2 N idF 0 (fun _ => 0) w) := by
  obtain ⟨i2, hi2, hz0, hz1, hz2⟩ := info_parts infoI64
  have A1 := (Below.refl w.heap.size w).alloc (Nat.le_refl _) (.cells #[.slice none 0 0, .slice none 0 0] 26)
  have A2 := A1.alloc A1.size (.cells #[] 2)
  have A3 := A2.alloc A2.size (.cells #[.slice none 0 0, .slice (some ⟨w.heap.size + 1, 0, none⟩) 0 0] 26)
  have HB := Lib.hid A3
  have HR0 := Lib.hid (((At.new w #[.slice none 0 0, .slice none 0 0] 26).below ((Below.refl _ _).alloc (Nat.le_refl _) (.cells #[] 2)) (by simp)).below ((Below.refl _ _).alloc (Nat.le_refl _) (.cells #[.slice none 0 0, .slice (some ⟨w.heap.size + 1, 0, none⟩) 0 0] 26)) (by simp; omega))
  have hj := At.new ((w.alloc (.cells #[.slice none 0 0, .slice none 0 0] 26)).alloc (.cells #[] 2)) #[.slice none 0 0, .slice (some ⟨w.heap.size + 1, 0, none⟩) 0 0] 26
  simp only [World.size_alloc] at hj
  have HJ0 := Lib.hid hj
  have hg := owns_belowS (owns_empty (w.alloc (.cells #[.slice none 0 0, .slice none 0 0] 26)) 2) ((Below.refl _ ((w.alloc (.cells #[.slice none 0 0, .slice none 0 0] 26)).alloc (.cells #[] 2))).alloc (Nat.le_refl _) (.cells #[.slice none 0 0, .slice (some ⟨w.heap.size + 1, 0, none⟩) 0 0] 26))
  rw [World.size_alloc] at hg
  have HG0 := Lib.hid hg
  clear A1 A2 A3 hj hg
  go_enter Try.func89, Try.ntmps89
  go_wp2
  generalize ((w.alloc (.cells #[.slice none 0 0, .slice none 0 0] 26)).alloc (.cells #[] 2)).alloc (.cells #[.slice none 0 0, .slice (some ⟨w.heap.size + 1, 0, none⟩) 0 0] 26) = w3 at *
  go_loopw [4] (fun kv wr => ∃ (k : Nat) (u : Value), k ≤ N ∧ kv = .int .i64 k ∧ Hid (At wr (w.heap.size + 1 + 1) #[u, .slice (some ⟨w.heap.size + 1, 0, none⟩) 0 0] 26) ∧ Hid (wr.ownsRow (w.heap.size + 3) 2 1 u k (ivs (idI k))) ∧ Hid (At wr w.heap.size #[.slice none 0 0, .slice none 0 0] 26) ∧ Hid (Below w.heap.size w wr) ∧ Hid (wr.ownsRow (w.heap.size + 1) 2 1 (.slice (some ⟨w.heap.size + 1, 0, none⟩) 0 0) 0 [])) (fun kv _ => 300 - (intOf kv).toNat)
  case atStart => exact ⟨0, .slice none 0 0, Nat.zero_le _, rfl, HJ0, Lib.hid ⟨rfl, .inl ⟨rfl, rfl⟩⟩, HR0, HB, HG0⟩
  case round =>
    clear HJ0 HR0 HB HG0
    obtain ⟨k, u, hk, rfl, HJ, HU, HR, HB, HLG⟩ := hrel
    obtain ⟨Ao, co, rfl⟩ := owns_slice HU.out
    have lj := HJ.out.lt
    have lr := HR.out.lt
    by_cases hlt : k < N
    · have p0 : wr.cell? ⟨w.heap.size + 1 + 1, 0, none⟩ = some (.slice Ao k co) := HJ.out.cellv (i := 0) rfl
      have hXa := Lib.hid ((Below.refl wr.heap.size wr).alloc (Nat.le_refl _) (.cells #[.int .i64 (k : Int)] 2))
      go_wp2_with (first
        | (at_builtin; refine wpList_append_lies _ (by rfl) _ _ _ (by rfl) (w.heap.size + 3) 2 i2 _ 1 8 Try.underlying24 hi2 hz0 hz1 hz2 rfl (by omega) _ k (ivs (idI k)) (by rfl) (owns_belowS HU.out hXa.out) ⟨wr.heap.size, 0, none⟩ 1 1 [.int .i64 (k : Int)] (by rfl) (by rfl) (World.news_of_block (cs := #[.int .i64 (k : Int)]) (t := 2) (fr := (0, 0)) (heap_alloc_new wr _)) (fun u hu => by simp at hu; subst hu; rfl) (by omega) (by unfold maxLen; omega) (by omega) (by simp; omega) (wr.heap.size + 1) (by simp) ?_; intro g6 cap6 w6 hown6 hgrow6 hat6 hlt6; have HOW := Lib.hid hown6; have HGR := Lib.hid hgrow6; have HJ6 := Lib.hid ((HJ.out.below hXa.out lj).grown hgrow6 (fun e => by have := (HU.out.lt _ e.symm).1; omega)); have HR6 := Lib.hid ((HR.out.below hXa.out lr).grown hgrow6 (fun e => by have := (HU.out.lt _ e.symm).1; omega)); have c6 : w6.cell? ⟨w.heap.size + 1 + 1, 0, none⟩ = some (.slice Ao k co) := HJ6.out.cellv (i := 0) rfl; have f6 := HJ6.out.frozen 0; have l6 := HJ6.out.lt; clear hown6 hgrow6 hat6))
      go_roundw
      case rel =>
        refine ⟨k + 1, _, by omega, by go_num, Lib.hid (HJ6.out.set 0 _), Lib.hid (owns_setJ ?_ (by omega) _), Lib.hid (HR6.out.setOther (by simp; omega) _), Lib.hid (((HB.out.trans (hXa.out.mono (HB.out.size))).grown HGR.out (by have := HB.out.size; simp; omega) (fun b e => by have := (HU.out.lt b e).1; omega)).setCell (by simp; omega) _), Lib.hid (owns_keep (owns_keep (owns_belowS HLG.out hXa.out) HGR.out (fun b e1 e2 => by have := (HU.out.lt b e2).1; simp [Value.ownBlock] at e1; omega)) (grown_set _ _ _ _) (fun b e1 e2 => by simp [Value.ownBlock] at e1 e2; omega))⟩
        have e : ivs (idI (k + 1)) = ivs (idI k) ++ [.int .i64 (k : Int)] := by rw [idI_succ]; unfold ivs; simp
        rw [e]
        exact HOW.out
      case measure => simp [intOf]; omega
    · obtain rfl : k = N := by omega
      have p0 : wr.cell? ⟨w.heap.size + 1 + 1, 0, none⟩ = some (.slice Ao k co) := HJ.out.cellv (i := 0) rfl
      have p1 : wr.cell? ⟨w.heap.size + 1 + 1, 1, none⟩ = some (.slice (some ⟨w.heap.size + 1, 0, none⟩) 0 0) := HJ.out.cellv (i := 1) rfl
      have q0 : wr.cell? ⟨w.heap.size, 0, none⟩ = some (.slice none 0 0) := HR.out.cellv (i := 0) rfl
      have q1 : wr.cell? ⟨w.heap.size, 1, none⟩ = some (.slice none 0 0) := HR.out.cellv (i := 1) rfl
      have f0 := HR.out.frozen 0
      have f1 := HR.out.frozen 1
      go_wp2
      refine bodyPost_ret (v := .agg #[.slice Ao k co, .slice (some ⟨w.heap.size + 1, 0, none⟩) 0 0]) (by simp [results, Try.results89, go_sem, q0, q1]) rfl ⟨Ao, co, _, 0, rfl, ?_, ?_, fun q h1 h2 => ?_, ?_⟩
      · have h := owns_keep (owns_keep HU.out (grown_set wr w.heap.size 0 (.slice Ao k co)) (fun b e1 e2 => by have := (HU.out.lt b e1).1; simp at e2; omega)) (grown_set _ w.heap.size 1 (.slice (some ⟨w.heap.size + 1, 0, none⟩) 0 0)) (fun b e1 e2 => by have := (HU.out.lt b e1).1; simp at e2; omega)
        have e : ivs (idI k) = cellsOfF k idF := idI_cells k
        rw [e] at h
        exact owns_mono h (by omega)
      · exact owns_keep (owns_keep HLG.out (grown_set wr w.heap.size 0 (.slice Ao k co)) (fun b e1 e2 => by simp [Value.ownBlock] at e1 e2; omega)) (grown_set _ w.heap.size 1 (.slice (some ⟨w.heap.size + 1, 0, none⟩) 0 0)) (fun b e1 e2 => by simp [Value.ownBlock] at e1 e2; omega)
      · have := (HU.out.lt q h1).1
        simp [Value.ownBlock] at h2
        omega
      · exact (HB.out.setCell (by simp) _).setCell (by simp) _
end Go.Proofs.Ytneknajeecgnoaa.Base

namespace Go.Proofs.Ytneknajeecgnoaa.Base
open Go Go.RowKit
set_option linter.unusedVariables false
set_option linter.unusedSimpArgs false

theorem pick_any1 (w : World) (s : Nat) (A : Option Addr) (n c : Nat) (f : Nat → Int) (k m : Int) (hs : Src w s A n c k) (hr : Row .u8 w A n c f) (hne : ∀ b, blk A = some b → 0 < n → b ≠ s) (k0 : 0 ≤ k) (k1 : k ≤ 900000) (hn : n ≤ 1000000) (m1 : 1 ≤ m) (m2 : m ≤ 60000) :
    Calls Try.prog 90 #[.pointer (some ⟨s, 0, none⟩), .int .i64 m] w (Took s A n c k 2 (m - 1) w) := by
  by_cases h : m = 1
  · subst h
    have HS := Lib.hid hs
    clear hs hr hne
    go_enter Try.func90, Try.ntmps90
    go_wp2
    go_ret
    exact ⟨0, k, rfl, by omega, by omega, HS.out, by omega, by omega, Ext.refl _ _⟩
  · exact pick_any w s A n c f k m hs hr hne k0 k1 hn (by omega) m2
theorem at_apart {w : World} {p n s base : Nat} {cs : Array Value} {t e : TypeId} {v : Value} {xs : List Value} (h : At w p cs t) (ho : w.ownsRow base e s v n xs) (hte : t ≠ e) : ∀ q, v.ownBlock = some q → q ≠ p := fun q hq e2 => by
  subst e2
  rcases ho.2 with ⟨rfl, -⟩ | ⟨g, cap, cur, rfl, -, h2, -⟩
  · simp [Value.ownBlock] at hq
  · have e3 : g = q := by simpa [Value.ownBlock] using hq
    subst e3
    have h3 : w.heap[g]? = some (.cells cs t (0, 0)) := h
    rw [h3] at h2
    injection h2 with h2
    injection h2 with _ h4 _
    exact hte h4
theorem owns_ext {w w' : World} {X : List Nat} {base n s : Nat} {e : TypeId} {v : Value} {xs : List Value} (h : w.ownsRow base e s v n xs) (he : Ext X w w') (hx : ∀ q, v.ownBlock = some q → q ∉ X) : w'.ownsRow base e s v n xs := by
  refine ⟨h.1, ?_⟩
  rcases h.2 with e1 | ⟨g, cap, cur, rfl, h1, h2, r⟩
  · exact .inl e1
  · exact .inr ⟨g, cap, cur, rfl, h1, (he.block g (Array.getElem?_eq_some_iff.1 h2).1 (hx g rfl)).trans h2, r⟩
theorem Src.bel {w w' : World} {B s : Nat} {A : Option Addr} {n c : Nat} {k : Int} (h : Src w s A n c k) (hb : Below B w w') (hs : s < B) : Src w' s A n c k := by
  obtain ⟨h1, h2, h3, ⟨z, h4⟩, h5, h6⟩ := h
  exact ⟨Nat.lt_of_lt_of_le h1 hb.size, (hb.cell (p := ⟨s, 0, none⟩) hs).trans h2, (hb.cell (p := ⟨s, 1, none⟩) hs).trans h3, ⟨z, (hb.cell (p := ⟨s, 2, none⟩) hs).trans h4⟩, (hb.frozen (p := ⟨s, 1, none⟩) hs).trans h5, (hb.frozen (p := ⟨s, 2, none⟩) hs).trans h6⟩
/-- valid joined elements, few of them -/
def JDrw (w : World) (e : Ending) (w' : World) : Prop :=
  ∃ A n c f B m d g, e = .returned (.agg #[.slice A n c, .slice B m d]) ∧ VJ n f m g ∧ n ≤ 14 ∧ OwnRow w' w.heap.size A n c f ∧ OwnRow w' w.heap.size B m d g
theorem owns_row64 {w : World} {base n c : Nat} {A : Option Addr} {f : Nat → Int} (h : w.ownsRow base 2 1 (.slice A n c) n (cellsOfF n f)) (hw : ∀ i, i < n → (Lit.int .i64 (f i)).wf = true) : Row .i64 w A n c f := (ownRow_any h hw).row
set_option maxHeartbeats 4000000 in
theorem jdraw_any (w : World) (s : Nat) (A0 : Option Addr) (n0 c0 : Nat) (f0 : Nat → Int) (hs : Src w s A0 n0 c0 0) (hr : Row .u8 w A0 n0 c0 f0) (hne : ∀ b, blk A0 = some b → 0 < n0 → b ≠ s) (hn : n0 ≤ 1000000) :
    Calls Try.prog 55 #[.pointer (some ⟨s, 0, none⟩)] w (fun e w' => JDrw w e w' ∧ Ext [s] w w') := by
  have hsl := hs.1
  have hbl := row_blk hr
  have bA := (Below.refl w.heap.size w).alloc (Nat.le_refl _) (.cells #[.slice none 0 0, .slice none 0 0] 26)
  have HS1 := Lib.hid (hs.ext (Ext.of_below (X := []) bA) (by simp))
  have HT1 := Lib.hid (At.new w #[.slice none 0 0, .slice none 0 0] 26)
  have HR1 := Lib.hid (hr.below bA (Nat.le_refl _))
  have HNE := Lib.hid hne
  have HBL := Lib.hid hbl
  have HX1 : Hid (Ext [s] w (w.alloc (.cells #[.slice none 0 0, .slice none 0 0] 26))) := Lib.hid (Ext.of_below bA)
  have hw1 : (w.alloc (.cells #[.slice none 0 0, .slice none 0 0] 26)).heap.size = w.heap.size + 1 := by simp
  clear hs hr hne hbl bA
  go_enter Try.func55, Try.ntmps55
  go_wp2_with fail
  generalize w.alloc (.cells #[.slice none 0 0, .slice none 0 0] 26) = w1 at *
  refine (pick_any1 w1 s A0 n0 c0 f0 0 14 HS1.out HR1.out HNE.out (by omega) (by omega) hn (by omega) (by omega)).mono ?_
  rintro e w2 ⟨v, k', rfl, v0, v1, S2, q1, q2, x2⟩
  obtain ⟨N, hN⟩ : ∃ N : Nat, 1 + v = N := ⟨(1 + v).toNat, by omega⟩
  have hN1 : 1 ≤ N := by omega
  have hN2 : N ≤ 14 := by omega
  have HS2 := Lib.hid S2
  have HT2 := Lib.hid (HT1.out.ext x2 (by simp; omega))
  have HR2 := Lib.hid (HR1.out.ext x2 (fun b hb h0 => by have := HNE.out b hb h0; simpa using this))
  have HX2 := Lib.hid (HX1.out.trans x2)
  have hz2 := x2.size
  have HN := Lib.hid hN
  clear S2 x2 HS1 HT1 HR1 HX1
  go_wp2_with fail
  refine (spec_new2 w2 N hN1 (by omega)).mono ?_
  rintro e w3 ⟨A, c, B, d, rfl, o1, o2, o3, b3⟩
  have HS3 := Lib.hid (HS2.out.ext (Ext.of_below (X := []) b3) (by simp))
  have HT3 := Lib.hid (HT2.out.below b3 HT2.out.lt)
  have HR3 := Lib.hid (HR2.out.below b3 (Nat.le_refl _))
  have HX3 := Lib.hid (HX2.out.trans (Ext.of_below (X := [s]) b3))
  have hz3 := b3.size
  have bN := (Below.refl w3.heap.size w3).alloc (Nat.le_refl _) (.cells #[.slice A N c, .slice B 0 d] 26)
  have HJ4 := Lib.hid (At.new w3 #[.slice A N c, .slice B 0 d] 26)
  have HS4 := Lib.hid (HS3.out.ext (Ext.of_below (X := []) bN) (by simp))
  have HT4 := Lib.hid (HT3.out.below bN HT3.out.lt)
  have HR4 := Lib.hid (HR3.out.below bN (Nat.le_refl _))
  have HX4 := Lib.hid (HX3.out.trans (Ext.of_below (X := [s]) bN))
  have HO1 := Lib.hid (owns_belowS o1 bN)
  have HO2 := Lib.hid (owns_belowS o2 bN)
  have HO3 := Lib.hid o3
  have j0 : (w3.alloc (.cells #[.slice A N c, .slice B 0 d] 26)).cell? ⟨w3.heap.size, 0, none⟩ = some (.slice A N c) := HJ4.out.cellv (i := 0) rfl
  have jz := HJ4.out.lt
  have hw4 : (w3.alloc (.cells #[.slice A N c, .slice B 0 d] 26)).heap.size = w3.heap.size + 1 := by simp
  have HVJ : Hid (VJ N idF 0 (fun _ => 0)) := Lib.hid ⟨hN1, by omega, fun i h => absurd h (Nat.not_lt_zero _), fun k hk => ⟨by unfold idF; omega, by unfold idF; omega, by unfold idF; simp [lgB]⟩, fun i h => absurd h (Nat.not_lt_zero _)⟩
  clear o1 o2 o3 b3 bN HS2 HT2 HR2 HX2 HS3 HT3 HR3 HX3 HN hN
  go_wp2_with fail
  generalize w3.alloc (.cells #[.slice A N c, .slice B 0 d] 26) = w4 at *
  generalize w3.heap.size = p3 at *
  clear j0
  refine (pick_any1 w4 s A0 n0 c0 f0 k' ((N : Int) + 3) HS4.out HR4.out HNE.out (by omega) (by omega) hn (by omega) (by omega)).mono ?_
  rintro e w5 ⟨v5, k5, rfl, v50, v51, S5, q51, q52, x5⟩
  obtain ⟨K, hK⟩ : ∃ K : Nat, v5 = K := ⟨v5.toNat, by omega⟩
  subst hK
  have hps : p3 ≠ s := by omega
  have hAs : ∀ q, (Value.slice A N c).ownBlock = some q → q ∉ [s] := fun q h => by have := (HO1.out.lt q h).1; simp; omega
  have hBs : ∀ q, (Value.slice B 0 d).ownBlock = some q → q ∉ [s] := fun q h => by have := (HO2.out.lt q h).1; simp; omega
  have HS5 := Lib.hid S5
  have HT5 := Lib.hid (HT4.out.ext x5 (by simp; omega))
  have HJ5 := Lib.hid (HJ4.out.ext x5 (by simpa using hps))
  have HR5 := Lib.hid (HR4.out.ext x5 (fun b hb h0 => by have := HNE.out b hb h0; simpa using this))
  have HX5 := Lib.hid (HX4.out.trans x5)
  have HO15 := Lib.hid (owns_ext HO1.out x5 hAs)
  have HO25 : Hid (w5.ownsRow (w2.heap.size + 1) 2 1 (.slice B 0 d) 0 (cellsOfF 0 (fun _ => 0))) := Lib.hid (owns_ext HO2.out x5 hBs)
  have hz5 := x5.size
  clear S5 x5 hAs hBs HS4 HT4 HJ4 HR4 HX4 HO1 HO2
  go_wp2_with fail
  go_loopw [5] (fun iv wr => ∃ (j : Nat) (B : Option Addr) (d : Nat) (f : Nat → Int) (m : Nat) (g : Nat → Int) (k' : Int), j ≤ K ∧ iv = .int .i64 (j : Int) ∧ 0 ≤ k' ∧ k' ≤ k5 + 4 * ((K : Int) - j) ∧ Hid (VJ N f m g) ∧ Hid (At wr p3 #[.slice A N c, .slice B m d] 26) ∧ Hid (wr.ownsRow (w2.heap.size + 1) 2 1 (.slice A N c) N (cellsOfF N f)) ∧ Hid (wr.ownsRow (w2.heap.size + 1) 2 1 (.slice B m d) m (cellsOfF m g)) ∧ Hid (∀ q, (Value.slice A N c).ownBlock = some q → (Value.slice B m d).ownBlock = some q → False) ∧ Hid (Src wr s A0 n0 c0 k') ∧ Hid (At wr w.heap.size #[.slice none 0 0, .slice none 0 0] 26) ∧ Hid (Row .u8 wr A0 n0 c0 f0) ∧ Hid (Ext [s] w wr) ∧ w5.heap.size ≤ wr.heap.size) (fun iv _ => (intOf iv).toNat)
  case atStart => exact ⟨K, B, d, idF, 0, fun _ => 0, k5, Nat.le_refl _, rfl, by omega, by omega, HVJ, HJ5, HO15, HO25, HO3, HS5, HT5, HR5, HX5, Nat.le_refl _⟩
  case round =>
    clear HVJ HJ5 HO15 HO25 HO3 HS5 HT5 HR5 HX5
    obtain ⟨j, B, d, f, m, g, k6, hj, rfl, hk0, hk6, HV, HJ, HO1, HO2, HO3, HS, HT, HR, HX, hwz⟩ := hrel
    by_cases hlt : 0 < j
    · go_wp2_with fail
      refine (pick_any1 wr s A0 n0 c0 f0 k6 (N : Int) HS.out HR.out HNE.out (by omega) (by omega) hn (by omega) (by omega)).mono ?_
      rintro e w7 ⟨va, k7, rfl, va0, va1, S7, q71, q72, x7⟩
      obtain ⟨a, ha⟩ : ∃ a : Nat, va = a := ⟨va.toNat, by omega⟩
      subst ha
      have hAs : ∀ q, (Value.slice A N c).ownBlock = some q → q ∉ [s] := fun q h => by have := (HO1.out.lt q h).1; simp; omega
      have hBs : ∀ q, (Value.slice B m d).ownBlock = some q → q ∉ [s] := fun q h => by have := (HO2.out.lt q h).1; simp; omega
      have hRs : ∀ b, blk A0 = some b → 0 < n0 → b ∉ [s] := fun b hb h0 => by have := HNE.out b hb h0; simpa using this
      have HS7 := Lib.hid S7
      have HR7 := Lib.hid (HR.out.ext x7 hRs)
      have HT7 := Lib.hid (HT.out.ext x7 (by simp; omega))
      have HJ7 := Lib.hid (HJ.out.ext x7 (by simpa using hps))
      have HX7 := Lib.hid (HX.out.trans x7)
      have HO17 := Lib.hid (owns_ext HO1.out x7 hAs)
      have HO27 := Lib.hid (owns_ext HO2.out x7 hBs)
      have hz7 := x7.size
      clear S7 x7 HS HR HT HJ HX HO1 HO2
      go_wp2_with fail
      refine (pick_any1 w7 s A0 n0 c0 f0 k7 (N : Int) HS7.out HR7.out HNE.out (by omega) (by omega) hn (by omega) (by omega)).mono ?_
      rintro e w8 ⟨vb, k8, rfl, vb0, vb1, S8, q81, q82, x8⟩
      obtain ⟨b, hb⟩ : ∃ b : Nat, vb = b := ⟨vb.toNat, by omega⟩
      subst hb
      have HS8 := Lib.hid S8
      have HR8 := Lib.hid (HR7.out.ext x8 hRs)
      have HT8 := Lib.hid (HT7.out.ext x8 (by simp; omega))
      have HJ8 := Lib.hid (HJ7.out.ext x8 (by simpa using hps))
      have HX8 := Lib.hid (HX7.out.trans x8)
      have HO18 := Lib.hid (owns_ext HO17.out x8 hAs)
      have HO28 := Lib.hid (owns_ext HO27.out x8 hBs)
      have hz8 := x8.size
      have haN : a < N := by omega
      have hbN : b < N := by omega
      obtain ⟨x, hx⟩ : ∃ x, upN f m a = x := ⟨_, rfl⟩
      obtain ⟨y, hy⟩ : ∃ y, upN f m b = y := ⟨_, rfl⟩
      obtain ⟨f1, m1, g1, hc⟩ : ∃ f1 m1 g1, JCase f m g x y f1 m1 g1 := by
        by_cases e : x = y
        · exact ⟨f, m, g, .inl ⟨e, rfl, rfl, rfl⟩⟩
        · exact ⟨_, _, _, .inr ⟨e, rfl, rfl, rfl⟩⟩
      have HV8 := Lib.hid (HV.out.jcase haN hbN hx hy hc).1
      have hCA := at_apart HJ8.out HO18.out (by decide)
      have hCB := at_apart HJ8.out HO28.out (by decide)
      have HJN := Lib.hid (spec_join w8 (w.heap.size + 1) (w2.heap.size + 1) p3 A N c f B m d g a b x y f1 m1 g1 HJ8.out HO18.out HO28.out HO3.out (by omega) (by omega) (by omega) hCA hCB HV.out haN hbN hx hy hc)
      clear S8 x8 HS7 HR7 HT7 HJ7 HX7 HO17 HO27 hx hy hc hCA hCB hAs hBs hRs HV
      go_wp2_with fail
      refine HJN.out.mono ?_
      rintro e w9 ⟨⟨v9, rfl⟩, B9, d9, p1, p2, p33, p4, b9⟩
      have HJ9 := Lib.hid p1
      have HO19 := Lib.hid p2
      have HO29 := Lib.hid p33
      have HO39 := Lib.hid p4
      have HS9 := Lib.hid (HS8.out.bel b9 (by omega))
      have HT9 := Lib.hid (HT8.out.below b9 (by omega))
      have HR9 := Lib.hid (HR8.out.ofb b9.size (fun h0 b e hb => b9.block b (by have := HBL.out h0 b e; omega)))
      have HX9 : Hid (Ext [s] w w9) := Lib.hid ⟨b9.os.trans HX8.out.os, b9.tape.trans HX8.out.tape, b9.output.trans HX8.out.output, Nat.le_trans HX8.out.size b9.size, fun k hk hx => (b9.block k (by omega)).trans (HX8.out.block k hk hx)⟩
      have hz9 := b9.size
      clear p1 p2 p33 p4 b9 HJN HS8 HR8 HT8 HJ8 HX8 HO18 HO28 HO3
      go_wp2
      go_roundw
      case rel => exact ⟨j - 1, B9, d9, f1, m1, g1, k8, by omega, by show Value.int _ _ = Value.int _ _; congr 1; omega, by omega, by omega, HV8, HJ9, HO19, HO29, HO39, HS9, HT9, HR9, HX9, by omega⟩
      case measure => simp [intOf]; omega
    · obtain rfl : j = 0 := by omega
      have hz : decide ((0 : Int) < ((0 : Nat) : Int)) = false := rfl
      have p0 : wr.cell? ⟨p3, 0, none⟩ = some (.slice A N c) := HJ.out.cellv (i := 0) rfl
      have p1 : wr.cell? ⟨p3, 1, none⟩ = some (.slice B m d) := HJ.out.cellv (i := 1) rfl
      have pz := HJ.out.lt
      have t0 : wr.cell? ⟨w.heap.size, 0, none⟩ = some (.slice none 0 0) := HT.out.cellv (i := 0) rfl
      have t1 : wr.cell? ⟨w.heap.size, 1, none⟩ = some (.slice none 0 0) := HT.out.cellv (i := 1) rfl
      have u0 := HT.out.frozen 0
      have u1 := HT.out.frozen 1
      have tz := HT.out.lt
      go_wp2
      have hNV := HV.out
      refine bodyPost_ret (v := .agg #[.slice A N c, .slice B m d]) (by simp [results, Try.results55, go_sem, t0, t1]) rfl ⟨⟨A, N, c, f, B, m, d, g, rfl, hNV, hN2, ?_, ?_⟩, ?_⟩
      · refine OwnRow.mono (base' := w.heap.size) (ownRow_any (owns_keep (owns_keep HO1.out (grown_set wr w.heap.size 0 (.slice A N c)) (fun b e1 e2 => by have := (HO1.out.lt b e1).1; simp at e2; omega)) (grown_set _ w.heap.size 1 (.slice B m d)) (fun b e1 e2 => by have := (HO1.out.lt b e1).1; simp at e2; omega)) (fun i hi => ?_)) (by omega)
        have := hNV.pars i hi
        exact WalkArith.wf_i64 (by omega)
      · refine OwnRow.mono (base' := w.heap.size) (ownRow_any (owns_keep (owns_keep HO2.out (grown_set wr w.heap.size 0 (.slice A N c)) (fun b e1 e2 => by have := (HO2.out.lt b e1).1; simp at e2; omega)) (grown_set _ w.heap.size 1 (.slice B m d)) (fun b e1 e2 => by have := (HO2.out.lt b e1).1; simp at e2; omega)) (fun i hi => ?_)) (by omega)
        have := hNV.logs i hi
        exact WalkArith.wf_i64 (by omega)
      · refine ⟨HX.out.os, HX.out.tape, HX.out.output, by have := HX.out.size; simpa [World.setCell] using this, fun k hk hx => ?_⟩
        rw [Below.heap_setCell _ _ _ _ (by simp; omega), Below.heap_setCell _ _ _ _ (by simp; omega)]
        exact HX.out.block k hk hx
/-- joined elements that the laws draw from bytes -/
theorem a2Joined_any (w : World) (A0 : Option Addr) (n0 c0 : Nat) (f0 : Nat → Int) (hr : Row .u8 w A0 n0 c0 f0) (hn : n0 ≤ 1000000) :
    Calls Try.prog 13 #[.slice A0 n0 c0] w (fun e w' => JDrw w e w' ∧ Below w.heap.size w w') := by
  have HBL := Lib.hid (row_blk hr)
  have HR := Lib.hid hr
  clear hr
  go_enter Try.func13, Try.ntmps13
  go_wp2_with fail
  refine (from_any _ A0 n0 c0).mono ?_
  rintro e w1 ⟨s, rfl, s0, S1, b1⟩
  have HS1 := Lib.hid S1
  have HT1 := Lib.hid ((At.new w #[.slice none 0 0, .slice none 0 0] 26).below b1 (by simp))
  have HL1 := Lib.hid (((Below.refl w.heap.size w).alloc (Nat.le_refl _) (.cells #[.slice none 0 0, .slice none 0 0] 26)).trans (b1.mono (by simp)))
  have zz : w.heap.size < s := by simp at s0; omega
  clear S1 b1 s0
  go_wp2_with fail
  refine (jdraw_any _ s A0 n0 c0 f0 HS1.out (HR.out.below HL1.out (Nat.le_refl _)) (fun b hb h0 => by have := HBL.out h0 b hb; omega) hn).mono ?_
  rintro e w2 ⟨⟨A, n, c, f, B, m, d, g, rfl, hV, h14, r1, r2⟩, x2⟩
  have HT2 := Lib.hid (HT1.out.ext x2 (by simp; omega))
  have HL2 := Lib.hid (HL1.out.trans ((x2.below (B := s) (by simp) (Nat.le_of_lt HS1.out.1)).mono (by omega)))
  have HR1 := Lib.hid r1
  have HR2 := Lib.hid r2
  have HV := Lib.hid hV
  have zt := HT2.out.lt
  have zw := HL1.out.size
  have hs1 : w.heap.size < w1.heap.size := Nat.lt_trans zz HS1.out.1
  clear hV r1 r2 x2
  have t0 := HT2.out.cellv (i := 0) rfl
  have t1 := HT2.out.cellv (i := 1) rfl
  have u0 := HT2.out.frozen 0
  have u1 := HT2.out.frozen 1
  go_wp2
  refine bodyPost_ret (v := .agg #[.slice A n c, .slice B m d]) (by simp [results, Try.results13, go_sem, t0, t1]) rfl ⟨⟨A, n, c, f, B, m, d, g, rfl, HV.out, h14, ?_, ?_⟩, (HL2.out.setCell (Nat.le_refl _) _).setCell (Nat.le_refl _) _⟩
  · exact ((HR1.out.setLow hs1 _ _).setLow hs1 _ _).mono zw
  · exact ((HR2.out.setLow hs1 _ _).setLow hs1 _ _).mono zw
end Go.Proofs.Ytneknajeecgnoaa.Base

namespace Go.Proofs.Ytneknajeecgnoaa.Base
open Go Go.RowKit
set_option linter.unusedVariables false
set_option linter.unusedSimpArgs false
/-- what a law finds in the lists of all groups -/
structure GrpN (n len : Nat) (N : Nat → Nat) (F : Nat → Nat → Int) : Prop where
  ne : ∀ i, i < len → 1 ≤ N i
  asc : ∀ i, i < len → ∀ k, 1 ≤ k → k < N i → F i (k - 1) < F i k
  hd : ∀ i j, i < j → j < len → F i 0 < F j 0
  bd : ∀ i, i < len → ∀ k, k < N i → 0 ≤ F i k ∧ F i k < (n : Int)
  sum : offs N len = n
theorem offs_sum : ∀ (L : List (List Int)), offs (fun i => (L.getD i []).length) L.length = (L.map List.length).sum := by
  intro L
  have key : ∀ (L : List (List Int)) (N : Nat → Nat), (∀ i, i < L.length → N i = (L.getD i []).length) → offs N L.length = (L.map List.length).sum := by
    intro L
    induction L with
    | nil => intro N _; rfl
    | cons a r ih =>
      intro N h
      have h0 := h 0 (by simp)
      have h1 := ih (fun i => N (i + 1)) (fun i hi => by have := h (i + 1) (by simpa using hi); simpa using this)
      have h2 : ∀ j, offs N (j + 1) = N 0 + offs (fun i => N (i + 1)) j := by
        intro j
        induction j with
        | zero => show 0 + N 0 = N 0 + 0; omega
        | succ j ih => show offs N (j + 1) + N (j + 1) = N 0 + (offs (fun i => N (i + 1)) j + N (j + 1)); omega
      simp only [List.length_cons, List.map_cons, List.sum_cons]
      rw [h2, h1]
      simp at h0
      omega
  exact key L _ (fun i _ => rfl)
theorem Grp.toN {n : Nat} {L : List (List Int)} (h : Grp n L) : GrpN n L.length (fun i => (L.getD i []).length) (fun i j => (L.getD i []).getD j 0) := by
  have hm : ∀ i, i < L.length → L.getD i [] ∈ L := fun i hi => by
    rw [List.getD_eq_getElem?_getD, List.getElem?_eq_getElem hi]
    exact List.getElem_mem hi
  refine ⟨fun i hi => ?_, fun i hi k k1 k2 => ?_, h.hd, fun i hi k hk => h.bd _ (hm i hi) _ (getD_mem _ hk), by rw [offs_sum]; exact h.sum⟩
  · have := h.ne _ (hm i hi)
    exact List.length_pos_iff.2 this
  · have h1 := h.asc _ (hm i hi)
    rw [List.pairwise_iff_getElem] at h1
    have hk2 : k < (L.getD i []).length := k2
    have hk3 : k - 1 < (L.getD i []).length := by omega
    have h2 := h1 (k - 1) k hk3 hk2 (by omega)
    show (L.getD i []).getD (k - 1) 0 < (L.getD i []).getD k 0
    generalize L.getD i [] = l at *
    rw [List.getD_eq_getElem?_getD, List.getD_eq_getElem?_getD, List.getElem?_eq_getElem hk3, List.getElem?_eq_getElem hk2]
    exact h2
def lastV (F : Nat → Nat → Int) (i : Nat) : Int := if i = 0 then -1 else F (i - 1) 0
theorem last_lt {n len : Nat} {N : Nat → Nat} {F : Nat → Nat → Int} (h : GrpN n len N F) {i : Nat} (hi : i < len) : lastV F i < F i 0 := by
  unfold lastV
  split
  · have := (h.bd i hi 0 (by have := h.ne i hi; omega)).1; omega
  · exact h.hd (i - 1) i (by omega) hi
section
variable (w : World) {A : Option Addr} {n c : Nat} {f : Nat → Int} {B : Option Addr} {m d : Nat} {g : Nat → Int}
theorem jl_count (hr : Row .i64 w A n c f) (hr' : Row .i64 w B m d g) (hv : VJ n f m g) : Calls Try.prog 16 #[.agg #[.slice A n c, .slice B m d]] w (Gives (.tuple #[.int .i64 ((n : Int) - m), .int .i64 0]) w) := by
  have h := impl_countGroups w A n c f B m d g hr hr'
  rw [(cg_yes (vj_mk hv)).1, (cg_yes (vj_mk hv)).2] at h
  exact h
theorem jl_valid (hr : Row .i64 w A n c f) (hr' : Row .i64 w B m d g) (hv : VJ n f m g) : Calls Try.prog 17 #[.agg #[.slice A n c, .slice B m d]] w (Gives (.bool true) w) := by
  have h := spec_validJoined w A n c f B m d g hr hr'
  rw [vj_mk hv] at h
  exact h
theorem jl_group (hr : Row .i64 w A n c f) (hr' : Row .i64 w B m d g) (hv : VJ n f m g) {k r : Nat} (hk : k < n) (he : upN f m k = r) : Calls Try.prog 18 #[.agg #[.slice A n c, .slice B m d], .int .i64 (k : Int)] w (Gives (.tuple #[.int .i64 (r : Int), .int .i64 0]) w) := by
  have hn := hv.n2
  have h := impl_groupOf w A n c f B m d g (k : Int) hr hr' (WalkArith.wf_i64 (by omega))
  have hi : inB (k : Int) 0 ((n : Int) - 1) = true := decide_eq_true ⟨by omega, by omega⟩
  have e1 : goC n f m g (inB (k : Int) 0 ((n : Int) - 1)) = 0 := by rw [hi]; exact goC_in (vj_mk hv)
  have e2 : goN n f m g (k : Int) = (r : Int) := by unfold goN; rw [if_pos e1, Int.toNat_natCast, he]
  rw [e1, e2] at h
  exact h
theorem jl_join (hr : Row .i64 w A n c f) (hr' : Row .i64 w B m d g) (hv : VJ n f m g) {a b x y : Nat} {f0 : Nat → Int} {m0 : Nat} {g0 : Nat → Int} (ha : a < n) (hb : b < n) (hx : upN f m a = x) (hy : upN f m b = y) (hc : JCase f m g x y f0 m0 g0) :
    Calls Try.prog 15 #[.agg #[.slice A n c, .slice B m d], .int .i64 (a : Int), .int .i64 (b : Int)] w (JnOut n f0 m0 g0 0 w) := by
  refine impl_jg_ok w A n c f B m d g a b x y f0 m0 g0 hr hr' ?_ hx hy hc
  have hi : inB (a : Int) 0 ((n : Int) - 1) = true := decide_eq_true ⟨by omega, by omega⟩
  have hi2 : inB (b : Int) 0 ((n : Int) - 1) = true := decide_eq_true ⟨by omega, by omega⟩
  unfold jgC
  rw [hi, hi2, goC_in (vj_mk hv), if_pos rfl]
theorem jl_groups (hr : Row .i64 w A n c f) (hr' : Row .i64 w B m d g) (hv : VJ n f m g) {len : Nat} {N : Nat → Nat} {F : Nat → Nat → Int} (h1 : (gs (upN f m) n).2.length = len) (h2 : (fun i => ((gs (upN f m) n).2.getD i []).length) = N) (h3 : (fun i j => ((gs (upN f m) n).2.getD i []).getD j 0) = F) :
    Calls Try.prog 19 #[.agg #[.slice A n c, .slice B m d]] w (LOut len N F 0 w) := by
  have hn := hv.n2
  refine (impl_groups_ok w A n c f B m d g (upN f m) (fun _ => rfl) hr hr' (vj_mk hv)).mono fun _ _ h => ?_
  have h4 := h.out (fun l hl x hx => by
    have := (gs_mem (rt := upN f m) n l hl).2 x hx
    exact WalkArith.wf_i64 (by omega))
  rw [h1, h2, h3] at h4
  exact h4
end
/-- what undoing a joining gives back -/
theorem undo_join {n m : Nat} {f g : Nat → Int} (hv : VJ n f m g) {a b x y m0 : Nat} {f0 g0 : Nat → Int} (ha : a < n) (hb : b < n) (hx : upN f m a = x) (hy : upN f m b = y) (hc : JCase f m g x y f0 m0 g0) (hne : x ≠ y) :
    ∃ z : Nat, g0 m = z ∧ (∀ i, i < n → putF f0 z z i = f i) ∧ ∀ i, i < m → g0 i = g i := by
  rcases hc with ⟨e, -⟩ | ⟨-, rfl, rfl, rfl⟩
  · exact absurd e hne
  · have hM : f (max x y) = ((max x y : Nat) : Int) := by
      rcases mm_cases x y with ⟨e1, -⟩ | ⟨e1, -⟩ <;> rw [e1]
      · rw [← hx]; exact up_stays hv ha
      · rw [← hy]; exact up_stays hv hb
    refine ⟨max x y, by unfold putF; rw [if_pos rfl], fun i hi => ?_, fun i hi => by unfold putF; rw [if_neg (by omega)]⟩
    by_cases e : i = max x y
    · subst e
      unfold putF
      rw [if_pos rfl, hM]
    · unfold putF
      rw [if_neg e, if_neg e]
theorem jl_len {n m : Nat} {f g : Nat → Int} (hv : VJ n f m g) : (gs (upN f m) n).2.length + m = n := by
  rw [gs_groups hv.fr (fun x hx => hv.rt hx)]
  exact hv.nRt
end Go.Proofs.Ytneknajeecgnoaa.Base
