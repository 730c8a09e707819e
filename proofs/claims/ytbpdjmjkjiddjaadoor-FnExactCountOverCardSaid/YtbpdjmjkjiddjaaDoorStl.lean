/-
  A region whose last operation waits for all others: the others in any order, then the last.
-/
import Derived.Test.YtbpdjmjkjiddjaaDoorStg
namespace Go.Proofs.YtbpdjmjkjiddjaaDoor.Base
open Go Go.RowKit
set_option linter.unusedVariables false
set_option linter.unusedSimpArgs false

/-- the operations that x waits for -/
def depsOf (x : Oper) : List Nat := (x.after.toList.filter fun e => Region.binds .any e).map (·.on)
theorem ready_iff {ops : Array Oper} {listed : Array Bool} {i : Nat} : i ∈ Region.ready .any ops listed ↔ ∃ x, ops[i]? = some x ∧ listed.getD i true = false ∧ ∀ j ∈ depsOf x, listed.getD j false = true := by
  unfold Region.ready
  simp only [List.mem_filter, List.mem_range, Bool.and_eq_true, Bool.not_eq_true']
  constructor
  · rintro ⟨h1, h2, h3⟩
    refine ⟨ops[i], Array.getElem?_eq_getElem h1, h2, fun j hj => ?_⟩
    rw [Array.getElem?_eq_getElem h1] at h3
    simp only [Option.map_some, Option.getD_some, Array.all_eq_true_iff_forall_mem] at h3
    unfold depsOf at hj
    obtain ⟨e, he, rfl⟩ := List.mem_map.1 hj
    obtain ⟨he1, he2⟩ := List.mem_filter.1 he
    have := h3 e (Array.mem_toList_iff.1 he1)
    rw [he2] at this
    simpa using this
  · rintro ⟨x, hx, h2, h3⟩
    refine ⟨(Array.getElem?_eq_some_iff.1 hx).1, h2, ?_⟩
    rw [hx]
    simp only [Option.map_some, Option.getD_some, Array.all_eq_true_iff_forall_mem]
    intro e he
    cases hb : Region.binds .any e
    · rfl
    · have := h3 e.on (List.mem_map.2 ⟨e, List.mem_filter.2 ⟨Array.mem_toList_iff.2 he, hb⟩, rfl⟩)
      rw [this]
      rfl
/-- what is listed is closed under waiting -/
def DC (l : List Oper) (listed : Array Bool) : Prop := ∀ (i : Nat) (x : Oper), l[i]? = some x → listed.getD i false = true → ∀ j ∈ depsOf x, listed.getD j false = true
def clos (l : List Oper) : Nat → List Nat → List Nat
  | 0, c => c
  | k + 1, c => clos l k (c ++ c.flatMap fun i => match l[i]? with | some x => depsOf x | none => [])
theorem clos_listed {l : List Oper} {listed : Array Bool} (hd : DC l listed) : ∀ (k : Nat) (c : List Nat), (∀ j ∈ c, listed.getD j false = true) → ∀ j ∈ clos l k c, listed.getD j false = true
  | 0, c, h => h
  | k + 1, c, h => clos_listed hd k _ (fun j hj => by
      rcases List.mem_append.1 hj with h1 | h1
      · exact h j h1
      · obtain ⟨i, hi, hj2⟩ := List.mem_flatMap.1 h1
        cases hx : l[i]? with
        | none => rw [hx] at hj2; cases hj2
        | some x => rw [hx] at hj2; exact hd i x hx (h i hi) j hj2)
/-- the check: no guards, every operation waits for earlier ones alone, the last for all, by way of others -/
def lastB (l : List Oper) (o : Oper) : Bool :=
  (l.all fun x => x.guard.isNone) && o.guard.isNone && ((List.range l.length).all fun i => match l[i]? with | some x => (depsOf x).all (· < i) | none => true) && ((depsOf o).all (· < l.length)) && ((List.range l.length).all fun i => (clos l 3 (depsOf o)).contains i)
def lastQ (P : Program) (o : Oper) (Q : Exit → Act → World → Prop) : Exit → Act → World → Prop
  | .normal, a, w => o.wp P a w (fun a w => Q .normal a w) Q
  | e, a, w => Q e a w
theorem wp_lastQ {P : Program} {o x : Oper} {Q : Exit → Act → World → Prop} {a : Act} {w : World} {K : Act → World → Prop} (h : x.wp P a w K (lastQ P o Q)) : x.wp P a w K Q := by
  unfold Oper.wp at *
  generalize (execOp a.eval x).run P w = r at *
  cases r with
  | ok n w' =>
    cases n <;> simp only [Oper.upon] at h ⊢ <;>
      first
        | exact h
        | exact Calls.mono h (fun e w'' he => by cases e <;> first | exact he | exact he)
        | exact Rows.mono h (fun _ _ he => he)
  | halt x w' => cases x <;> simp only [Oper.upon] at h ⊢ <;> exact h
theorem set_push {listed : Array Bool} {i : Nat} (hi : i < listed.size) : (listed.push false).setIfInBounds i true = (listed.setIfInBounds i true).push false := by
  refine Array.ext_getElem? (fun j => ?_)
  rw [Array.getElem?_setIfInBounds, Array.getElem?_push, Array.getElem?_push, Array.getElem?_setIfInBounds]
  simp only [Array.size_push, Array.size_setIfInBounds]
  by_cases e : i = j
  · subst e
    simp [hi, Nat.ne_of_lt hi, Nat.lt_succ_of_lt hi]
  · simp [e]
theorem push_getD {listed : Array Bool} {i : Nat} {d : Bool} (hi : i < listed.size) : (listed.push false).getD i d = listed.getD i d := by
  simp [Array.getD, hi, Nat.lt_succ_of_lt hi, Array.getElem_push]
theorem last_getD {listed : Array Bool} {i n : Nat} {d : Bool} (hi : i < listed.size) (hn : listed.size = n) : ((listed.push false).setIfInBounds n true).getD i d = listed.getD i d := by
  subst hn
  have hne : ¬ listed.size = i := by omega
  simp [Array.getD, hi, Nat.lt_succ_of_lt hi, Array.getElem_setIfInBounds, Array.getElem_push, hne]
section
variable {P : Program} {l : List Oper} {o : Oper} {Q : Exit → Act → World → Prop}
theorem all_listed (hB : lastB l o = true) {listed : Array Bool} (hsz : listed.size = l.length) (hr : Region.ready .any l.toArray listed = []) : ∀ j, j < l.length → listed.getD j false = true := by
  simp only [lastB, Bool.and_eq_true] at hB
  obtain ⟨⟨⟨⟨hg, ho⟩, hord⟩, hoL⟩, hcl⟩ := hB
  intro j
  induction j using Nat.strongRecOn with
  | ind j ih =>
    intro hj
    cases e : listed.getD j false with
    | true => rfl
    | false =>
      have hn : j ∉ Region.ready .any l.toArray listed := by rw [hr]; simp
      refine absurd ?_ hn
      rw [ready_iff]
      refine ⟨l[j], by simp [hj], by simpa [Array.getD, hsz, hj] using e, fun i hi => ?_⟩
      have h1 := List.all_eq_true.1 hord j (List.mem_range.2 hj)
      rw [List.getElem?_eq_getElem hj] at h1
      have hlt : i < j := by simpa using List.all_eq_true.1 h1 i hi
      exact ih i hlt (by omega)
theorem wpAnyS_last (hB : lastB l o = true) : ∀ (fuel : Nat) (listed : Array Bool) (a : Act) (w : World), listed.size = l.length → DC l listed →
    wpAnyS P .any l.toArray (lastQ P o Q) fuel listed a w → wpAnyS P .any (l ++ [o]).toArray Q (fuel + 1) (listed.push false) a w := by
  have hA := fun {listed : Array Bool} => all_listed (listed := listed) hB
  simp only [lastB, Bool.and_eq_true] at hB
  obtain ⟨⟨⟨⟨hg, ho⟩, hord⟩, hoL⟩, hcl⟩ := hB
  have ho : o.guard = none := by simpa using ho
  have hg : ∀ x ∈ l, x.guard = none := fun x hx => by simpa using List.all_eq_true.1 hg x hx
  have hoL : ∀ j ∈ depsOf o, j < l.length := fun j hj => by simpa using List.all_eq_true.1 hoL j hj
  have oL : (l ++ [o]).toArray[l.length]? = some o := by simp
  have oI : ∀ i, i < l.length → (l ++ [o]).toArray[i]? = l[i]? := fun i hi => by simp [List.getElem?_append_left hi]
  -- the last operation's turn: all others are listed
  have hlast : ∀ (listed : Array Bool), listed.size = l.length → DC l listed → l.length ∈ Region.ready .any (l ++ [o]).toArray (listed.push false) → ∀ j, j < l.length → listed.getD j false = true := by
    intro listed hsz hdc hi j hj
    obtain ⟨x, hx, -, h3⟩ := ready_iff.1 hi
    rw [oL] at hx
    cases hx
    have := List.all_eq_true.1 hcl j (List.mem_range.2 hj)
    exact clos_listed hdc _ _ (fun i hi => by rw [← push_getD (by rw [hsz]; exact hoL i hi)]; exact h3 i hi) j (by simpa using this)
  have hready : ∀ (listed : Array Bool), listed.size = l.length → (∀ j, j < l.length → listed.getD j false = true) → l.length ∈ Region.ready .any (l ++ [o]).toArray (listed.push false) := by
    intro listed hsz hall
    refine ready_iff.2 ⟨o, oL, by simp [Array.getD, hsz, Array.getElem_push], fun j hj => ?_⟩
    rw [push_getD (by rw [hsz]; exact hoL j hj)]
    exact hall j (hoL j hj)
  have hsub : ∀ (listed : Array Bool) (i : Nat), listed.size = l.length → i < l.length → (i ∈ Region.ready .any (l ++ [o]).toArray (listed.push false) ↔ i ∈ Region.ready .any l.toArray listed) := by
    intro listed i hsz hi
    have hdl : ∀ x, l[i]? = some x → ∀ j ∈ depsOf x, j < l.length := fun x hx j hj => by
      have h1 := List.all_eq_true.1 hord i (List.mem_range.2 hi)
      rw [hx] at h1
      have : j < i := by simpa using List.all_eq_true.1 h1 j hj
      omega
    rw [ready_iff, ready_iff]
    constructor
    · rintro ⟨x, h1, h2, h3⟩
      rw [oI i hi] at h1
      exact ⟨x, by simpa using h1, by rwa [push_getD (by omega)] at h2, fun j hj => by rw [← push_getD (by rw [hsz]; exact hdl x h1 j hj)]; exact h3 j hj⟩
    · rintro ⟨x, h1, h2, h3⟩
      have h1' : l[i]? = some x := by simpa using h1
      exact ⟨x, (oI i hi).trans h1', by rwa [push_getD (by omega)], fun j hj => by rw [push_getD (by rw [hsz]; exact hdl x h1' j hj)]; exact h3 j hj⟩
  have hfin : ∀ (fuel : Nat) (listed : Array Bool) (a : Act) (w : World), listed.size = l.length → (∀ j, j < l.length → listed.getD j false = true) → Q .normal a w → wpAnyS P .any (l ++ [o]).toArray Q fuel ((listed.push false).setIfInBounds l.length true) a w := by
    intro fuel listed a w hsz hall hQ
    have hr : Region.ready .any (l ++ [o]).toArray ((listed.push false).setIfInBounds l.length true) = [] := by
      refine List.eq_nil_iff_forall_not_mem.2 fun i hi => ?_
      obtain ⟨x, h1, h2, -⟩ := ready_iff.1 hi
      have hlt := (Array.getElem?_eq_some_iff.1 h1).1
      simp at hlt
      rcases Nat.lt_or_ge i l.length with h | h
      · have h5 := hall i h
        rw [last_getD (by omega) hsz] at h2
        simp [Array.getD, hsz, h] at h2 h5
        rw [h2] at h5
        cases h5
      · obtain rfl : i = l.length := by omega
        simp [Array.getD, hsz, Array.getElem_setIfInBounds] at h2
    cases fuel with
    | zero => exact ⟨hr, hQ⟩
    | succ k => exact ⟨fun _ => hQ, fun i hi => by rw [hr] at hi; cases hi⟩
  have hgo : ∀ (fuel : Nat) (listed : Array Bool) (a : Act) (w : World), listed.size = l.length → (∀ j, j < l.length → listed.getD j false = true) → lastQ P o Q .normal a w → wpOpS P (l ++ [o]).toArray Q l.length (wpAnyS P .any (l ++ [o]).toArray Q fuel ((listed.push false).setIfInBounds l.length true)) a w := by
    intro fuel listed a w hsz hall hq
    unfold wpOpS
    rw [oL]
    simp only [Region.wanted, ho, if_true]
    exact Oper.wp_mono (fun a w h => hfin fuel listed a w hsz hall h) hq
  intro fuel
  induction fuel with
  | zero =>
    rintro listed a w hsz hdc ⟨hr, hq⟩
    have hall := hA hsz hr
    refine ⟨fun h => absurd (hready listed hsz hall) (by rw [h]; simp), fun i hi => ?_⟩
    rcases Nat.lt_or_ge i l.length with h | h
    · have := (hsub listed i hsz h).1 hi
      rw [hr] at this
      cases this
    · have hlt : i < (l ++ [o]).toArray.size := by obtain ⟨x, h1, -⟩ := ready_iff.1 hi; exact (Array.getElem?_eq_some_iff.1 h1).1
      simp at hlt
      obtain rfl : i = l.length := by omega
      exact hgo 0 listed a w hsz hall hq
  | succ fuel ih =>
    rintro listed a w hsz hdc ⟨hr, hop⟩
    refine ⟨fun h => ?_, fun i hi => ?_⟩
    · have hrl : Region.ready .any l.toArray listed = [] := List.eq_nil_iff_forall_not_mem.2 fun i hi => by
        have hlt : i < l.length := by obtain ⟨x, h1, -⟩ := ready_iff.1 hi; have := (Array.getElem?_eq_some_iff.1 h1).1; simpa using this
        have := (hsub listed i hsz hlt).2 hi
        rw [h] at this
        cases this
      exact absurd (hready listed hsz (hA hsz hrl)) (by rw [h]; simp)
    · rcases Nat.lt_or_ge i l.length with h | h
      · have hil := (hsub listed i hsz h).1 hi
        have h1 := hop i hil
        obtain ⟨x, hx, h2, h3⟩ := ready_iff.1 hil
        have hx' : l[i]? = some x := by simpa using hx
        have hgx := hg x (List.mem_of_getElem? hx')
        unfold wpOpS at h1 ⊢
        rw [hx] at h1
        rw [oI i h, hx']
        simp only [Region.wanted, hgx, if_true] at h1 ⊢
        refine Oper.wp_mono (fun a w hw => ?_) (wp_lastQ h1)
        rw [set_push (by omega)]
        refine ih _ a w (by simpa using hsz) (fun i' x' hx2 hl2 j hj => ?_) hw
        have hset : ∀ q, listed.getD q false = true → (listed.setIfInBounds i true).getD q false = true := fun q hq => by
          have hqz : q < listed.size := by
            rcases Nat.lt_or_ge q listed.size with h | h
            · exact h
            · simp [Array.getD, Nat.not_lt.2 h] at hq
          simp [Array.getD, hqz, Array.getElem_setIfInBounds] at hq ⊢
          exact .inr hq
        by_cases e : i' = i
        · subst e
          rw [hx'] at hx2
          cases hx2
          exact hset j (h3 j hj)
        · refine hset j (hdc i' x' hx2 ?_ j hj)
          have hqz : i' < listed.size := by rw [hsz]; exact (List.getElem?_eq_some_iff.1 hx2).1
          simp [Array.getD, hqz, Array.getElem_setIfInBounds] at hl2 ⊢
          rcases hl2 with h | h
          · exact absurd h.symm e
          · exact h
      · have hlt : i < (l ++ [o]).toArray.size := by obtain ⟨x, h1, -⟩ := ready_iff.1 hi; exact (Array.getElem?_eq_some_iff.1 h1).1
        simp at hlt
        obtain rfl : i = l.length := by omega
        have hall := hlast listed hsz hdc hi
        have hrl : Region.ready .any l.toArray listed = [] := List.eq_nil_iff_forall_not_mem.2 fun i hi => by
          obtain ⟨x, h1, h2, -⟩ := ready_iff.1 hi
          have hlt : i < l.length := by have := (Array.getElem?_eq_some_iff.1 h1).1; simpa using this
          have h5 := hall i hlt
          simp [Array.getD, hsz, hlt] at h2 h5
          rw [h2] at h5
          cases h5
        exact hgo (fuel + 1) listed a w hsz hall (hr hrl)
/-- THE RULE: all but the last as in wpIn_region_stab, then the last -/
theorem wpIn_region_stab_last {l' : Nat} {nF : Nat} {id : Nat} {a0 : Act} {w0 : World} (dl : List (Option Nat)) (ds X : List Nat) (Bx : List (Nat × Nat)) (Φ : List Fact) (As Ds : List (List Nat)) (hd : ∀ x ∈ l ++ [o], ∀ c, x.op ≠ .defer c) (hm : P.follows .mixedOrders = true) (hB : stabB l dl ds Bx As Ds = true) (hL : lastB l o = true) (hX : ∀ k ∈ X, k < w0.drew.heap.size)
    (hst : StableAll w0.drew.heap.size X Φ) (hop : OblAll P l (lastQ P o Q) a0 dl ds X Bx Φ Ds w0.drew 0 l As)
    (hend : ∀ (vs : Nat → Value) (iv : Nat → Nat × Nat) (w : World), Ext X w0.drew w → Apart Bx iv l.length → AllFacts Φ Bx Ds w0.drew.heap.size vs iv w 0 dl → o.wp P (setA a0 ds vs) w (fun a w => Q .normal a w) Q) :
    (Code.region id (l ++ [o]).toArray true).wpIn (Fence.wide.inRound l') nF P Q a0 w0 := by
  refine wpIn_region_any hm ?_
  refine wpAnyS_in hd _ _ _ _ ?_
  have hno : ∀ j, (Array.replicate l.toArray.size false).getD j false = false := fun j => by simp [Array.getD]
  have h := wpAnyS_stab hB hX hst hop hend l.toArray.size (Array.replicate l.toArray.size false) (fun d => a0.tmps.getD d undef) (fun _ => (0, 0)) w0.drew (by simp)
    ⟨by simp, fun j oj hj => (by rw [hno] at hj; cases hj), fun j oj hj => (by rw [hno] at hj; cases hj), fun j hj => (by rw [hno] at hj; cases hj), fun i j hi => (by rw [hno] at hi; cases hi), Ext.refl _ _⟩
  rw [setA_self] at h
  have h2 := wpAnyS_last hL _ _ _ _ (by simp) (fun i x hx hl j hj => by rw [hno] at hl; cases hl) h
  have e1 : (Array.replicate l.toArray.size false).push false = Array.replicate (l ++ [o]).toArray.size false := by
    refine Array.ext_getElem? (fun j => ?_)
    rw [Array.getElem?_push]
    simp only [List.size_toArray, List.length_append, List.length_cons, List.length_nil, Array.getElem?_replicate, Array.size_replicate]
    by_cases e : j = l.length
    · simp [e]
    · rw [if_neg e]
      by_cases f : j < l.length
      · rw [if_pos f, if_pos (by omega)]
      · rw [if_neg f, if_neg (by omega)]
  rw [e1] at h2
  simpa using h2
end
theorem allFacts_get {Φ : List Fact} {Ds : List (List Nat)} {B : Nat} {vs : Nat → Value} {iv : Nat → Nat × Nat} {w : World} : ∀ {dl : List (Option Nat)} {i0 : Nat}, AllFacts Φ [] Ds B vs iv w i0 dl → ∀ (j : Nat) (d : Option Nat), dl[j]? = some d →
    (Φ.getD (i0 + j) noFact) ((Ds.getD (i0 + j) []).map vs) (ivOf [] iv (i0 + j)).1 (ivOf [] iv (i0 + j)).2 (dval vs d) w ∧ IvIn B w (ivOf [] iv (i0 + j))
  | [], i0, h, j, d, hd => by simp at hd
  | d' :: dl, i0, ⟨h1, h2⟩, 0, d, hd => by
    simp only [List.getElem?_cons_zero, Option.some.injEq] at hd
    subst hd
    simpa using h1
  | d' :: dl, i0, ⟨h1, h2⟩, j + 1, d, hd => by
    have := allFacts_get h2 j d (by simpa using hd)
    rw [show i0 + (j + 1) = i0 + 1 + j by omega]
    exact this
theorem stab_last6 {P : Program} {x0 x1 x2 x3 x4 o : Oper} {Q : Exit → Act → World → Prop} {l' : Nat} {nF : Nat} {id : Nat} {a0 : Act} {w0 : World} (dl : List (Option Nat)) (ds X : List Nat) (Bx : List (Nat × Nat)) (Φ : List Fact) (As Ds : List (List Nat)) (hd : ∀ x ∈ [x0, x1, x2, x3, x4] ++ [o], ∀ c, x.op ≠ .defer c) (hm : P.follows .mixedOrders = true) (hB : stabB [x0, x1, x2, x3, x4] dl ds Bx As Ds = true) (hL : lastB [x0, x1, x2, x3, x4] o = true) (hX : ∀ k ∈ X, k < w0.drew.heap.size)
    (hst : StableAll w0.drew.heap.size X Φ) (hop : OblAll P [x0, x1, x2, x3, x4] (lastQ P o Q) a0 dl ds X Bx Φ Ds w0.drew 0 [x0, x1, x2, x3, x4] As)
    (hend : ∀ (vs : Nat → Value) (iv : Nat → Nat × Nat) (w : World), Ext X w0.drew w → Apart Bx iv 5 → AllFacts Φ Bx Ds w0.drew.heap.size vs iv w 0 dl → o.wp P (setA a0 ds vs) w (fun a w => Q .normal a w) Q) :
    (Code.region id #[x0, x1, x2, x3, x4, o] true).wpIn (Fence.wide.inRound l') nF P Q a0 w0 := wpIn_region_stab_last (l := [x0, x1, x2, x3, x4]) dl ds X Bx Φ As Ds hd hm hB hL hX hst hop hend
theorem stab_last10 {P : Program} {x0 x1 x2 x3 x4 x5 x6 x7 x8 o : Oper} {Q : Exit → Act → World → Prop} {l' : Nat} {nF : Nat} {id : Nat} {a0 : Act} {w0 : World} (dl : List (Option Nat)) (ds X : List Nat) (Bx : List (Nat × Nat)) (Φ : List Fact) (As Ds : List (List Nat)) (hd : ∀ x ∈ [x0, x1, x2, x3, x4, x5, x6, x7, x8] ++ [o], ∀ c, x.op ≠ .defer c) (hm : P.follows .mixedOrders = true) (hB : stabB [x0, x1, x2, x3, x4, x5, x6, x7, x8] dl ds Bx As Ds = true) (hL : lastB [x0, x1, x2, x3, x4, x5, x6, x7, x8] o = true) (hX : ∀ k ∈ X, k < w0.drew.heap.size)
    (hst : StableAll w0.drew.heap.size X Φ) (hop : OblAll P [x0, x1, x2, x3, x4, x5, x6, x7, x8] (lastQ P o Q) a0 dl ds X Bx Φ Ds w0.drew 0 [x0, x1, x2, x3, x4, x5, x6, x7, x8] As)
    (hend : ∀ (vs : Nat → Value) (iv : Nat → Nat × Nat) (w : World), Ext X w0.drew w → Apart Bx iv 9 → AllFacts Φ Bx Ds w0.drew.heap.size vs iv w 0 dl → o.wp P (setA a0 ds vs) w (fun a w => Q .normal a w) Q) :
    (Code.region id #[x0, x1, x2, x3, x4, x5, x6, x7, x8, o] true).wpIn (Fence.wide.inRound l') nF P Q a0 w0 := wpIn_region_stab_last (l := [x0, x1, x2, x3, x4, x5, x6, x7, x8]) dl ds X Bx Φ As Ds hd hm hB hL hX hst hop hend
/-- a goal that no tactic looks into -/
structure Shut (p : Prop) : Prop where
  out : p
theorem stab_last10h {P : Program} {x0 x1 x2 x3 x4 x5 x6 x7 x8 o : Oper} {Q : Exit → Act → World → Prop} {l' : Nat} {nF : Nat} {id : Nat} {a0 : Act} {w0 : World} (dl : List (Option Nat)) (ds X : List Nat) (Bx : List (Nat × Nat)) (Φ : List Fact) (As Ds : List (List Nat)) (hd : ∀ x ∈ [x0, x1, x2, x3, x4, x5, x6, x7, x8] ++ [o], ∀ c, x.op ≠ .defer c) (hm : P.follows .mixedOrders = true) (hB : stabB [x0, x1, x2, x3, x4, x5, x6, x7, x8] dl ds Bx As Ds = true) (hL : lastB [x0, x1, x2, x3, x4, x5, x6, x7, x8] o = true) (hX : ∀ k ∈ X, k < w0.drew.heap.size)
    (hst : StableAll w0.drew.heap.size X Φ) (hop : OblAll P [x0, x1, x2, x3, x4, x5, x6, x7, x8] (lastQ P o Q) a0 dl ds X Bx Φ Ds w0.drew 0 [x0, x1, x2, x3, x4, x5, x6, x7, x8] As)
    (hend : ∀ (vs : Nat → Value) (iv : Nat → Nat × Nat) (w : World), Ext X w0.drew w → Apart Bx iv 9 → AllFacts Φ Bx Ds w0.drew.heap.size vs iv w 0 dl → Shut (o.wp P (setA a0 ds vs) w (fun a w => Q .normal a w) Q)) :
    (Code.region id #[x0, x1, x2, x3, x4, x5, x6, x7, x8, o] true).wpIn (Fence.wide.inRound l') nF P Q a0 w0 := wpIn_region_stab_last (l := [x0, x1, x2, x3, x4, x5, x6, x7, x8]) dl ds X Bx Φ As Ds hd hm hB hL hX hst hop (fun vs iv w h1 h2 h3 => (hend vs iv w h1 h2 h3).out)
end Go.Proofs.YtbpdjmjkjiddjaaDoor.Base
