/-
  A region that draws its order: each operation leaves a fact on its own value and on the world that nothing else in the region undoes; the facts together are what stands behind the region, in whatever order.
-/
import Derived.Orders
import Derived.Deep.RegionHeld
import Derived.Below
import Derived.Laws.AppendOwn
import Derived.Lib.Hide
import Derived.WalkKit
import Derived.Deep.QuietTactic
import Derived.Deep.Draws
namespace Go.Proofs.YtbpdjmjkjiddjaaDoor.Base
open Go.RowKit
set_option linter.unusedVariables false

/-- nothing that stood has changed, but for the blocks of X -/
structure Ext (X : List Nat) (w w' : World) : Prop where
  os : w'.os = w.os
  tape : w'.tape = w.tape
  output : w'.output = w.output
  size : w.heap.size ≤ w'.heap.size
  block : ∀ k, k < w.heap.size → k ∉ X → w'.heap[k]? = w.heap[k]?
section
variable {X : List Nat} {a b c w w' : World}
theorem Ext.refl (X : List Nat) (w : World) : Ext X w w := ⟨rfl, rfl, rfl, Nat.le_refl _, fun _ _ _ => rfl⟩
theorem Ext.trans (h : Ext X a b) (k : Ext X b c) : Ext X a c :=
  ⟨k.os.trans h.os, k.tape.trans h.tape, k.output.trans h.output, Nat.le_trans h.size k.size, fun i hi hx => (k.block i (Nat.lt_of_lt_of_le hi h.size) hx).trans (h.block i hi hx)⟩
theorem Ext.of_below (h : Below a.heap.size a b) : Ext X a b := ⟨h.os, h.tape, h.output, h.size, fun k hk _ => h.block k hk⟩
theorem Ext.drew (w : World) : Ext X w w.drew := .of_below (Below.refl _ _).drew
theorem Ext.drewN (w : World) (n : Nat) : Ext X w (w.drewN n) := ⟨rfl, rfl, rfl, Nat.le_refl _, fun _ _ _ => rfl⟩
theorem Ext.alloc (w : World) (o : Obj) : Ext X w (w.alloc o) := .of_below ((Below.refl _ _).alloc (Nat.le_refl _) o)
theorem Ext.set (w : World) (p : Addr) (v : Value) (hp : p.block ∈ X) : Ext X w (w.setCell p v) :=
  ⟨rfl, rfl, rfl, by simp [World.setCell], fun k hk hx => Below.heap_setCell w p v k (fun e => hx (e ▸ hp))⟩
theorem Ext.below (h : Ext X a b) {B : Nat} (hX : ∀ k ∈ X, B ≤ k) (hB : B ≤ a.heap.size) : Below B a b :=
  ⟨h.os, h.tape, h.output, h.size, fun k hk => h.block k (Nat.lt_of_lt_of_le hk hB) (fun e => by have := hX k e; omega)⟩
theorem Ext.nil (h : Ext [] a b) : Below a.heap.size a b := h.below (fun _ h => by cases h) (Nat.le_refl _)
theorem Ext.heap (h : Ext X a b) {k : Nat} (hk : k < a.heap.size) (hx : k ∉ X) : b.heap[k]? = a.heap[k]? := h.block k hk hx
theorem Ext.cell (h : Ext X a b) {p : Addr} {v : Value} (hc : a.cell? p = some v) (hx : p.block ∉ X) : b.cell? p = some v :=
  (World.cell?_of_block (a := p) (h.block p.block (World.block_lt_of_cell? _ _ hc) hx)).trans hc
theorem Ext.frozen (h : Ext X a b) {p : Addr} (hp : p.block < a.heap.size) (hx : p.block ∉ X) : b.frozen? p = a.frozen? p :=
  World.frozen?_of_block (a := p) (h.block p.block hp hx)
end

/-! The frame: some temporaries hold other values. -/
def setT : List Nat → (Nat → Value) → Array Value → Array Value
  | [], _, t => t
  | d :: ds, vs, t => setT ds vs (t.setIfInBounds d (vs d))
def setA (a : Act) (ds : List Nat) (vs : Nat → Value) : Act := { a with tmps := setT ds vs a.tmps }
def updV (vs : Nat → Value) (d : Nat) (v : Value) : Nat → Value := fun k => if k = d then v else vs k
theorem setT_get (ds : List Nat) (vs : Nat → Value) : ∀ (t : Array Value) (k : Nat), (setT ds vs t)[k]? = if k ∈ ds ∧ k < t.size then some (vs k) else t[k]? := by
  induction ds with
  | nil => intro t k; simp [setT]
  | cons d ds ih =>
    intro t k
    simp only [setT, ih, Array.size_setIfInBounds, List.mem_cons]
    by_cases h1 : k ∈ ds
    · by_cases h2 : k < t.size
      · simp [h1, h2]
      · rw [if_neg (by omega), if_neg (by omega), Array.getElem?_eq_none (by simpa using h2), Array.getElem?_eq_none (by omega)]
    · simp only [h1, false_and, if_false, or_false]
      by_cases h2 : k = d
      · subst h2
        rw [Array.getElem?_setIfInBounds_self]
        by_cases h3 : k < t.size
        · simp [h3]
        · simp [h3]
      · rw [Array.getElem?_setIfInBounds_ne (fun e => h2 e.symm)]
        simp [h2]
theorem setT_put {ds : List Nat} {vs : Nat → Value} {t : Array Value} {d : Nat} {v : Value} (hd : d ∈ ds) : (setT ds vs t).setIfInBounds d v = setT ds (updV vs d v) t := by
  apply Array.ext_getElem?
  intro k
  have hs : (setT ds vs t).size = t.size := by
    have h1 := setT_get ds vs t
    rcases Nat.lt_trichotomy (setT ds vs t).size t.size with h | h | h
    · have h2 := h1 (setT ds vs t).size
      rw [Array.getElem?_eq_none (Nat.le_refl _)] at h2
      split at h2
      · cases h2
      · rw [Array.getElem?_eq_getElem h] at h2; cases h2
    · exact h
    · have h2 := h1 t.size
      rw [if_neg (by omega), Array.getElem?_eq_none (Nat.le_refl _), Array.getElem?_eq_getElem h] at h2
      cases h2
  rw [setT_get]
  by_cases hk : k = d
  · subst hk
    rw [Array.getElem?_setIfInBounds_self, hs]
    by_cases h : k < t.size
    · simp [h, hd, updV]
    · simp [h]
  · rw [Array.getElem?_setIfInBounds_ne (fun e => hk e.symm), setT_get]
    simp [updV, hk]
theorem setA_put {a : Act} {ds : List Nat} {vs : Nat → Value} {d : Nat} {v : Value} (hd : d ∈ ds) : (setA a ds vs).put (some d) v = setA a ds (updV vs d v) := by
  simp only [setA, Act.put, setT_put hd]
theorem setA_self (a : Act) (ds : List Nat) : setA a ds (fun d => a.tmps.getD d undef) = a := by
  have h : setT ds (fun d => a.tmps.getD d undef) a.tmps = a.tmps := by
    apply Array.ext_getElem?
    intro k
    rw [setT_get]
    split
    · rename_i h
      simp [Array.getD, h.2]
    · rfl
  unfold setA
  rw [h]

/-! The checks. -/
/-- a fact of one operation: the values of those before it, the blocks that it made (from lo on, below hi), its value, the world -/
abbrev Fact := List Value → Nat → Nat → Value → World → Prop
def noFact : Fact := fun _ _ _ _ _ => True
def valOf (o : Oper) (vs : Nat → Value) : Value := match o.dst with | some d => vs d | none => undef
def dval (vs : Nat → Value) : Option Nat → Value
  | some d => vs d
  | none => undef
theorem valOf_dval (o : Oper) (vs : Nat → Value) : valOf o vs = dval vs o.dst := by unfold valOf dval; cases o.dst <;> rfl
def dstVal (o : Oper) (v : Value) : Value := match o.dst with | some _ => v | none => undef
def dstsIn (ds : List Nat) (l : List Oper) : Bool := l.all fun o => match o.dst with | some d => ds.contains d | none => true
def dstsApart : List Oper → Bool
  | [] => true
  | o :: l => (l.all fun o' => match o.dst, o'.dst with | some d, some d' => d != d' | _, _ => true) && dstsApart l
def isAfter (l : List Oper) (s j : Nat) : Bool := match l[s]? with | some o => o.after.any fun e => Region.binds .any e && e.on == j | none => false
/-- Bx: pairs (store, alloc): the store fills the box that the alloc made -/
def ancChk (l : List Oper) (seen : List Nat) : List Nat → Bool
  | [] => true
  | j :: js => seen.any (fun s => isAfter l s j) && ancChk l (j :: seen) js
def ancAll (l : List Oper) (Bx : List (Nat × Nat)) : Nat → List (List Nat) → Bool
  | _, [] => true
  | i, js :: rest => ancChk l [i] js && js.all (fun j => Bx.all fun b => b.2 != j || b.1 == i || isAfter l b.1 i) && ancAll l Bx (i + 1) rest
def textB : Nat → List Oper → Bool
  | _, [] => true
  | i, o :: l => (o.after.all fun e => !Region.binds .any e || decide (e.on < i)) && textB (i + 1) l
def boxB (l : List Oper) : List (Nat × Nat) → Bool
  | [] => true
  | b :: bs => isAfter l b.1 b.2 && decide (b.1 < l.length) && decide (b.2 < l.length) && bs.all (fun c => c.1 != b.1 && c.2 != b.2) && boxB l bs
def boxSep (Bx : List (Nat × Nat)) : Bool := Bx.all fun b => Bx.all fun c => b.1 != c.2
/-- the temporaries that a fact names are those of operations before it -/
def argsB (dl : List (Option Nat)) : List (List Nat) → List (List Nat) → Bool
  | _, [] => true
  | [], ds :: Ds => ds.isEmpty && argsB dl [] Ds
  | js :: As, ds :: Ds => ds.all (fun d => js.any fun j => dl.getD j none == some d) && argsB dl As Ds
def stabB (l : List Oper) (dl : List (Option Nat)) (ds : List Nat) (Bx : List (Nat × Nat)) (As Ds : List (List Nat)) : Bool :=
  dstsIn ds l && dstsApart l && ancAll l Bx 0 As && textB 0 l && boxB l Bx && boxSep Bx && argsB dl As Ds && (l.map (·.dst) == dl)

theorem dstsIn_spec {ds : List Nat} {l : List Oper} (h : dstsIn ds l = true) {i : Nat} {o : Oper} (hi : l[i]? = some o) {d : Nat} (hd : o.dst = some d) : d ∈ ds := by
  have := List.all_eq_true.1 h o (List.mem_of_getElem? hi)
  simpa [hd] using this
theorem dstsApart_spec {l : List Oper} (h : dstsApart l = true) : ∀ {i j : Nat} {o o' : Oper} {d : Nat}, i < j → l[i]? = some o → l[j]? = some o' → o.dst = some d → o'.dst = some d → False := by
  induction l with
  | nil => intro i j o o' d _ hi; simp at hi
  | cons x l ih =>
    intro i j o o' d hij hi hj hd hd'
    simp only [dstsApart, Bool.and_eq_true] at h
    cases i with
    | zero =>
      obtain ⟨j, rfl⟩ : ∃ m, j = m + 1 := ⟨j - 1, by omega⟩
      simp only [List.getElem?_cons_zero, Option.some.injEq] at hi
      subst hi
      simp only [List.getElem?_cons_succ] at hj
      have := List.all_eq_true.1 h.1 o' (List.mem_of_getElem? hj)
      simp [hd, hd'] at this
    | succ i =>
      obtain ⟨j, rfl⟩ : ∃ m, j = m + 1 := ⟨j - 1, by omega⟩
      simp only [List.getElem?_cons_succ] at hi hj
      exact ih h.2 (Nat.lt_of_succ_lt_succ hij) hi hj hd hd'
theorem dst_ne {l : List Oper} (h : dstsApart l = true) {i j : Nat} {o o' : Oper} {d : Nat} (hij : i ≠ j) (hi : l[i]? = some o) (hj : l[j]? = some o') (hd : o.dst = some d) : o'.dst ≠ some d := fun hd' => by
  rcases Nat.lt_or_gt_of_ne hij with h' | h'
  · exact dstsApart_spec h h' hi hj hd hd'
  · exact dstsApart_spec h h' hj hi hd' hd
theorem textB_spec {l : List Oper} : ∀ {k : Nat}, textB k l = true → ∀ {i : Nat} {o : Oper}, l[i]? = some o → ∀ e ∈ o.after, Region.binds .any e = true → e.on < k + i := by
  induction l with
  | nil => intro k _ i o hi; simp at hi
  | cons x l ih =>
    intro k h i o hi e he hb
    simp only [textB, Bool.and_eq_true] at h
    cases i with
    | zero =>
      simp only [List.getElem?_cons_zero, Option.some.injEq] at hi
      subst hi
      have := Array.all_eq_true_iff_forall_mem.1 h.1 e he
      simp [hb] at this
      omega
    | succ i =>
      simp only [List.getElem?_cons_succ] at hi
      have := ih h.2 hi e he hb
      omega
theorem boxB_spec {l : List Oper} : ∀ {Bx : List (Nat × Nat)}, boxB l Bx = true → (∀ b ∈ Bx, isAfter l b.1 b.2 = true ∧ b.1 < l.length ∧ b.2 < l.length) ∧ (∀ b ∈ Bx, ∀ c ∈ Bx, b.1 = c.1 ∨ b.2 = c.2 → b = c)
  | [], _ => ⟨fun _ h => absurd h List.not_mem_nil, fun _ h => absurd h List.not_mem_nil⟩
  | b :: bs, h => by
    simp only [boxB, Bool.and_eq_true, List.all_eq_true, bne_iff_ne, decide_eq_true_eq] at h
    obtain ⟨⟨⟨⟨h1, h2⟩, h3⟩, h4⟩, h5⟩ := h
    obtain ⟨i1, i2⟩ := boxB_spec h5
    refine ⟨fun c hc => ?_, fun c hc d hd hcd => ?_⟩
    · rcases List.mem_cons.1 hc with rfl | hc
      · exact ⟨h1, h2, h3⟩
      · exact i1 c hc
    · rcases List.mem_cons.1 hc with e1 | hc'
      · rcases List.mem_cons.1 hd with e2 | hd'
        · rw [e1, e2]
        · rw [e1] at hcd
          rcases hcd with e | e
          · exact absurd e.symm (h4 d hd').1
          · exact absurd e.symm (h4 d hd').2
      · rcases List.mem_cons.1 hd with e2 | hd'
        · rw [e2] at hcd
          rcases hcd with e | e
          · exact absurd e (h4 c hc').1
          · exact absurd e (h4 c hc').2
        · exact i2 c hc' d hd' hcd
theorem lookup_mem {Bx : List (Nat × Nat)} {i a : Nat} : Bx.lookup i = some a → (i, a) ∈ Bx := by
  induction Bx with
  | nil => intro h; simp at h
  | cons b bs ih =>
    intro h
    obtain ⟨x, y⟩ := b
    simp only [List.lookup_cons] at h
    split at h
    · rename_i e
      rw [Option.some.injEq] at h
      have e' : i = x := by simpa using e
      rw [e', h]
      exact List.mem_cons_self
    · exact List.mem_cons_of_mem _ (ih h)
theorem lookup_none {Bx : List (Nat × Nat)} {i : Nat} : Bx.lookup i = none → ∀ b ∈ Bx, b.1 ≠ i := by
  induction Bx with
  | nil => intro _ b hb; cases hb
  | cons x bs ih =>
    intro h b hb
    obtain ⟨x, y⟩ := x
    simp only [List.lookup_cons] at h
    split at h
    · cases h
    · rename_i e
      have e' : i ≠ x := by simpa using e
      rcases List.mem_cons.1 hb with rfl | hb
      · exact fun h => e' h.symm
      · exact ih h b hb

/-- what a fact of the blocks lo .. hi lets be turned: old blocks of X, and new ones that are not its own -/
structure Same (B : Nat) (X : List Nat) (lo hi : Nat) (w w' : World) : Prop where
  os : w'.os = w.os
  tape : w'.tape = w.tape
  output : w'.output = w.output
  size : w.heap.size ≤ w'.heap.size
  block : ∀ k, k < w.heap.size → (k < B ∧ k ∉ X ∨ lo ≤ k ∧ k < hi) → w'.heap[k]? = w.heap[k]?
/-- the interval of an operation: its own; a store's: its alloc's -/
def ivOf (Bx : List (Nat × Nat)) (iv : Nat → Nat × Nat) (i : Nat) : Nat × Nat := match Bx.lookup i with | some a => iv a | none => iv i
def IvIn (B : Nat) (w : World) (q : Nat × Nat) : Prop := B ≤ q.1 ∧ q.1 ≤ q.2 ∧ q.2 ≤ w.heap.size
/-- facts on the values of some operations -/
def AncFacts (Φ : List Fact) (Bx : List (Nat × Nat)) (Ds : List (List Nat)) (B : Nat) (dl : List (Option Nat)) (vs : Nat → Value) (iv : Nat → Nat × Nat) (w : World) : List Nat → Prop
  | [] => True
  | j :: js => ((Φ.getD j noFact) ((Ds.getD j []).map vs) (ivOf Bx iv j).1 (ivOf Bx iv j).2 (dval vs (dl.getD j none)) w ∧ IvIn B w (ivOf Bx iv j)) ∧ AncFacts Φ Bx Ds B dl vs iv w js
def AllFacts (Φ : List Fact) (Bx : List (Nat × Nat)) (Ds : List (List Nat)) (B : Nat) (vs : Nat → Value) (iv : Nat → Nat × Nat) (w : World) : Nat → List (Option Nat) → Prop
  | _, [] => True
  | i, d :: dl => (if Bx.any (·.2 == i) then True else ((Φ.getD i noFact) ((Ds.getD i []).map vs) (ivOf Bx iv i).1 (ivOf Bx iv i).2 (dval vs d) w ∧ IvIn B w (ivOf Bx iv i))) ∧ AllFacts Φ Bx Ds B vs iv w (i + 1) dl
/-- the blocks of two operations are not the same -/
def Apart (Bx : List (Nat × Nat)) (iv : Nat → Nat × Nat) (n : Nat) : Prop := ∀ i j, i < n → j < n → i ≠ j → Bx.lookup i = none → Bx.lookup j = none → (iv i).2 ≤ (iv j).1 ∨ (iv j).2 ≤ (iv i).1
def StableAll (B : Nat) (X : List Nat) : List Fact → Prop
  | [] => True
  | φ :: l => (∀ a lo hi v w w', φ a lo hi v w → Same B X lo hi w w' → φ a lo hi v w') ∧ StableAll B X l
/-- what is to be shown of one operation -/
def Obl (P : Program) (l : List Oper) (Q : Exit → Act → World → Prop) (a0 : Act) (dl : List (Option Nat)) (ds : List Nat) (X : List Nat) (Bx : List (Nat × Nat)) (Φ : List Fact) (Ds : List (List Nat)) (W : World) (i : Nat) (o : Oper) (js : List Nat) : Prop :=
  ∀ (vs : Nat → Value) (iv : Nat → Nat × Nat) (w : World), Ext X W w → AncFacts Φ Bx Ds W.heap.size dl vs iv w js → ∀ K' : Act → World → Prop,
    Shut (∀ (a' : Act) (v : Value) (w' : World), a' = (setA a0 ds vs).put o.dst v →
      (match Bx.lookup i with
        | some a => (iv a).1 < (iv a).2 ∧ Ext ((iv a).1 :: X) w w' ∧ (Φ.getD i noFact) ((Ds.getD i []).map vs) (iv a).1 (iv a).2 (dstVal o v) w'
        | none => Ext X w w' ∧ (Φ.getD i noFact) ((Ds.getD i []).map vs) w.heap.size w'.heap.size (dstVal o v) w') → K' a' w') →
    if Region.wanted o (yielded l.toArray (setA a0 ds vs).tmps) = true then Oper.wp P o (setA a0 ds vs) w K' Q else K' ((setA a0 ds vs).put o.dst undef) w
def OblAll (P : Program) (l : List Oper) (Q : Exit → Act → World → Prop) (a0 : Act) (dl : List (Option Nat)) (ds : List Nat) (X : List Nat) (Bx : List (Nat × Nat)) (Φ : List Fact) (Ds : List (List Nat)) (W : World) : Nat → List Oper → List (List Nat) → Prop
  | _, [], _ => True
  | i, o :: os, js :: As => Obl P l Q a0 dl ds X Bx Φ Ds W i o js ∧ OblAll P l Q a0 dl ds X Bx Φ Ds W (i + 1) os As
  | i, o :: os, [] => Obl P l Q a0 dl ds X Bx Φ Ds W i o [] ∧ OblAll P l Q a0 dl ds X Bx Φ Ds W (i + 1) os []
theorem StableAll.get {B : Nat} {X : List Nat} : ∀ {Φ : List Fact}, StableAll B X Φ → ∀ (i : Nat) (a : List Value) (lo hi : Nat) (v : Value) (w w' : World), (Φ.getD i noFact) a lo hi v w → Same B X lo hi w w' → (Φ.getD i noFact) a lo hi v w'
  | [], _, i, a, lo, hi, v, w, w', h, _ => by simp [noFact]
  | φ :: Φ, hs, 0, a, lo, hi, v, w, w', h, e => hs.1 a lo hi v w w' h e
  | φ :: Φ, hs, i + 1, a, lo, hi, v, w, w', h, e => by
    simp only [List.getD_cons_succ] at h ⊢
    exact StableAll.get hs.2 i a lo hi v w w' h e
theorem OblAll.get {P : Program} {l : List Oper} {Q : Exit → Act → World → Prop} {a0 : Act} {dl : List (Option Nat)} {ds : List Nat} {X : List Nat} {Bx : List (Nat × Nat)} {Φ : List Fact} {Ds : List (List Nat)} {W : World} : ∀ {os : List Oper} {As : List (List Nat)} {k : Nat},
    OblAll P l Q a0 dl ds X Bx Φ Ds W k os As → ∀ {i : Nat} {o : Oper}, os[i]? = some o → Obl P l Q a0 dl ds X Bx Φ Ds W (k + i) o (As.getD i [])
  | [], _, _, _, i, o, hi => by simp at hi
  | x :: os, js :: As, k, h, 0, o, hi => by
    simp only [List.getElem?_cons_zero, Option.some.injEq] at hi
    subst hi
    simpa using h.1
  | x :: os, js :: As, k, h, i + 1, o, hi => by
    simp only [List.getElem?_cons_succ] at hi
    have := OblAll.get h.2 hi
    simpa [Nat.add_assoc, Nat.add_comm 1] using this
  | x :: os, [], k, h, 0, o, hi => by
    simp only [List.getElem?_cons_zero, Option.some.injEq] at hi
    subst hi
    simpa using h.1
  | x :: os, [], k, h, i + 1, o, hi => by
    simp only [List.getElem?_cons_succ] at hi
    have := OblAll.get h.2 hi
    simpa [Nat.add_assoc, Nat.add_comm 1] using this
theorem AllFacts.mk_ {Φ : List Fact} {Bx : List (Nat × Nat)} {Ds : List (List Nat)} {B : Nat} {vs : Nat → Value} {iv : Nat → Nat × Nat} {w : World} : ∀ {dl : List (Option Nat)} {k : Nat},
    (∀ (i : Nat), i < dl.length → Bx.any (·.2 == k + i) = false → (Φ.getD (k + i) noFact) ((Ds.getD (k + i) []).map vs) (ivOf Bx iv (k + i)).1 (ivOf Bx iv (k + i)).2 (dval vs (dl.getD i none)) w ∧ IvIn B w (ivOf Bx iv (k + i))) → AllFacts Φ Bx Ds B vs iv w k dl
  | [], _, _ => trivial
  | d :: dl, k, h => ⟨by
      by_cases e : Bx.any (·.2 == k) = true
      · rw [if_pos e]; trivial
      · rw [if_neg e]; exact h 0 (by simp) (by cases h' : Bx.any (·.2 == k) <;> first | rfl | exact absurd h' e), AllFacts.mk_ fun i hi he => by
      have := h (i + 1) (by simpa using hi) (by simpa [Nat.add_assoc, Nat.add_comm 1] using he)
      simpa [Nat.add_assoc, Nat.add_comm 1] using this⟩

section
variable {P : Program} {l : List Oper} {Q : Exit → Act → World → Prop}

theorem isAfter_spec {s j : Nat} (h : isAfter l s j = true) : ∃ o, l[s]? = some o ∧ ∃ e ∈ o.after, Region.binds .any e = true ∧ e.on = j := by
  unfold isAfter at h
  cases hl : l[s]? with
  | none => rw [hl] at h; simp at h
  | some o =>
    rw [hl] at h
    obtain ⟨e, he, hb⟩ := Array.any_eq_true'.1 h
    simp only [Bool.and_eq_true, beq_iff_eq] at hb
    exact ⟨o, rfl, e, he, hb⟩
theorem ancChk_listed {listed : Array Bool} {i : Nat} {o : Oper} (hi : l[i]? = some o) (hr : ∀ e ∈ o.after, Region.binds .any e = true → listed.getD e.on false = true)
    (hcl : ∀ (j : Nat) (oj : Oper), listed.getD j false = true → l[j]? = some oj → ∀ e ∈ oj.after, Region.binds .any e = true → listed.getD e.on false = true) :
    ∀ (js seen : List Nat), (∀ s ∈ seen, s = i ∨ listed.getD s false = true) → ancChk l seen js = true → ∀ j ∈ js, listed.getD j false = true
  | [], _, _, _, j, hj => by cases hj
  | x :: js, seen, hs, hc, j, hj => by
    simp only [ancChk, Bool.and_eq_true, List.any_eq_true] at hc
    obtain ⟨⟨s, hsm, hsa⟩, hc2⟩ := hc
    have hx : listed.getD x false = true := by
      obtain ⟨os, hls, e, he, hb, rfl⟩ := isAfter_spec hsa
      rcases hs s hsm with rfl | hl
      · obtain rfl : os = o := by rw [hi] at hls; exact (Option.some.inj hls).symm
        exact hr e he hb
      · exact hcl s os hl hls e he hb
    rcases List.mem_cons.1 hj with rfl | hj
    · exact hx
    · exact ancChk_listed hi hr hcl js (x :: seen) (fun s h => by rcases List.mem_cons.1 h with rfl | h; exact .inr hx; exact hs s h) hc2 j hj
theorem ancAll_spec {Bx : List (Nat × Nat)} : ∀ {As : List (List Nat)} {k : Nat}, ancAll l Bx k As = true → ∀ i : Nat, ancChk l [k + i] (As.getD i []) = true ∧ ∀ j ∈ As.getD i [], ∀ b ∈ Bx, b.2 = j → b.1 = k + i ∨ isAfter l b.1 (k + i) = true
  | [], k, _, i => ⟨by simp [ancChk], fun j hj => by simp at hj⟩
  | js :: As, k, h, 0 => by
    simp only [ancAll, Bool.and_eq_true, List.all_eq_true, Bool.or_eq_true, bne_iff_ne, beq_iff_eq] at h
    refine ⟨by simpa using h.1.1, fun j hj b hb e => ?_⟩
    rcases h.1.2 j (by simpa using hj) b hb with (h | h) | h
    · exact absurd e h
    · exact .inl (by simpa using h)
    · exact .inr (by simpa using h)
  | js :: As, k, h, i + 1 => by
    simp only [ancAll, Bool.and_eq_true] at h
    have := ancAll_spec h.2 i
    simpa [Nat.add_assoc, Nat.add_comm 1] using this
theorem ancFacts_mk {Φ : List Fact} {Bx : List (Nat × Nat)} {Ds : List (List Nat)} {B : Nat} {dl : List (Option Nat)} {vs : Nat → Value} {iv : Nat → Nat × Nat} {w : World} : ∀ {js : List Nat},
    (∀ j ∈ js, (Φ.getD j noFact) ((Ds.getD j []).map vs) (ivOf Bx iv j).1 (ivOf Bx iv j).2 (dval vs (dl.getD j none)) w ∧ IvIn B w (ivOf Bx iv j)) → AncFacts Φ Bx Ds B dl vs iv w js
  | [], _ => trivial
  | j :: js, h => ⟨h j List.mem_cons_self, ancFacts_mk fun j' hj' => h j' (List.mem_cons_of_mem _ hj')⟩
theorem argsB_spec {dl : List (Option Nat)} : ∀ {As Ds : List (List Nat)}, argsB dl As Ds = true → ∀ i, ∀ d ∈ Ds.getD i [], ∃ j ∈ As.getD i [], dl.getD j none = some d
  | _, [], _, i, d, hd => by simp at hd
  | [], ds :: Ds, h, 0, d, hd => by
    simp only [argsB, Bool.and_eq_true, List.isEmpty_iff] at h
    simp [h.1] at hd
  | [], ds :: Ds, h, i + 1, d, hd => by
    simp only [argsB, Bool.and_eq_true] at h
    simpa using argsB_spec h.2 i d (by simpa using hd)
  | js :: As, ds :: Ds, h, 0, d, hd => by
    simp only [argsB, Bool.and_eq_true, List.all_eq_true, List.any_eq_true, beq_iff_eq] at h
    simpa using h.1 d (by simpa using hd)
  | js :: As, ds :: Ds, h, i + 1, d, hd => by
    simp only [argsB, Bool.and_eq_true] at h
    simpa using argsB_spec h.2 i d (by simpa using hd)
theorem count_set {t : Array Bool} {i : Nat} (h : t.getD i true = false) : (t.setIfInBounds i true).toList.count false + 1 = t.toList.count false := by
  have hi : i < t.size := by
    rcases Nat.lt_or_ge i t.size with h' | h'
    · exact h'
    · simp [Array.getD, Nat.not_lt.2 h'] at h
  have hv : t.toList[i]'(by simpa using hi) = false := by
    simpa [Array.getD, hi] using h
  have hm : false ∈ t.toList := by rw [← hv]; exact List.getElem_mem _
  have hp : 0 < t.toList.count false := List.count_pos_iff.2 hm
  rw [Array.toList_setIfInBounds, List.count_set (by simpa using hi), hv]
  simp only [beq_self_eq_true, if_true, show (true == false) = false from rfl, Bool.false_eq_true, if_false]
  omega
theorem listed_of_count {t : Array Bool} (h : t.toList.count false = 0) {i : Nat} (hi : i < t.size) : t.getD i false = true := by
  cases e : t[i] with
  | true => simp [Array.getD, hi, e]
  | false =>
    have : false ∈ t.toList := by rw [← e]; simp
    exact absurd h (by have := List.count_pos_iff.2 this; omega)

/-- what stands while the region runs -/
structure Mid (l : List Oper) (X : List Nat) (Bx : List (Nat × Nat)) (Φ : List Fact) (Ds : List (List Nat)) (W : World) (listed : Array Bool) (vs : Nat → Value) (iv : Nat → Nat × Nat) (w : World) : Prop where
  size : listed.size = l.length
  closed : ∀ (j : Nat) (oj : Oper), listed.getD j false = true → l[j]? = some oj → ∀ e ∈ oj.after, Region.binds .any e = true → listed.getD e.on false = true
  fact : ∀ (j : Nat) (oj : Oper), listed.getD j false = true → l[j]? = some oj → (∀ b ∈ Bx, b.2 = j → listed.getD b.1 false = false) → (Φ.getD j noFact) ((Ds.getD j []).map vs) (ivOf Bx iv j).1 (ivOf Bx iv j).2 (valOf oj vs) w
  made : ∀ j, listed.getD j false = true → Bx.lookup j = none → IvIn W.heap.size w (iv j)
  apart : ∀ i j, listed.getD i false = true → listed.getD j false = true → i ≠ j → Bx.lookup i = none → Bx.lookup j = none → (iv i).2 ≤ (iv j).1 ∨ (iv j).2 ≤ (iv i).1
  ext : Ext X W w
theorem Mid.ivOf_in {X : List Nat} {Bx : List (Nat × Nat)} {Φ : List Fact} {Ds : List (List Nat)} {W : World} {listed : Array Bool} {vs : Nat → Value} {iv : Nat → Nat × Nat} {w : World} (h : Mid l X Bx Φ Ds W listed vs iv w)
    (hbx : ∀ b ∈ Bx, isAfter l b.1 b.2 = true) (hsep : ∀ b ∈ Bx, Bx.lookup b.2 = none) {j : Nat} (hj : listed.getD j false = true) : IvIn W.heap.size w (ivOf Bx iv j) := by
  unfold ivOf
  cases hl : Bx.lookup j with
  | none => exact h.made j hj hl
  | some a =>
    have hm := lookup_mem hl
    obtain ⟨o, ho, e, he, hb, ha⟩ := isAfter_spec (hbx _ hm)
    have hc := h.closed j o hj ho e he hb
    rw [ha] at hc
    exact h.made a hc (hsep _ hm)

theorem wpAny_stab {a0 : Act} {W : World} {dl : List (Option Nat)} {ds X : List Nat} {Bx : List (Nat × Nat)} {Φ : List Fact} {As Ds : List (List Nat)} (hB : stabB l dl ds Bx As Ds = true) (hX : ∀ k ∈ X, k < W.heap.size) (hst : StableAll W.heap.size X Φ)
    (hop : OblAll P l Q a0 dl ds X Bx Φ Ds W 0 l As)
    (hend : ∀ (vs : Nat → Value) (iv : Nat → Nat × Nat) (w : World), Ext X W w → Apart Bx iv l.length → AllFacts Φ Bx Ds W.heap.size vs iv w 0 dl → Q .normal (setA a0 ds vs) w) :
    ∀ (fuel : Nat) (listed : Array Bool) (vs : Nat → Value) (iv : Nat → Nat × Nat) (w : World), listed.toList.count false ≤ fuel → Mid l X Bx Φ Ds W listed vs iv w →
      wpAny P .any l.toArray Q fuel listed (setA a0 ds vs) w := by
  simp only [stabB, Bool.and_eq_true] at hB
  obtain ⟨⟨⟨⟨⟨⟨⟨hIn, hAp⟩, hAn⟩, hTx⟩, hBx⟩, hSep⟩, hArg⟩, hDl⟩ := hB
  have hDl : l.map (·.dst) = dl := beq_iff_eq.1 hDl
  have hlen : dl.length = l.length := by rw [← hDl]; simp
  have hdg : ∀ (j : Nat) (oj : Oper), l[j]? = some oj → dl.getD j none = oj.dst := fun j oj h => by
    rw [← hDl]; simp [List.getD, h]
  obtain ⟨hbx, hinj⟩ := boxB_spec hBx
  have hsep : ∀ b ∈ Bx, Bx.lookup b.2 = none := fun b hb => by
    cases hl : Bx.lookup b.2 with
    | none => rfl
    | some a =>
      have hm := lookup_mem hl
      simp only [boxSep, List.all_eq_true, bne_iff_ne] at hSep
      exact absurd rfl (hSep _ hm b hb)
  -- where nothing is ready, all has come up
  have hall : ∀ (listed : Array Bool), listed.size = l.length → Region.ready .any l.toArray listed = [] → ∀ j, j < l.length → listed.getD j false = true := by
    intro listed hsz hr j
    induction j using Nat.strongRecOn with
    | ind j ih =>
      intro hj
      cases e : listed.getD j false with
      | true => rfl
      | false =>
        have hn : j ∉ Region.ready .any l.toArray listed := by rw [hr]; simp
        refine absurd ?_ hn
        rw [mem_ready]
        refine ⟨by simpa [Array.getD, hsz, hj] using e, l[j], by simp [hj], fun e he hb => ?_⟩
        have hlt := textB_spec hTx (i := j) (o := l[j]) (by simp [hj]) e he hb
        exact ih e.on (by omega) (by omega)
  have hfin : ∀ (listed : Array Bool) (vs : Nat → Value) (iv : Nat → Nat × Nat) (w : World), (∀ j, j < l.length → listed.getD j false = true) → Mid l X Bx Φ Ds W listed vs iv w → Q .normal (setA a0 ds vs) w := by
    intro listed vs iv w h1 h2
    refine hend vs iv w h2.ext (fun i j hi hj => h2.apart i j (h1 i hi) (h1 j hj)) (AllFacts.mk_ fun i hi he => ?_)
    rw [Nat.zero_add] at he
    rw [Nat.zero_add]
    have hi' : i < l.length := by omega
    have hio : l[i]? = some l[i] := by simp [hi']
    have hl := h1 i hi'
    rw [hdg i _ hio, ← valOf_dval]
    refine ⟨h2.fact i _ hl hio fun b hb e => ?_, h2.ivOf_in (fun b hb => (hbx b hb).1) hsep hl⟩
    have := List.any_eq_false.1 he b hb
    simp [e] at this
  intro fuel
  induction fuel with
  | zero =>
    intro listed vs iv w hc hM
    have hsz := hM.size
    have h1 : ∀ j, j < l.length → listed.getD j false = true := fun j hj => listed_of_count (by omega) (by omega)
    refine ⟨?_, hfin listed vs iv w h1 hM⟩
    cases hr : Region.ready .any l.toArray listed with
    | nil => rfl
    | cons j rest =>
      have hj : j ∈ Region.ready .any l.toArray listed := by rw [hr]; exact List.mem_cons_self
      obtain ⟨h2, o, ho, _⟩ := mem_ready.1 hj
      have hjl : j < l.length := by
        have := (Array.getElem?_eq_some_iff.1 ho).1
        simpa using this
      have h3 := h1 j hjl
      simp [Array.getD, hsz, hjl] at h2 h3
      rw [h3] at h2
      cases h2
  | succ fuel ih =>
    intro listed vs iv w hc hM
    refine ⟨fun hr => hfin listed vs iv w (hall listed hM.size hr) hM, fun i hi => ?_⟩
    obtain ⟨hun, o, ho, hpre⟩ := mem_ready.1 hi
    have ho' : l[i]? = some o := by simpa using ho
    have hil : i < l.length := (List.getElem?_eq_some_iff.1 ho').1
    have hunf : listed.getD i false = false := by
      have hs := hM.size
      simp only [Array.getD, show i < listed.size by omega, dif_pos] at hun ⊢
      exact hun
    obtain ⟨hanc, hancB⟩ := ancAll_spec hAn i
    rw [Nat.zero_add] at hanc hancB
    have hlist := ancChk_listed (listed := listed) ho' hpre hM.closed _ [i] (fun s hs => by simp at hs; exact .inl hs) hanc
    have hob := hop.get ho'
    rw [Nat.zero_add] at hob
    -- a box whose store is i, or comes behind i, has not been filled
    have hnot : ∀ j ∈ As.getD i [], ∀ b ∈ Bx, b.2 = j → listed.getD b.1 false = false := fun j hj b hb e => by
      cases hl : listed.getD b.1 false with
      | false => rfl
      | true =>
        rcases hancB j hj b hb e with h | h
        · rw [h, hunf] at hl; cases hl
        · obtain ⟨os, hos, ed, hed, hbd, hon⟩ := isAfter_spec h
          have := hM.closed b.1 os hl hos ed hed hbd
          rw [hon, hunf] at this
          cases this
    refine wpOp_step ho fun K' hK => ?_
    refine hob vs iv w hM.ext (ancFacts_mk fun j hj => ⟨by
      have hjl : j < l.length := by
        have h1 := hlist j hj
        rcases Nat.lt_or_ge j l.length with h | h
        · exact h
        · simp [Array.getD, show ¬ j < listed.size by rw [hM.size]; omega] at h1
      have hjo : l[j]? = some l[j] := by simp [hjl]
      rw [hdg j _ hjo, ← valOf_dval]
      exact hM.fact j _ (hlist j hj) hjo (hnot j hj), hM.ivOf_in (fun b hb => (hbx b hb).1) hsep (hlist j hj)⟩) K' (fun a' v w' ha' hφ => hK _ _ ?_)
    subst ha'
    have hcount := count_set hun
    have hget : ∀ j, (listed.setIfInBounds i true).getD j false = true → j = i ∨ listed.getD j false = true := fun j hj => by
      by_cases e : j = i
      · exact .inl e
      · rw [getD_set_ne false (Ne.symm e)] at hj; exact .inr hj
    have hgetn : ∀ j, (listed.setIfInBounds i true).getD j false = false → listed.getD j false = false := fun j hj => by
      cases e : listed.getD j false with
      | false => rfl
      | true => rw [getD_set_true e] at hj; cases hj
    have hcl' : ∀ (j : Nat) (oj : Oper), (listed.setIfInBounds i true).getD j false = true → l[j]? = some oj → ∀ e ∈ oj.after, Region.binds .any e = true → (listed.setIfInBounds i true).getD e.on false = true := fun j oj hj hoj e he hb => by
      rcases hget j hj with rfl | hj
      · obtain rfl : oj = o := by rw [ho'] at hoj; exact (Option.some.inj hoj).symm
        exact getD_set_true (hpre e he hb)
      · exact getD_set_true (hM.closed j oj hj hoj e he hb)
    -- the values behind the step, read at whatever operation
    obtain ⟨vs', hput, hvi, hvo⟩ : ∃ vs', (setA a0 ds vs).put o.dst v = setA a0 ds vs' ∧ valOf o vs' = dstVal o v ∧ ∀ j oj, j ≠ i → l[j]? = some oj → valOf oj vs' = valOf oj vs := by
      cases hd : o.dst with
      | none => exact ⟨vs, rfl, by simp [valOf, dstVal, hd], fun _ _ _ _ => rfl⟩
      | some d =>
        refine ⟨updV vs d v, setA_put (dstsIn_spec hIn ho' hd), by simp [valOf, dstVal, hd, updV], fun j oj e hoj => ?_⟩
        have hne := dst_ne hAp (Ne.symm e) ho' hoj hd
        unfold valOf
        cases hdj : oj.dst with
        | none => rfl
        | some d' =>
          have : d' ≠ d := fun h => hne (by rw [hdj, h])
          simp [updV, this]
    -- whoever has come up by now, or comes up now, has its ancestors behind it
    have hargs : ∀ j oj, (j = i ∨ listed.getD j false = true) → l[j]? = some oj → (Ds.getD j []).map vs' = (Ds.getD j []).map vs := fun j oj hj hoj => by
      have hanj := (ancAll_spec hAn j).1
      rw [Nat.zero_add] at hanj
      have hpj : ∀ e ∈ oj.after, Region.binds .any e = true → listed.getD e.on false = true := by
        rcases hj with rfl | hj
        · obtain rfl : oj = o := by rw [ho'] at hoj; exact (Option.some.inj hoj).symm
          exact hpre
        · exact hM.closed j oj hj hoj
      have hls := ancChk_listed (listed := listed) hoj hpj hM.closed _ [j] (fun s hs => by simp at hs; exact .inl hs) hanj
      refine List.map_congr_left fun d hd => ?_
      obtain ⟨k, hk, hkd⟩ := argsB_spec hArg j d hd
      have hk1 := hls k hk
      have hki : k ≠ i := fun e => by rw [e, hunf] at hk1; cases hk1
      have hkl : k < l.length := by
        rcases Nat.lt_or_ge k l.length with h | h
        · exact h
        · simp [Array.getD, show ¬ k < listed.size by rw [hM.size]; omega] at hk1
      have hko : l[k]? = some l[k] := by simp [hkl]
      have hv := hvo k _ hki hko
      rw [hdg k _ hko] at hkd
      simpa [valOf, hkd] using hv
    rw [hput]
    cases hlk : Bx.lookup i with
    | none =>
      rw [hlk] at hφ
      obtain ⟨hx', hφ⟩ := hφ
      have hsame : ∀ lo hi, IvIn W.heap.size w (lo, hi) → Same W.heap.size X lo hi w w' := fun lo hi hq => ⟨hx'.os, hx'.tape, hx'.output, hx'.size, fun k hk hkk => hx'.block k hk (fun hm => by
        rcases hkk with h | h
        · exact h.2 hm
        · have h1 := hX k hm
          have h2 : W.heap.size ≤ lo := hq.1
          omega)⟩
      let iv' : Nat → Nat × Nat := fun j => if j = i then (w.heap.size, w'.heap.size) else iv j
      have hivn : ∀ j, j ≠ i → iv' j = iv j := fun j h => by simp [iv', h]
      have hivi : iv' i = (w.heap.size, w'.heap.size) := by simp [iv']
      have hivo : ∀ j, listed.getD j false = true → ivOf Bx iv' j = ivOf Bx iv j := fun j hj => by
        unfold ivOf
        cases hl : Bx.lookup j with
        | none => exact hivn j (fun e => by rw [e, hunf] at hj; cases hj)
        | some a =>
          have hm := lookup_mem hl
          obtain ⟨oj, hoj, e, he, hb, ha⟩ := isAfter_spec (hbx _ hm).1
          refine hivn a (fun e2 => ?_)
          have := hM.closed j oj hj hoj e he hb
          rw [ha, e2, hunf] at this
          cases this
      refine ih _ vs' iv' w' (by omega) ⟨by rw [Array.size_setIfInBounds]; exact hM.size, hcl', fun j oj hj hoj hk => ?_, fun j hj hl => ?_, fun p q hp hq hpq hlp hlq => ?_, hM.ext.trans hx'⟩
      · rcases hget j hj with rfl | hj
        · obtain rfl : oj = o := by rw [ho'] at hoj; exact (Option.some.inj hoj).symm
          rw [hvi, hargs j oj (.inl rfl) ho']
          unfold ivOf
          rw [hlk]
          simp only [hivi]
          exact hφ
        · have hne : j ≠ i := fun e => by rw [e, hunf] at hj; cases hj
          rw [hvo j oj hne hoj, hivo j hj, hargs j oj (.inr hj) hoj]
          exact hst.get j _ _ _ _ w w' (hM.fact j oj hj hoj fun b hb e => hgetn _ (hk b hb e)) (hsame _ _ (hM.ivOf_in (fun b hb => (hbx b hb).1) hsep hj))
      · rcases hget j hj with rfl | hj
        · rw [hivi]; exact ⟨hM.ext.size, hx'.size, Nat.le_refl _⟩
        · rw [hivn j (fun e => by rw [e, hunf] at hj; cases hj)]
          obtain ⟨q1, q2, q3⟩ := hM.made j hj hl
          exact ⟨q1, q2, Nat.le_trans q3 hx'.size⟩
      · rcases hget p hp with rfl | hp
        · rcases hget q hq with rfl | hq
          · exact absurd rfl hpq
          · rw [hivi, hivn q (Ne.symm hpq)]
            exact .inr (hM.made q hq hlq).2.2
        · rcases hget q hq with rfl | hq
          · rw [hivi, hivn p hpq]
            exact .inl (hM.made p (by assumption) hlp).2.2
          · rw [hivn p (fun e => by rw [e, hunf] at hp; cases hp), hivn q (fun e => by rw [e, hunf] at hq; cases hq)]
            exact hM.apart p q hp hq hpq hlp hlq
    | some a =>
      rw [hlk] at hφ
      obtain ⟨hne0, hx', hφ⟩ := hφ
      have hma := lookup_mem hlk
      have hal : listed.getD a false = true := by
        obtain ⟨os, hos, e, he, hb, ha⟩ := isAfter_spec (hbx _ hma).1
        obtain rfl : os = o := by rw [ho'] at hos; exact (Option.some.inj hos).symm
        have := hpre e he hb
        rw [ha] at this
        exact this
      have hla : Bx.lookup a = none := hsep _ hma
      have hiva := hM.made a hal hla
      have hxx : Ext X W w' := by
        refine ⟨hx'.os.trans hM.ext.os, hx'.tape.trans hM.ext.tape, hx'.output.trans hM.ext.output, Nat.le_trans hM.ext.size hx'.size, fun k hk hkx => ?_⟩
        have h1 : W.heap.size ≤ (iv a).1 := hiva.1
        exact (hx'.block k (Nat.lt_of_lt_of_le hk hM.ext.size) (fun hm => by
          rcases List.mem_cons.1 hm with e | hm
          · omega
          · exact hkx hm)).trans (hM.ext.block k hk hkx)
      refine ih _ vs' iv w' (by omega) ⟨by rw [Array.size_setIfInBounds]; exact hM.size, hcl', fun j oj hj hoj hk => ?_, fun j hj hl => ?_, fun p q hp hq hpq hlp hlq => ?_, hxx⟩
      · rcases hget j hj with rfl | hj
        · obtain rfl : oj = o := by rw [ho'] at hoj; exact (Option.some.inj hoj).symm
          rw [hvi, hargs j oj (.inl rfl) ho']
          unfold ivOf
          rw [hlk]
          exact hφ
        · have hne : j ≠ i := fun e => by rw [e, hunf] at hj; cases hj
          rw [hvo j oj hne hoj, hargs j oj (.inr hj) hoj]
          -- j is not the alloc of this store: that fact is over
          have hja : j ≠ a := fun e => by
            have := hk _ hma e.symm
            rw [show ((i, a) : Nat × Nat).1 = i from rfl] at this
            have h2 : (listed.setIfInBounds i true).getD i false = true := by simp [Array.getD, hM.size, hil]
            rw [h2] at this
            cases this
          refine hst.get j _ _ _ _ w w' (hM.fact j oj hj hoj fun b hb e => hgetn _ (hk b hb e)) ⟨hx'.os, hx'.tape, hx'.output, hx'.size, fun k hk2 hkk => hx'.block k hk2 (fun hm => ?_)⟩
          have h1 : W.heap.size ≤ (iv a).1 := hiva.1
          -- whose interval is it?
          have hown : (ivOf Bx iv j).2 ≤ (iv a).1 ∨ (iv a).2 ≤ (ivOf Bx iv j).1 := by
            unfold ivOf
            cases hl : Bx.lookup j with
            | none => exact hM.apart j a hj hal hja hl hla
            | some a' =>
              have hm' := lookup_mem hl
              have hne' : a' ≠ a := fun e => by
                have := hinj _ hm' _ hma (.inr e)
                exact hne (congrArg Prod.fst this)
              obtain ⟨oj', hoj', e, he, hb, ha⟩ := isAfter_spec (hbx _ hm').1
              have hc := hM.closed j oj' hj hoj' e he hb
              rw [ha] at hc
              exact hM.apart a' a hc hal hne' (hsep _ hm') hla
          have hj2 := hM.ivOf_in (fun b hb => (hbx b hb).1) hsep hj
          rcases List.mem_cons.1 hm with e | hm
          · rcases hkk with h | h
            · omega
            · omega
          · rcases hkk with h | h
            · exact h.2 hm
            · have := hX k hm
              have h2 : W.heap.size ≤ (ivOf Bx iv j).1 := hj2.1
              omega
      · rcases hget j hj with rfl | hj
        · rw [hlk] at hl; cases hl
        · obtain ⟨q1, q2, q3⟩ := hM.made j hj hl
          exact ⟨q1, q2, Nat.le_trans q3 hx'.size⟩
      · rcases hget p hp with rfl | hp
        · rw [hlk] at hlp; cases hlp
        · rcases hget q hq with rfl | hq
          · rw [hlk] at hlq; cases hlq
          · exact hM.apart p q hp hq hpq hlp hlq

/-- THE RULE -/
theorem wp_region_stab {id : Nat} {a0 : Act} {w0 : World} (dl : List (Option Nat)) (ds X : List Nat) (Bx : List (Nat × Nat)) (Φ : List Fact) (As Ds : List (List Nat)) (hm : P.follows .mixedOrders = true) (hB : stabB l dl ds Bx As Ds = true) (hX : ∀ k ∈ X, k < w0.drew.heap.size)
    (hst : StableAll w0.drew.heap.size X Φ) (hop : OblAll P l Q a0 dl ds X Bx Φ Ds w0.drew 0 l As)
    (hend : ∀ (vs : Nat → Value) (iv : Nat → Nat × Nat) (w : World), Ext X w0.drew w → Apart Bx iv l.length → AllFacts Φ Bx Ds w0.drew.heap.size vs iv w 0 dl → Q .normal (setA a0 ds vs) w) :
    (Code.region id l.toArray true).wp P Q a0 w0 := by
  refine wp_region_any hm ?_
  have hno : ∀ j, (Array.replicate l.toArray.size false).getD j false = false := fun j => by simp [Array.getD]
  have h := wpAny_stab hB hX hst hop hend l.toArray.size (Array.replicate l.toArray.size false) (fun d => a0.tmps.getD d undef) (fun _ => (0, 0)) w0.drew (by simp)
    ⟨by simp, fun j oj hj => (by rw [hno] at hj; cases hj), fun j oj hj => (by rw [hno] at hj; cases hj), fun j hj => (by rw [hno] at hj; cases hj), fun i j hi => (by rw [hno] at hi; cases hi), Ext.refl _ _⟩
  rw [setA_self] at h
  exact h
end
end Go.Proofs.YtbpdjmjkjiddjaaDoor.Base
