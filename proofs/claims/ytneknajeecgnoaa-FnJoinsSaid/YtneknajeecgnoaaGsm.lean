/-
  Groups as lists: the state behind k elements; a list of lists that grows.
-/
import Derived.Test.YtneknajeecgnoaaLli
import Derived.Test.YtneknajeecgnoaaJgs
namespace Go.Proofs.Ytneknajeecgnoaa.Base
open Go Go.RowKit
set_option linter.unusedVariables false
set_option linter.unusedSimpArgs false
theorem infoLst : (Try.prog.info? 24).map (fun i => (i.zero, i.size, i.bytes)) = some (some (.slice none 0 0), 1, 24) := by kernel_rfl

/-- the list with x behind its i-th list -/
def snocAt (L : List (List Int)) (i : Nat) (x : Int) : List (List Int) := L.set i (L.getD i [] ++ [x])
/-- behind k elements: for each root the number of its list, counted from 1 (0: it has none); the lists -/
def gs (rt : Nat → Nat) : Nat → (Nat → Nat) × List (List Int)
  | 0 => (fun _ => 0, [])
  | k + 1 =>
    let p := (gs rt k).1
    let L := (gs rt k).2
    if p (rt k) = 0 then (fun r => if r = rt k then L.length + 1 else p r, snocAt (L ++ [[]]) L.length k)
    else (p, snocAt L (p (rt k) - 1) k)
section
variable {rt : Nat → Nat}
theorem gs_new {k : Nat} (h : (gs rt k).1 (rt k) = 0) : gs rt (k + 1) = (fun r => if r = rt k then (gs rt k).2.length + 1 else (gs rt k).1 r, snocAt ((gs rt k).2 ++ [[]]) (gs rt k).2.length k) := by
  show (if _ then _ else _) = _
  rw [if_pos h]
theorem gs_old {k : Nat} (h : (gs rt k).1 (rt k) ≠ 0) : gs rt (k + 1) = ((gs rt k).1, snocAt (gs rt k).2 ((gs rt k).1 (rt k) - 1) k) := by
  show (if _ then _ else _) = _
  rw [if_neg h]
theorem snoc_len (L : List (List Int)) (i : Nat) (x : Int) : (snocAt L i x).length = L.length := by simp [snocAt]
theorem gs_bd : ∀ k r, (gs rt k).1 r ≤ (gs rt k).2.length
  | 0, r => Nat.le_refl _
  | k + 1, r => by
    have ih := gs_bd k
    by_cases h : (gs rt k).1 (rt k) = 0
    · rw [gs_new h]
      show (if r = rt k then (gs rt k).2.length + 1 else (gs rt k).1 r) ≤ (snocAt ((gs rt k).2 ++ [[]]) (gs rt k).2.length k).length
      rw [snoc_len]
      have := ih r
      split <;> simp <;> omega
    · rw [gs_old h]
      show (gs rt k).1 r ≤ (snocAt _ _ _).length
      rw [snoc_len]
      exact ih r
theorem gs_len : ∀ k, (gs rt k).2.length ≤ k
  | 0 => Nat.le_refl _
  | k + 1 => by
    have ih := gs_len k
    by_cases h : (gs rt k).1 (rt k) = 0
    · rw [gs_new h]
      show (snocAt _ _ _).length ≤ _
      rw [snoc_len]
      simp
      omega
    · rw [gs_old h]
      show (snocAt _ _ _).length ≤ _
      rw [snoc_len]
      omega
/-- every list has at most so many elements, each below k -/
theorem gs_mem : ∀ k, ∀ l ∈ (gs rt k).2, l.length ≤ k ∧ ∀ x ∈ l, 0 ≤ x ∧ x < (k : Int)
  | 0, l, hl => by cases hl
  | k + 1, l, hl => by
    have ih := gs_mem k
    have key : ∀ (L : List (List Int)) (i : Nat), (∀ l ∈ L, l.length ≤ k ∧ ∀ x ∈ l, 0 ≤ x ∧ x < (k : Int)) → ∀ l ∈ snocAt L i k, l.length ≤ k + 1 ∧ ∀ x ∈ l, 0 ≤ x ∧ x < ((k + 1 : Nat) : Int) := by
      intro L i hL l hl
      unfold snocAt at hl
      rcases List.mem_or_eq_of_mem_set hl with h1 | h1
      · obtain ⟨h2, h3⟩ := hL l h1
        exact ⟨by omega, fun x hx => by have := h3 x hx; omega⟩
      · subst h1
        have h4 : (L.getD i []).length ≤ k ∧ ∀ x ∈ L.getD i [], 0 ≤ x ∧ x < (k : Int) := by
          rw [List.getD_eq_getElem?_getD]
          rcases Nat.lt_or_ge i L.length with h | h
          · rw [List.getElem?_eq_getElem h]
            exact hL _ (List.getElem_mem h)
          · rw [List.getElem?_eq_none h]
            exact ⟨Nat.zero_le _, fun x hx => by cases hx⟩
        refine ⟨by rw [List.length_append, List.length_singleton]; omega, fun x hx => ?_⟩
        rcases List.mem_append.1 hx with h5 | h5
        · have := h4.2 x h5; omega
        · simp at h5; omega
    by_cases h : (gs rt k).1 (rt k) = 0
    · rw [gs_new h] at hl
      refine key _ _ (fun l' hl' => ?_) l hl
      rcases List.mem_append.1 hl' with h1 | h1
      · exact ih l' h1
      · simp at h1
        subst h1
        exact ⟨Nat.zero_le _, fun x hx => by cases hx⟩
    · rw [gs_old h] at hl
      exact key _ _ ih l hl
end
/-- no block in common -/
def NoC (u v : Value) : Prop := ∀ g, u.ownBlock = some g → v.ownBlock = some g → False
/-- u is a list of the lists L (its values: V), all in blocks of their own from block base on -/
structure LLs (w : World) (base : Nat) (u : Value) (L : List (List Int)) (V : List Value) : Prop where
  out : w.ownsRow base 24 1 u L.length V
  row : ∀ (i : Nat) (v : Value) (l : List Int), V[i]? = some v → L[i]? = some l → w.ownsRow base 2 1 v l.length (ivs l)
  apO : ∀ (i : Nat) (v : Value), V[i]? = some v → NoC v u
  apI : ∀ (i j : Nat) (v v' : Value), i ≠ j → V[i]? = some v → V[j]? = some v' → NoC v v'
section
variable {w w' wa w5 : World} {base : Nat} {u : Value} {L : List (List Int)} {V : List Value}
theorem LLs.len (h : LLs w base u L V) : V.length = L.length := by have := h.out.1; omega
theorem LLs.bel (h : LLs w base u L V) (hb : Below w.heap.size w w') : LLs w' base u L V :=
  ⟨owns_belowS h.out hb, fun i v l h1 h2 => owns_belowS (h.row i v l h1 h2) hb, h.apO, h.apI⟩
theorem LLs.at_ (h : LLs w base u L V) {i : Nat} (hi : i < L.length) : ∃ v, V[i]? = some v ∧ L[i]? = some (L.getD i []) := by
  have hl := h.len
  refine ⟨V[i]'(by omega), List.getElem?_eq_getElem (by omega), ?_⟩
  rw [List.getD_eq_getElem?_getD, List.getElem?_eq_getElem hi]
  rfl
theorem owns_keep {b n s : Nat} {e : TypeId} {v : Value} {xs : List Value} {r : Option Nat} (h : w.ownsRow b e s v n xs) (hg : w.grownBy w' r) (hne : ∀ g, v.ownBlock = some g → r = some g → False) : w'.ownsRow b e s v n xs :=
  h.kept hg (by
    cases e : v.ownBlock with
    | none => exact .inl rfl
    | some g => exact .inr (fun e2 => hne g e e2.symm))
/-- an empty list more -/
theorem LLs.next {v : Value} {g cap : Nat} (h : LLs w base u L V) (hb : Below w.heap.size w wa) (hv : wa.ownsRow w.heap.size 2 1 v 0 []) (hB : base ≤ w.heap.size)
    (hown : w5.ownsRow base 24 1 (.slice (some ⟨g, 0, none⟩) (L.length + 1) cap) (L.length + 1) (V ++ [v])) (hg : wa.grownBy w5 u.ownBlock) (hat : u.ownBlock = some g ∨ wa.heap.size ≤ g) :
    LLs w5 base (.slice (some ⟨g, 0, none⟩) (L.length + 1) cap) (L ++ [[]]) (V ++ [v]) := by
  have hl := h.len
  have hub : ∀ b, u.ownBlock = some b → base ≤ b ∧ b < w.heap.size := fun b e => h.out.lt b e
  have hvb : ∀ b, v.ownBlock = some b → w.heap.size ≤ b ∧ b < wa.heap.size := fun b e => hv.lt b e
  have hsz := hb.size
  have hold : ∀ (i : Nat) (v' : Value), V[i]? = some v' → ∀ b, v'.ownBlock = some b → b < w.heap.size := fun i v' hi b e => by
    obtain ⟨v2, h1, h2⟩ := h.at_ (i := i) (by rw [← hl]; exact (List.getElem?_eq_some_iff.1 hi).1)
    rw [hi] at h1
    cases h1
    exact ((h.row i v' _ hi h2).lt b e).2
  have hcase : ∀ (i : Nat) (v' : Value), (V ++ [v])[i]? = some v' → (V[i]? = some v' ∧ i < L.length) ∨ (v' = v ∧ i = L.length) := fun i v' hi => by
    rcases Nat.lt_or_ge i V.length with h1 | h1
    · rw [List.getElem?_append_left h1] at hi
      exact .inl ⟨hi, by omega⟩
    · rw [List.getElem?_append_right h1] at hi
      have h2 : i - V.length = 0 := by
        rcases Nat.eq_zero_or_pos (i - V.length) with h3 | h3
        · exact h3
        · rw [List.getElem?_eq_none (by simp; omega)] at hi; cases hi
      rw [h2] at hi
      simp at hi
      exact .inr ⟨hi.symm, by omega⟩
  refine ⟨by simpa using hown, fun i v' l hi hl' => ?_, fun i v' hi b e1 e2 => ?_, fun i j v1 v2 hij hi hj b e1 e2 => ?_⟩
  · rcases hcase i v' hi with ⟨h1, h2⟩ | ⟨rfl, h2⟩
    · rw [List.getElem?_append_left h2] at hl'
      refine owns_keep (owns_belowS (h.row i v' l h1 hl') hb) hg (fun b e1 e2 => h.apO i v' h1 b e1 e2)
    · rw [List.getElem?_append_right (by omega), h2, Nat.sub_self] at hl'
      simp at hl'
      subst hl'
      exact owns_mono (owns_keep hv hg (fun b e1 e2 => by have := hvb b e1; have := hub b e2; omega)) hB
  · have e3 : g = b := by simpa [Value.ownBlock] using e2
    subst e3
    rcases hcase i v' hi with ⟨h1, h2⟩ | ⟨rfl, h2⟩
    · have h3 := hold i v' h1 g e1
      rcases hat with h4 | h4
      · exact h.apO i v' h1 g e1 h4
      · omega
    · have h3 := hvb g e1
      rcases hat with h4 | h4
      · have := hub g h4; omega
      · omega
  · rcases hcase i v1 hi with ⟨h1, h2⟩ | ⟨rfl, h2⟩ <;> rcases hcase j v2 hj with ⟨h3, h4⟩ | ⟨rfl, h4⟩
    · exact h.apI i j v1 v2 hij h1 h3 b e1 e2
    · have := hold i v1 h1 b e1; have := hvb b e2; omega
    · have := hold j v2 h3 b e2; have := hvb b e1; omega
    · omega
/-- an element more in one of the lists -/
theorem LLs.put {v : Value} {i n c gO g cap : Nat} {x : Int} (h : LLs wa base (.slice (some ⟨gO, 0, none⟩) n c) L V) (hi : i < L.length) (hv : V[i]? = some v)
    (hown : w5.ownsRow base 2 1 (.slice (some ⟨g, 0, none⟩) ((L.getD i []).length + 1) cap) ((L.getD i []).length + 1) (ivs (L.getD i []) ++ [.int .i64 x])) (hg : wa.grownBy w5 v.ownBlock) (hat : v.ownBlock = some g ∨ wa.heap.size ≤ g) :
    LLs (w5.setCell ⟨gO, i, none⟩ (.slice (some ⟨g, 0, none⟩) ((L.getD i []).length + 1) cap)) base (.slice (some ⟨gO, 0, none⟩) n c) (snocAt L i x) (V.set i (.slice (some ⟨g, 0, none⟩) ((L.getD i []).length + 1) cap)) := by
  have hl := h.len
  have hgO : gO < wa.heap.size := (h.out.lt gO rfl).2
  have hold : ∀ (j : Nat) (v' : Value), V[j]? = some v' → ∀ b, v'.ownBlock = some b → b < wa.heap.size := fun j v' hj b e => by
    obtain ⟨v2, h1, h2⟩ := h.at_ (i := j) (by rw [← hl]; exact (List.getElem?_eq_some_iff.1 hj).1)
    exact ((h.row j v' _ hj h2).lt b e).2
  have hne : g ≠ gO := by
    rcases hat with h1 | h1
    · exact fun e => h.apO i v hv g h1 (by rw [e]; rfl)
    · omega
  have hap : ∀ (j : Nat) (v' : Value), j ≠ i → V[j]? = some v' → NoC v' (.slice (some ⟨g, 0, none⟩) ((L.getD i []).length + 1) cap) := fun j v' hj hv' b e1 e2 => by
    have e3 : g = b := by simpa [Value.ownBlock] using e2
    subst e3
    rcases hat with h1 | h1
    · exact h.apI j i v' v hj hv' hv g e1 h1
    · have := hold j v' hv' g e1; omega
  have hset : ∀ (j : Nat) (v' : Value), (V.set i (.slice (some ⟨g, 0, none⟩) ((L.getD i []).length + 1) cap))[j]? = some v' → (j = i ∧ v' = .slice (some ⟨g, 0, none⟩) ((L.getD i []).length + 1) cap) ∨ (j ≠ i ∧ V[j]? = some v') := fun j v' hj => by
    rw [List.getElem?_set] at hj
    by_cases e : i = j
    · rw [if_pos e, if_pos (by omega)] at hj
      exact .inl ⟨e.symm, by simpa using hj.symm⟩
    · rw [if_neg e] at hj
      exact .inr ⟨fun e2 => e e2.symm, hj⟩
  have hn : n = L.length := by
    rcases h.out.2 with ⟨e, -⟩ | ⟨g1, c1, cur, e, -⟩
    · cases e
    · injection e
  subst hn
  have hOut : w5.ownsRow base 24 1 (.slice (some ⟨gO, 0, none⟩) L.length c) L.length V := owns_keep h.out hg (fun b e1 e2 => by
    have e3 : gO = b := by simpa [Value.ownBlock] using e1
    subst e3
    exact h.apO i v hv gO e2 rfl)
  refine ⟨?_, fun j v' l hj hl' => ?_, fun j v' hj => ?_, fun j k v1 v2 hjk hj hk => ?_⟩
  · rw [snoc_len]
    exact owns_putJ hOut hi _
  · unfold snocAt at hl'
    rcases hset j v' hj with ⟨rfl, rfl⟩ | ⟨h1, h2⟩
    · rw [List.getElem?_set, if_pos rfl, if_pos hi] at hl'
      simp at hl'
      subst hl'
      have e : ivs (L.getD j [] ++ [x]) = ivs (L.getD j []) ++ [.int .i64 x] := by simp [ivs]
      rw [List.getD_eq_getElem?_getD] at e hown ⊢
      rw [e, List.length_append]
      exact owns_keep hown (grown_set w5 gO j _) (fun b e1 e2 => by simp [Value.ownBlock] at e1 e2; omega)
    · rw [List.getElem?_set, if_neg (fun e => h1 e.symm)] at hl'
      exact owns_keep (owns_keep (h.row j v' l h2 hl') hg (fun b e1 e2 => h.apI j i v' v h1 h2 hv b e1 e2)) (grown_set w5 gO i _) (fun b e1 e2 => by
        have e3 : gO = b := by simpa using e2
        subst e3
        exact h.apO j v' h2 gO e1 rfl)
  · rcases hset j v' hj with ⟨rfl, rfl⟩ | ⟨h1, h2⟩
    · intro b e1 e2
      simp [Value.ownBlock] at e1 e2
      omega
    · exact h.apO j v' h2
  · rcases hset j v1 hj with ⟨rfl, rfl⟩ | ⟨h1, h2⟩ <;> rcases hset k v2 hk with ⟨rfl, rfl⟩ | ⟨h3, h4⟩
    · exact absurd rfl hjk
    · intro b e1 e2; exact hap k v2 h3 h4 b e2 e1
    · exact hap j v1 h1 h2
    · exact h.apI j k v1 v2 hjk h2 h4
end
end Go.Proofs.Ytneknajeecgnoaa.Base
