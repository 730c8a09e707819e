/-
  A region in a round whose last two operations wait for all others: the others in any order, then the two.
-/
import Derived.Test.YtbpdjmjkjiddjaaDoorStl
namespace Go.Proofs.YtbpdjmjkjiddjaaDoor.Base
open Go Go.RowKit
set_option linter.unusedVariables false
set_option linter.unusedSimpArgs false

section
variable {P : Program} {l : List Oper} {o1 o2 : Oper} {Q : Exit → Act → World → Prop}
theorem push_repl (n : Nat) : (Array.replicate n false).push false = Array.replicate (n + 1) false := by
  refine Array.ext_getElem? (fun j => ?_)
  rw [Array.getElem?_push]
  simp only [Array.getElem?_replicate, Array.size_replicate]
  by_cases e : j = n
  · simp [e]
  · rw [if_neg e]
    by_cases f : j < n
    · rw [if_pos f, if_pos (by omega)]
    · rw [if_neg f, if_neg (by omega)]
/-- THE RULE: all but the last two as in wpIn_region_stab, then the two -/
theorem wpIn_region_stab_last2 {l' : Nat} {nF : Nat} {id : Nat} {a0 : Act} {w0 : World} (dl : List (Option Nat)) (ds X : List Nat) (Bx : List (Nat × Nat)) (Φ : List Fact) (As Ds : List (List Nat)) (hd : ∀ x ∈ (l ++ [o1]) ++ [o2], ∀ c, x.op ≠ .defer c) (hm : P.follows .mixedOrders = true) (hB : stabB l dl ds Bx As Ds = true) (hL1 : lastB l o1 = true) (hL2 : lastB (l ++ [o1]) o2 = true) (hX : ∀ k ∈ X, k < w0.drew.heap.size)
    (hst : StableAll w0.drew.heap.size X Φ) (hop : OblAll P l (lastQ P o1 (lastQ P o2 Q)) a0 dl ds X Bx Φ Ds w0.drew 0 l As)
    (hend : ∀ (vs : Nat → Value) (iv : Nat → Nat × Nat) (w : World), Ext X w0.drew w → Apart Bx iv l.length → AllFacts Φ Bx Ds w0.drew.heap.size vs iv w 0 dl → Shut (o1.wp P (setA a0 ds vs) w (fun a w => o2.wp P a w (fun a w => Q .normal a w) Q) (lastQ P o2 Q))) :
    (Code.region id ((l ++ [o1]) ++ [o2]).toArray true).wpIn (Fence.wide.inRound l') nF P Q a0 w0 := by
  refine wpIn_region_any hm ?_
  refine wpAnyS_in hd _ _ _ _ ?_
  have hno : ∀ j, (Array.replicate l.toArray.size false).getD j false = false := fun j => by simp [Array.getD]
  have hno2 : ∀ j, (Array.replicate (l.length + 1) false).getD j false = false := fun j => by simp [Array.getD]
  have h := wpAnyS_stab (Q := lastQ P o1 (lastQ P o2 Q)) hB hX hst hop (fun vs iv w h1 h2 h3 => (hend vs iv w h1 h2 h3).out) l.toArray.size (Array.replicate l.toArray.size false) (fun d => a0.tmps.getD d undef) (fun _ => (0, 0)) w0.drew (by simp)
    ⟨by simp, fun j oj hj => (by rw [hno] at hj; cases hj), fun j oj hj => (by rw [hno] at hj; cases hj), fun j hj => (by rw [hno] at hj; cases hj), fun i j hi => (by rw [hno] at hi; cases hi), Ext.refl _ _⟩
  rw [setA_self] at h
  have h2 := wpAnyS_last hL1 _ _ _ _ (by simp) (fun i x hx hl j hj => by rw [hno] at hl; cases hl) h
  rw [List.size_toArray, push_repl] at h2
  have h3 := wpAnyS_last hL2 _ _ _ _ (by simp) (fun i x hx hl j hj => by rw [hno2] at hl; cases hl) h2
  rw [push_repl] at h3
  simpa using h3
end
theorem stab_two8 {P : Program} {x0 x1 x2 x3 x4 x5 o1 o2 : Oper} {Q : Exit → Act → World → Prop} {l' : Nat} {nF : Nat} {id : Nat} {a0 : Act} {w0 : World} (dl : List (Option Nat)) (ds X : List Nat) (Bx : List (Nat × Nat)) (Φ : List Fact) (As Ds : List (List Nat)) (hd : ∀ x ∈ ([x0, x1, x2, x3, x4, x5] ++ [o1]) ++ [o2], ∀ c, x.op ≠ .defer c) (hm : P.follows .mixedOrders = true) (hB : stabB [x0, x1, x2, x3, x4, x5] dl ds Bx As Ds = true) (hL1 : lastB [x0, x1, x2, x3, x4, x5] o1 = true) (hL2 : lastB ([x0, x1, x2, x3, x4, x5] ++ [o1]) o2 = true) (hX : ∀ k ∈ X, k < w0.drew.heap.size)
    (hst : StableAll w0.drew.heap.size X Φ) (hop : OblAll P [x0, x1, x2, x3, x4, x5] (lastQ P o1 (lastQ P o2 Q)) a0 dl ds X Bx Φ Ds w0.drew 0 [x0, x1, x2, x3, x4, x5] As)
    (hend : ∀ (vs : Nat → Value) (iv : Nat → Nat × Nat) (w : World), Ext X w0.drew w → Apart Bx iv 6 → AllFacts Φ Bx Ds w0.drew.heap.size vs iv w 0 dl → Shut (o1.wp P (setA a0 ds vs) w (fun a w => o2.wp P a w (fun a w => Q .normal a w) Q) (lastQ P o2 Q))) :
    (Code.region id #[x0, x1, x2, x3, x4, x5, o1, o2] true).wpIn (Fence.wide.inRound l') nF P Q a0 w0 := wpIn_region_stab_last2 (l := [x0, x1, x2, x3, x4, x5]) dl ds X Bx Φ As Ds hd hm hB hL1 hL2 hX hst hop hend
end Go.Proofs.YtbpdjmjkjiddjaaDoor.Base
