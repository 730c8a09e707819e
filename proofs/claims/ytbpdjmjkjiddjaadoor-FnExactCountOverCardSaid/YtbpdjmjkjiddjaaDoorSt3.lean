/-
  The rule of XSt2 for ten operations.
-/
import Derived.Test.YtbpdjmjkjiddjaaDoorSt2
namespace Go.Proofs.YtbpdjmjkjiddjaaDoor.Base
open Go Go.RowKit
set_option linter.unusedVariables false
set_option linter.unusedSimpArgs false

theorem stab_two10 {P : Program} {x0 x1 x2 x3 x4 x5 x6 x7 o1 o2 : Oper} {Q : Exit → Act → World → Prop} {l' : Nat} {nF : Nat} {id : Nat} {a0 : Act} {w0 : World} (dl : List (Option Nat)) (ds X : List Nat) (Bx : List (Nat × Nat)) (Φ : List Fact) (As Ds : List (List Nat)) (hd : ∀ x ∈ ([x0, x1, x2, x3, x4, x5, x6, x7] ++ [o1]) ++ [o2], ∀ c, x.op ≠ .defer c) (hm : P.follows .mixedOrders = true) (hB : stabB [x0, x1, x2, x3, x4, x5, x6, x7] dl ds Bx As Ds = true) (hL1 : lastB [x0, x1, x2, x3, x4, x5, x6, x7] o1 = true) (hL2 : lastB ([x0, x1, x2, x3, x4, x5, x6, x7] ++ [o1]) o2 = true) (hX : ∀ k ∈ X, k < w0.drew.heap.size)
    (hst : StableAll w0.drew.heap.size X Φ) (hop : OblAll P [x0, x1, x2, x3, x4, x5, x6, x7] (lastQ P o1 (lastQ P o2 Q)) a0 dl ds X Bx Φ Ds w0.drew 0 [x0, x1, x2, x3, x4, x5, x6, x7] As)
    (hend : ∀ (vs : Nat → Value) (iv : Nat → Nat × Nat) (w : World), Ext X w0.drew w → Apart Bx iv 8 → AllFacts Φ Bx Ds w0.drew.heap.size vs iv w 0 dl → Shut (o1.wp P (setA a0 ds vs) w (fun a w => o2.wp P a w (fun a w => Q .normal a w) Q) (lastQ P o2 Q))) :
    (Code.region id #[x0, x1, x2, x3, x4, x5, x6, x7, o1, o2] true).wpIn (Fence.wide.inRound l') nF P Q a0 w0 := wpIn_region_stab_last2 (l := [x0, x1, x2, x3, x4, x5, x6, x7]) dl ds X Bx Φ As Ds hd hm hB hL1 hL2 hX hst hop hend
end Go.Proofs.YtbpdjmjkjiddjaaDoor.Base
