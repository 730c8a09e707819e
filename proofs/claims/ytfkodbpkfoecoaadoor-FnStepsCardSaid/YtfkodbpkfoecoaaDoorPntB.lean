/-
  FnPoints: the contracts at the inner points of a valid panel.
-/
import Derived.Test.YtfkodbpkfoecoaaDoorPnt
namespace Go.Proofs.YtfkodbpkfoecoaaDoor.Base
open Go.RowKit
set_option linter.unusedVariables false

theorem valid_mk {W H : Int} {n : Nat} {f : Nat → Int} (hW : sideB W = true) (hH : sideB H = true) (hn : (n : Int) = inner W H) (hK : kindsB n f = true) : validB W H n f = true := by
  unfold validB
  simp [hW, hH, hn, hK]
section
variable {W H : Int} {A : Option Addr} {n c : Nat} {f : Nat → Int}
theorem specPointAt_k (w : World) (k : Int) (hr : Row .i64 w A n c f) (hv : validB W H n f = true) (h0 : 0 ≤ k) (h1 : k < n) :
    Calls Tryd.prog 36 #[.agg #[.int .i64 W, .int .i64 H, .slice A n c], .int .i64 k] w (Gives (.tuple #[.agg #[.int .i64 (ptX W k), .int .i64 (ptY W k)], .int .i64 0]) w) := by
  have hk : inB k 0 (n - 1) = true := decide_eq_true ⟨h0, by omega⟩
  have h := spec_pointAt w W H A n c f k hr
  rwa [(at_in hv hk).1, (at_in hv hk).2.1, (at_in hv hk).2.2] at h
theorem numberOf_k (w : World) (x y k : Int) (hr : Row .i64 w A n c f) (hv : validB W H n f = true) (hh : hasB W H x y = true) (he : edgeB W H x y = false) (hk : numN W x y = k) :
    Calls Tryd.prog 98 #[.agg #[.int .i64 W, .int .i64 H, .slice A n c], .agg #[.int .i64 x, .int .i64 y]] w (Gives (.tuple #[.int .i64 k, .int .i64 0]) w) := by
  have h := impl_numberOf w W H A n c f x y hr
  rwa [(code_0 hv hh he).1, (code_0 hv hh he).2, hk] at h
end
def sumC (f : Nat → Int) (n : Nat) (j : Int) : Int := if j = 0 then 0 else if j = 1 then cntK 0 f n else if j = 2 then cntK 0 f n + cntK 1 f n else cntK 0 f n + cntK 1 f n + cntK 2 f n
theorem sumC_succ (f : Nat → Int) (n : Nat) {j : Int} (h0 : 0 ≤ j) (h1 : j < 3) : sumC f n (j + 1) = sumC f n j + cntK j f n := by
  have h : j = 0 ∨ j = 1 ∨ j = 2 := by omega
  rcases h with rfl | rfl | rfl <;> simp [sumC]
theorem sumC_bd (f : Nat → Int) (n : Nat) (j : Int) : 0 ≤ sumC f n j ∧ sumC f n j ≤ 3 * n := by
  have h0 := cntK_bd 0 f n
  have h1 := cntK_bd 1 f n
  have h2 := cntK_bd 2 f n
  unfold sumC
  split
  · omega
  · split
    · omega
    · split <;> omega
def lastX (W k : Int) : Int := if k = 0 then 0 else ptX W (k - 1)
def lastY (W k : Int) : Int := if k = 0 then 0 else ptY W (k - 1)
theorem Cel.ext {w w' : World} {X : List Nat} {p : Nat} {cs : List Value} (h : Cel w p cs) (e : Ext X w w') (hx : p ∉ X) : Cel w' p cs :=
  ⟨Nat.lt_of_lt_of_le h.1 e.size, fun i v hv => e.cell (h.2 i v hv) hx⟩
end Go.Proofs.YtfkodbpkfoecoaaDoor.Base
