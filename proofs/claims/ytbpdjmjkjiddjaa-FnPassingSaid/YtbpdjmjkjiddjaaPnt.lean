/-
  FnPoints: its plain mathematics, its helpers, its loops.
-/
import Derived.Test.YtbpdjmjkjiddjaaDrw
import Derived.Test.YtbpdjmjkjiddjaaNum
import Derived.Test.YtbpdjmjkjiddjaaSetC
namespace Go.Proofs.Ytbpdjmjkjiddjaa.Base
open Go.RowKit
set_option linter.unusedVariables false
set_option linter.unusedSimpArgs false

theorem pt_is {W H k : Int} (hW : sideB W = true) (hH : sideB H = true) (hk : 0 ≤ k) (hk' : k < inner W H) :
    hasB W H (ptX W k) (ptY W k) = true ∧ edgeB W H (ptX W k) (ptY W k) = false ∧ numN W (ptX W k) (ptY W k) = k := by
  obtain ⟨a1, a2⟩ := side_mk hW
  obtain ⟨b1, b2⟩ := side_mk hH
  obtain ⟨p1, p2, p3, p4⟩ := pt_rows a1 hk
  have p5 := pt_end a1 b1 hk hk'
  have p6 := rowN_succ W (ptY W k) p1
  have p7 : (0 ≤ ptX W k ∧ 1 ≤ ptX W k) ∧ ptX W k ≤ 2 * W - 1 ∧ (ptX W k + ptY W k) % 2 = 1 := by
    split at p6 <;> omega
  refine ⟨?_, ?_, ?_⟩
  · have h1 : inB (ptX W k) 0 (2 * W) = true := decide_eq_true ⟨by omega, by omega⟩
    have h2 : inB (ptY W k) 0 (2 * H) = true := decide_eq_true ⟨by omega, by omega⟩
    simp [hasB, h1, h2, p7.2.2]
  · unfold edgeB
    exact decide_eq_false (by omega)
  · unfold numN
    split at p6 <;> omega
theorem pt_next {W H k : Int} (hW : sideB W = true) (hk : 1 ≤ k) : ptY W (k - 1) < ptY W k ∨ ptY W k = ptY W (k - 1) ∧ ptX W (k - 1) < ptX W k := by
  obtain ⟨a1, a2⟩ := side_mk hW
  obtain ⟨p1, p2, p3, p4⟩ := pt_rows (k := k) a1 (by omega)
  obtain ⟨q1, q2, q3, q4⟩ := pt_rows (k := k - 1) a1 (by omega)
  rcases Int.lt_trichotomy (ptY W (k - 1)) (ptY W k) with h | h | h
  · exact .inl h
  · right
    refine ⟨h.symm, ?_⟩
    rw [p4, q4, ← h]
    omega
  · exfalso
    have := rowN_le a1 (by omega) (show ptY W k + 1 ≤ ptY W (k - 1) by omega)
    omega
theorem cnt_all {n : Nat} {f : Nat → Int} (h : kindsB n f = true) : cntK 0 f n + cntK 1 f n + cntK 2 f n = n := by
  have hh := kinds_iff.1 h
  have key : ∀ m, m ≤ n → cntK 0 f m + cntK 1 f m + cntK 2 f m = m := by
    intro m
    induction m with
    | zero => intro _; simp [cntK]
    | succ m ih =>
      intro hm
      have h1 := ih (by omega)
      have h2 := hh m (by omega)
      simp only [cntK]
      have h3 : f m = 0 ∨ f m = 1 ∨ f m = 2 := by omega
      rcases h3 with h3 | h3 | h3 <;> simp [h3] <;> omega
  exact key n (Nat.le_refl _)
def longB (n m : Nat) : Bool := decide (3000 < n ∨ 3000 < m)
theorem a2Long_any (w : World) (A B : Option Addr) (n c m d : Nat) (hn : n ≤ maxLen) (hm : m ≤ maxLen) : Calls Try.prog 34 #[.slice A n c, .slice B m d] w fun e w' => e = .returned (.bool (longB n m)) ∧ w = w' := by
  unfold maxLen at hn hm
  by_cases h1 : 3000 < (n : Int)
  · have e : longB n m = true := decide_eq_true (by omega)
    rw [e]
    clear e
    go_enter Try.func34, Try.ntmps34
    go_wp2
    go_ret
    exact ⟨rfl, rfl⟩
  · by_cases h2 : 3000 < (m : Int)
    · have e : longB n m = true := decide_eq_true (by omega)
      rw [e]
      clear e
      go_enter Try.func34, Try.ntmps34
      go_wp2
      go_ret
      exact ⟨rfl, rfl⟩
    · have e : longB n m = false := decide_eq_false (by omega)
      rw [e]
      clear e
      go_enter Try.func34, Try.ntmps34
      go_wp2
      go_ret
      exact ⟨rfl, rfl⟩
def SomeLt (m : Int) (w : World) (e : Ending) (w' : World) : Prop := ∃ v : Int, e = .returned (.int .i64 v) ∧ 0 ≤ v ∧ v < m ∧ w = w'
end Go.Proofs.Ytbpdjmjkjiddjaa.Base

namespace Go.Proofs.Ytbpdjmjkjiddjaa.Base
open Go.RowKit
set_option linter.unusedVariables false

theorem valid_mk {W H : Int} {n : Nat} {f : Nat → Int} (hW : sideB W = true) (hH : sideB H = true) (hn : (n : Int) = inner W H) (hK : kindsB n f = true) : validB W H n f = true := by
  unfold validB
  simp [hW, hH, hn, hK]
section
variable {W H : Int} {A : Option Addr} {n c : Nat} {f : Nat → Int}
theorem numberOf_k (w : World) (x y k : Int) (hr : Row .i64 w A n c f) (hv : validB W H n f = true) (hh : hasB W H x y = true) (he : edgeB W H x y = false) (hk : numN W x y = k) :
    Calls Try.prog 87 #[.agg #[.int .i64 W, .int .i64 H, .slice A n c], .agg #[.int .i64 x, .int .i64 y]] w (Gives (.tuple #[.int .i64 k, .int .i64 0]) w) := by
  have h := impl_numberOf w W H A n c f x y hr
  rwa [(code_0 hv hh he).1, (code_0 hv hh he).2, hk] at h
theorem breakAt_k (w : World) (x y k : Int) (hr : Row .i64 w A n c f) (hv : validB W H n f = true) (hh : hasB W H x y = true) (he : edgeB W H x y = false) (hk : numN W x y = k) :
    Calls Try.prog 71 #[.agg #[.int .i64 W, .int .i64 H, .slice A n c], .agg #[.int .i64 x, .int .i64 y]] w (Gives (.tuple #[.int .i64 (f k.toNat), .int .i64 0]) w) := by
  have h := impl_breakAt w W H A n c f x y hr
  have hb : brkP W H n f x y = f k.toNat := by unfold brkP; rw [if_pos (code_0 hv hh he).1, hk]
  rwa [(code_0 hv hh he).1, hb] at h
end
def sumC (f : Nat → Int) (n : Nat) (j : Int) : Int := if j = 0 then 0 else if j = 1 then cntK 0 f n else if j = 2 then cntK 0 f n + cntK 1 f n else cntK 0 f n + cntK 1 f n + cntK 2 f n
theorem sumC_succ (f : Nat → Int) (n : Nat) {j : Int} (h0 : 0 ≤ j) (h1 : j < 3) : sumC f n (j + 1) = sumC f n j + cntK j f n := by
  have h : j = 0 ∨ j = 1 ∨ j = 2 := by omega
  rcases h with rfl | rfl | rfl <;> simp [sumC]
theorem sumC_bd (f : Nat → Int) (n : Nat) (j : Int) : 0 ≤ sumC f n j ∧ sumC f n j ≤ 3 * n := by
  have h0 := cntK_bd 0 f n
  have h1 := cntK_bd 1 f n
  have h2 := cntK_bd 2 f n
  unfold sumC
  split
  · omega
  · split
    · omega
    · split <;> omega
def lastX (W k : Int) : Int := if k = 0 then 0 else ptX W (k - 1)
def lastY (W k : Int) : Int := if k = 0 then 0 else ptY W (k - 1)
theorem Cel.ext {w w' : World} {X : List Nat} {p : Nat} {cs : List Value} (h : Cel w p cs) (e : Ext X w w') (hx : p ∉ X) : Cel w' p cs :=
  ⟨Nat.lt_of_lt_of_le h.1 e.size, fun i v hv => e.cell (h.2 i v hv) hx⟩
end Go.Proofs.Ytbpdjmjkjiddjaa.Base
