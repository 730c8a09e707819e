/-
  FnPoints: its plain mathematics, its helpers, its loops.
-/
import Derived.Test.YtneknajeecgnoaaDrw
import Derived.Test.YtneknajeecgnoaaNum
import Derived.Test.YtneknajeecgnoaaSetC
namespace Go.Proofs.Ytneknajeecgnoaa.Base
open Go.RowKit
set_option linter.unusedVariables false
set_option linter.unusedSimpArgs false

theorem pt_is {W H k : Int} (hW : sideB W = true) (hH : sideB H = true) (hk : 0 ≤ k) (hk' : k < inner W H) :
    hasB W H (ptX W k) (ptY W k) = true ∧ edgeB W H (ptX W k) (ptY W k) = false ∧ numN W (ptX W k) (ptY W k) = k := by
  obtain ⟨a1, a2⟩ := side_mk hW
  obtain ⟨b1, b2⟩ := side_mk hH
  obtain ⟨p1, p2, p3, p4⟩ := pt_rows a1 hk
  have p5 := pt_end a1 b1 hk hk'
  have p6 := rowN_succ W (ptY W k) p1
  have p7 : (0 ≤ ptX W k ∧ 1 ≤ ptX W k) ∧ ptX W k ≤ 2 * W - 1 ∧ (ptX W k + ptY W k) % 2 = 1 := by
    split at p6 <;> omega
  refine ⟨?_, ?_, ?_⟩
  · have h1 : inB (ptX W k) 0 (2 * W) = true := decide_eq_true ⟨by omega, by omega⟩
    have h2 : inB (ptY W k) 0 (2 * H) = true := decide_eq_true ⟨by omega, by omega⟩
    simp [hasB, h1, h2, p7.2.2]
  · unfold edgeB
    exact decide_eq_false (by omega)
  · unfold numN
    split at p6 <;> omega
theorem pt_next {W H k : Int} (hW : sideB W = true) (hk : 1 ≤ k) : ptY W (k - 1) < ptY W k ∨ ptY W k = ptY W (k - 1) ∧ ptX W (k - 1) < ptX W k := by
  obtain ⟨a1, a2⟩ := side_mk hW
  obtain ⟨p1, p2, p3, p4⟩ := pt_rows (k := k) a1 (by omega)
  obtain ⟨q1, q2, q3, q4⟩ := pt_rows (k := k - 1) a1 (by omega)
  rcases Int.lt_trichotomy (ptY W (k - 1)) (ptY W k) with h | h | h
  · exact .inl h
  · right
    refine ⟨h.symm, ?_⟩
    rw [p4, q4, ← h]
    omega
  · exfalso
    have := rowN_le a1 (by omega) (show ptY W k + 1 ≤ ptY W (k - 1) by omega)
    omega
theorem cnt_all {n : Nat} {f : Nat → Int} (h : kindsB n f = true) : cntK 0 f n + cntK 1 f n + cntK 2 f n = n := by
  have hh := kinds_iff.1 h
  have key : ∀ m, m ≤ n → cntK 0 f m + cntK 1 f m + cntK 2 f m = m := by
    intro m
    induction m with
    | zero => intro _; simp [cntK]
    | succ m ih =>
      intro hm
      have h1 := ih (by omega)
      have h2 := hh m (by omega)
      simp only [cntK]
      have h3 : f m = 0 ∨ f m = 1 ∨ f m = 2 := by omega
      rcases h3 with h3 | h3 | h3 <;> simp [h3] <;> omega
  exact key n (Nat.le_refl _)
def longB (n m : Nat) : Bool := decide (3000 < n ∨ 3000 < m)
theorem a2Long_any (w : World) (A B : Option Addr) (n c m d : Nat) (hn : n ≤ maxLen) (hm : m ≤ maxLen) : Calls Try.prog 12 #[.slice A n c, .slice B m d] w fun e w' => e = .returned (.bool (longB n m)) ∧ w = w' := by
  unfold maxLen at hn hm
  by_cases h1 : 3000 < (n : Int)
  · have e : longB n m = true := decide_eq_true (by omega)
    rw [e]
    clear e
    go_enter Try.func12, Try.ntmps12
    go_wp2
    go_ret
    exact ⟨rfl, rfl⟩
  · by_cases h2 : 3000 < (m : Int)
    · have e : longB n m = true := decide_eq_true (by omega)
      rw [e]
      clear e
      go_enter Try.func12, Try.ntmps12
      go_wp2
      go_ret
      exact ⟨rfl, rfl⟩
    · have e : longB n m = false := decide_eq_false (by omega)
      rw [e]
      clear e
      go_enter Try.func12, Try.ntmps12
      go_wp2
      go_ret
      exact ⟨rfl, rfl⟩
def SomeLt (m : Int) (w : World) (e : Ending) (w' : World) : Prop := ∃ v : Int, e = .returned (.int .i64 v) ∧ 0 ≤ v ∧ v < m ∧ w = w'
theorem a2At_any (w : World) (A : Option Addr) (n c : Nat) (f : Nat → Int) (at' m : Int) (hr : Row .u8 w A n c f) (h0 : 0 ≤ at') (h1 : 1 ≤ m) (h2 : m ≤ 1000) (hn : n ≤ 3000) :
    Calls Try.prog 14 #[.slice A n c, .int .i64 at', .int .i64 m] w (SomeLt m w) := by
  have hnc := hr.1
  have hcm := hr.2.1
  unfold maxLen at hcm
  by_cases hl : at' < n
  · obtain ⟨b, o, rfl, hb, hc⟩ := hr.2.2.2 (by omega)
    have ck := hc at'.toNat (by omega)
    obtain ⟨q1, q2⟩ := u8_bd (hr.2.2.1 at'.toNat (by omega))
    have r1 : 0 ≤ f at'.toNat % m := Int.emod_nonneg _ (by omega)
    have r2 : f at'.toNat % m < m := Int.emod_lt_of_pos _ (by omega)
    clear hc hr
    go_enter Try.func14, Try.ntmps14
    go_wp2
    go_ret
    exact ⟨_, rfl, r1, r2, rfl⟩
  · clear hr
    have hl' : (n : Int) ≤ at' := by omega
    go_enter Try.func14, Try.ntmps14
    go_wp2
    go_ret
    exact ⟨0, rfl, by omega, by omega, rfl⟩
end Go.Proofs.Ytneknajeecgnoaa.Base

namespace Go.Proofs.Ytneknajeecgnoaa.Base
open Go.RowKit
set_option linter.unusedVariables false

theorem valid_mk {W H : Int} {n : Nat} {f : Nat → Int} (hW : sideB W = true) (hH : sideB H = true) (hn : (n : Int) = inner W H) (hK : kindsB n f = true) : validB W H n f = true := by
  unfold validB
  simp [hW, hH, hn, hK]
section
variable {W H : Int} {A : Option Addr} {n c : Nat} {f : Nat → Int}
end
def sumC (f : Nat → Int) (n : Nat) (j : Int) : Int := if j = 0 then 0 else if j = 1 then cntK 0 f n else if j = 2 then cntK 0 f n + cntK 1 f n else cntK 0 f n + cntK 1 f n + cntK 2 f n
theorem sumC_succ (f : Nat → Int) (n : Nat) {j : Int} (h0 : 0 ≤ j) (h1 : j < 3) : sumC f n (j + 1) = sumC f n j + cntK j f n := by
  have h : j = 0 ∨ j = 1 ∨ j = 2 := by omega
  rcases h with rfl | rfl | rfl <;> simp [sumC]
theorem sumC_bd (f : Nat → Int) (n : Nat) (j : Int) : 0 ≤ sumC f n j ∧ sumC f n j ≤ 3 * n := by
  have h0 := cntK_bd 0 f n
  have h1 := cntK_bd 1 f n
  have h2 := cntK_bd 2 f n
  unfold sumC
  split
  · omega
  · split
    · omega
    · split <;> omega
def lastX (W k : Int) : Int := if k = 0 then 0 else ptX W (k - 1)
def lastY (W k : Int) : Int := if k = 0 then 0 else ptY W (k - 1)
theorem Cel.ext {w w' : World} {X : List Nat} {p : Nat} {cs : List Value} (h : Cel w p cs) (e : Ext X w w') (hx : p ∉ X) : Cel w' p cs :=
  ⟨Nat.lt_of_lt_of_le h.1 e.size, fun i v hv => e.cell (h.2 i v hv) hx⟩
end Go.Proofs.Ytneknajeecgnoaa.Base
