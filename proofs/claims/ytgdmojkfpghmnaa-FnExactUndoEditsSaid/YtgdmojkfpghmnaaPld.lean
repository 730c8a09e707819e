/-
  A forest out of joined elements.
-/
import Derived.Test.YtgdmojkfpghmnaaFst
import Derived.Test.YtgdmojkfpghmnaaClone
import Derived.Test.YtgdmojkfpghmnaaJn
import Derived.Deep.DeepCutAuto
namespace Go.Proofs.Ytgdmojkfpghmnaa.Base
open Go Go.RowKit
set_option linter.unusedVariables false
set_option linter.unusedSimpArgs false
/-- a copy of a list that the call has made -/
def CloneOut (n : Nat) (f : Nat → Int) (w : World) (e : Ending) (w' : World) : Prop :=
  ∃ v, e = .returned v ∧ w'.ownsRow w.heap.size 2 1 v n (cellsOfF n f) ∧ Below w.heap.size w w'
theorem cells_zero (f : Nat → Int) : cellsOfF 0 f = [] := by simp [cellsOfF]
theorem clone_own (w : World) (A : Option Addr) (n c : Nat) (f : Nat → Int) (hr : Row .i64 w A n c f) (hn2 : n ≤ 1048576) :
    Calls Try.prog 37 #[.slice A n c] w (CloneOut n f w) := by
  obtain ⟨hnc, hcm, hwf, hcell⟩ := hr
  obtain ⟨i0, hi, hz0, hz1, hz2⟩ := info_parts infoI64
  have HBL := Lib.hid (show Below w.heap.size w (w.alloc (.cells #[] 2)) from (Below.refl _ _).alloc (Nat.le_refl _) _)
  have hnil := fun (W : World) => Lib.run_eql_slice_nil (P := Try.prog) W 22 2 A n c 0 0 Try.underlying22
  by_cases hn : 0 < n
  · obtain ⟨b, o, rfl, hb, hc⟩ := hcell hn
    have HC := Lib.hid hc
    clear hcell hc hwf
    go_enter Try.func37, Try.ntmps37
    go_wp2_with (at_builtin; refine wpList_append_own _ rfl (.tmp 5) (.tmp 6) 22 rfl w.heap.size 2 i0 (.int .i64 0) 1 8 Try.underlying22 hi hz0 hz1 hz2 rfl (by decide) _ 0 [] rfl (owns_empty w _) ⟨b, o, none⟩ n c (cellsOfF n f) rfl ?c1 ?c2 ?c3 ?c4 ?c5 ?c6 ?_)
    case c1 => rw [cellsOfF_len]; omega
    case c2 =>
      intro j u hj
      have hjn : j < n := by
        rcases Nat.lt_or_ge j n with h | h
        · exact h
        · rw [List.getElem?_eq_none (by rw [cellsOfF_len]; exact h)] at hj; cases hj
      rw [cellsOfF_at hjn] at hj
      cases hj
      have e : (⟨b, o, none⟩ : Addr).add j = ⟨b, o + j, none⟩ := by unfold Addr.add; split <;> simp_all
      rw [e, HBL.out.cell (p := ⟨b, o + j, none⟩) hb]
      exact HC.out j hjn
    case c3 => intro u hu; simp [cellsOfF] at hu; obtain ⟨i, _, rfl⟩ := hu; rfl
    case c4 => unfold maxLen; omega
    case c5 => omega
    case c6 => simp
    intro v' w1 hown hg _
    have HBB := Lib.hid (HBL.out.grown hg (by simp) (fun k hk => by simp [Value.ownBlock] at hk; omega))
    have HO := Lib.hid hown
    clear hown hg
    go_wp2
    go_ret
    exact ⟨v', rfl, HO.out, HBB.out⟩
  · obtain rfl : n = 0 := by omega
    cases A with
    | none =>
      go_enter Try.func37, Try.ntmps37
      go_wp2
      go_ret
      exact ⟨_, rfl, by rw [cells_zero]; exact ⟨rfl, .inl ⟨rfl, rfl⟩⟩, Below.refl _ _⟩
    | some ad =>
      go_enter Try.func37, Try.ntmps37
      go_wp2_with (at_builtin; refine wpList_append_own _ rfl (.tmp 5) (.tmp 6) 22 rfl w.heap.size 2 i0 (.int .i64 0) 1 8 Try.underlying22 hi hz0 hz1 hz2 rfl (by decide) _ 0 [] rfl (owns_empty w _) ad 0 c [] rfl rfl (fun j u hj => by simp at hj) (fun u hu => by simp at hu) (by decide) (by decide) (by simp) ?_)
      intro v' w1 hown hg _
      have HBB := Lib.hid (HBL.out.grown hg (by simp) (fun k hk => by simp [Value.ownBlock] at hk; omega))
      have HO := Lib.hid hown
      clear hown hg
      go_wp2
      go_ret
      exact ⟨v', rfl, by rw [cells_zero]; exact HO.out, HBB.out⟩
theorem sz_drew (w : World) (o : Obj) : (w.alloc o).drew.heap.size = w.heap.size + 1 := by show (w.alloc _).heap.size = _; simp
theorem owns_mono {w : World} {base base' n s : Nat} {e : TypeId} {v : Value} {xs : List Value} (h : w.ownsRow base e s v n xs) (hb : base' ≤ base) : w.ownsRow base' e s v n xs := by
  refine ⟨h.1, ?_⟩
  rcases h.2 with ⟨e1, e2⟩ | ⟨g, cap, cur, e1, hg0, h3⟩
  · exact .inl ⟨e1, e2⟩
  · exact .inr ⟨g, cap, cur, e1, by omega, h3⟩
theorem owns_ne2 {w : World} {base n s : Nat} {e : TypeId} {v : Value} {xs : List Value} (h : w.ownsRow base e s v n xs) {E i j : Nat} {a b : Value} (hne : ∀ g, v.ownBlock = some g → g ≠ E) : (((w.setCell ⟨E, i, none⟩ a).setCell ⟨E, j, none⟩ b).drew).ownsRow base e s v n xs := by
  have hg : ∀ (x : World) (k : Nat) (u : Value), x.grownBy (x.setCell ⟨E, k, none⟩ u) (some E) := fun x k u => ⟨rfl, rfl, rfl, by simp [World.setCell], fun q hq hq2 => Below.heap_setCell x ⟨E, k, none⟩ u q (by rintro rfl; exact hq2 rfl)⟩
  have hv : v.ownBlock = none ∨ v.ownBlock ≠ some E := .inr (fun e => hne E e rfl)
  exact owns_belowS ((h.kept (hg w i a) hv).kept (hg _ j b) hv) (Below.refl _ _).drew
def zeroEl (n : Nat) : Array Value := madeCells #[.int .i64 0, .pointer none] (n * 2)
theorem zeroEl_at {n i : Nat} (h : i < n) : (zeroEl n)[i * 2]? = some (.int .i64 0) ∧ (zeroEl n)[i * 2 + 1]? = some (.pointer none) := by
  have h1 : (i * 2) % 2 = 0 := by omega
  have h2 : (i * 2 + 1) % 2 = 1 := by omega
  unfold zeroEl madeCells
  constructor
  · rw [Array.getElem?_map, Array.getElem?_range, if_pos (by omega)]
    simp [h1]
  · rw [Array.getElem?_map, Array.getElem?_range, if_pos (by omega)]
    simp [h2]
def pNat (f : Nat → Int) (k : Nat) : Nat := (f k).toNat
end Go.Proofs.Ytgdmojkfpghmnaa.Base
