/-
  Copies by append: spec's l00Own, the library's Clone.
-/
import Derived.Test.YtbpdjmjkjiddjaaDoorMark
import Derived.Deep.AppendLies
import Derived.Lib.SliceRun
namespace Go.Proofs.YtbpdjmjkjiddjaaDoor.Base
open Go.RowKit
set_option linter.unusedVariables false

/-- the numbers as cells -/
def cellsOfF (n : Nat) (f : Nat → Int) : List Value := (List.range n).map fun i => .int .i64 (f i)
theorem cellsOfF_len (n : Nat) (f : Nat → Int) : (cellsOfF n f).length = n := by simp [cellsOfF]
theorem cellsOfF_at {n : Nat} {f : Nat → Int} {i : Nat} (h : i < n) : (cellsOfF n f)[i]? = some (.int .i64 (f i)) := by simp [cellsOfF, h]
/-- the post of a function that makes a slice of its own -/
def SliceOut (n : Nat) (f : Nat → Int) (w : World) (e : Ending) (w' : World) : Prop :=
  ∃ A c, e = .returned (.slice A n c) ∧ OwnRow w' w.heap.size A n c f ∧ Below w.heap.size w w'
theorem ownRow_of_owns {w : World} {base n : Nat} {f : Nat → Int} {v : Value} {e : TypeId} (h : w.ownsRow base e 1 v n (cellsOfF n f)) (hn : 0 < n) (hw : ∀ i, i < n → (Lit.int .i64 (f i)).wf = true) :
    ∃ A c, v = .slice A n c ∧ OwnRow w base A n c f := by
  have h0 := h
  rcases h0.2 with ⟨_, h0⟩ | ⟨g, cap, cur, rfl, hb, hg, hnc, hcm, hcs, ht⟩
  · omega
  · refine ⟨some ⟨g, 0, none⟩, cap, rfl, hnc, hcm, hw, fun _ => ⟨g, 0, rfl, hb, (Array.getElem?_eq_some_iff.1 hg).1, fun i hi => ?_⟩⟩
    rw [Nat.zero_add]
    exact ⟨(h.cellAt i (by omega)).trans (cellsOfF_at hi), h.frozenAt i⟩
theorem owns_empty (w : World) (e : TypeId) : (w.alloc (.cells #[] e)).ownsRow w.heap.size e 1 (.slice (some ⟨w.heap.size, 0, none⟩) 0 0) 0 [] :=
  ⟨rfl, .inr ⟨w.heap.size, 0, #[], rfl, Nat.le_refl _, heap_alloc_new w _, Nat.le_refl _, by unfold maxLen; omega, rfl, rfl⟩⟩

theorem spec_own (w : World) (A : Option Addr) (n c : Nat) (f : Nat → Int) (hr : Row .i64 w A n c f) (hn : 0 < n) (hn2 : n ≤ 1048576) :
    Calls Tryd.prog 111 #[.slice A n c] w (SliceOut n f w) := by
  obtain ⟨hnc, hcm, hwf, hcell⟩ := hr
  obtain ⟨b, o, rfl, hb, hc⟩ := hcell hn
  have HC := Lib.hid hc
  have HWF := Lib.hid hwf
  clear hcell hc hwf
  obtain ⟨i0, hi, hz0, hz1, hz2⟩ := info_parts infoI64
  have hbl : Below w.heap.size w (w.alloc (.cells #[] 2)) := (Below.refl _ _).alloc (Nat.le_refl _) _
  have HBL := Lib.hid hbl
  clear hbl
  go_enter Tryd.func111, Tryd.ntmps111
  go_wp2_with (at_builtin; refine wpList_append_own _ rfl (.tmp 3) (.tmp 4) 29 rfl w.heap.size 2 i0 (.int .i64 0) 1 8 Tryd.underlying29 hi hz0 hz1 hz2 rfl (by decide) _ 0 [] rfl (owns_empty w _) ⟨b, o, none⟩ n c (cellsOfF n f) rfl ?c1 ?c2 ?c3 ?c4 ?c5 ?c6 ?_)
  case c1 => rw [cellsOfF_len]; omega
  case c2 =>
    intro j u hj
    have hjn : j < n := by
      rcases Nat.lt_or_ge j n with h | h
      · exact h
      · rw [List.getElem?_eq_none (by rw [cellsOfF_len]; exact h)] at hj; cases hj
    rw [cellsOfF_at hjn] at hj
    cases hj
    have e : (⟨b, o, none⟩ : Addr).add j = ⟨b, o + j, none⟩ := by unfold Addr.add; split <;> simp_all
    rw [e, HBL.out.cell (p := ⟨b, o + j, none⟩) hb]
    exact HC.out j hjn
  case c3 => intro u hu; simp [cellsOfF] at hu; obtain ⟨i, _, rfl⟩ := hu; rfl
  case c4 => unfold maxLen; omega
  case c5 => omega
  case c6 => simp
  intro v' w1 hown hg _
  obtain ⟨A', c', rfl, hO⟩ := ownRow_of_owns hown hn HWF.out
  have hB : Below w.heap.size w w1 := HBL.out.grown hg (by simp) (fun k hk => by simp [Value.ownBlock] at hk; omega)
  have HO := Lib.hid hO
  have HBB := Lib.hid hB
  clear hown hg hO hB
  go_wp2
  go_ret
  exact ⟨A', c', rfl, HO.out, HBB.out⟩
theorem lib_clone (w : World) (A : Option Addr) (n c : Nat) (f : Nat → Int) (hr : Row .i64 w A n c f) (hn : 0 < n) (hn2 : n ≤ 1048576) :
    Calls Tryd.prog 177 #[.slice A n c] w (SliceOut n f w) := by
  obtain ⟨hnc, hcm, hwf, hcell⟩ := hr
  obtain ⟨b, o, rfl, hb, hc⟩ := hcell hn
  have HC := Lib.hid hc
  have HWF := Lib.hid hwf
  clear hcell hc hwf
  obtain ⟨i0, hi, hz0, hz1, hz2⟩ := info_parts infoI64
  have hbl : Below w.heap.size w (w.alloc (.cells #[] 2)) := (Below.refl _ _).alloc (Nat.le_refl _) _
  have HBL := Lib.hid hbl
  clear hbl
  have hnil := fun (W : World) => Lib.run_eql_slice_nil (P := Tryd.prog) W 29 2 (some ⟨b, o, none⟩) n c 0 0 Tryd.underlying29
  go_enter Tryd.func177, Tryd.ntmps177
  go_wp2_with (at_builtin; refine wpList_append_own _ rfl (.tmp 5) (.tmp 6) 29 rfl w.heap.size 2 i0 (.int .i64 0) 1 8 Tryd.underlying29 hi hz0 hz1 hz2 rfl (by decide) _ 0 [] rfl (owns_empty w _) ⟨b, o, none⟩ n c (cellsOfF n f) rfl ?c1 ?c2 ?c3 ?c4 ?c5 ?c6 ?_)
  case c1 => rw [cellsOfF_len]; omega
  case c2 =>
    intro j u hj
    have hjn : j < n := by
      rcases Nat.lt_or_ge j n with h | h
      · exact h
      · rw [List.getElem?_eq_none (by rw [cellsOfF_len]; exact h)] at hj; cases hj
    rw [cellsOfF_at hjn] at hj
    cases hj
    have e : (⟨b, o, none⟩ : Addr).add j = ⟨b, o + j, none⟩ := by unfold Addr.add; split <;> simp_all
    rw [e, HBL.out.cell (p := ⟨b, o + j, none⟩) hb]
    exact HC.out j hjn
  case c3 => intro u hu; simp [cellsOfF] at hu; obtain ⟨i, _, rfl⟩ := hu; rfl
  case c4 => unfold maxLen; omega
  case c5 => omega
  case c6 => simp
  intro v' w1 hown hg _
  obtain ⟨A', c', rfl, hO⟩ := ownRow_of_owns hown hn HWF.out
  have hB : Below w.heap.size w w1 := HBL.out.grown hg (by simp) (fun k hk => by simp [Value.ownBlock] at hk; omega)
  have HO := Lib.hid hO
  have HBB := Lib.hid hB
  clear hown hg hO hB
  go_wp2
  go_ret
  exact ⟨A', c', rfl, HO.out, HBB.out⟩
end Go.Proofs.YtbpdjmjkjiddjaaDoor.Base
