/-
  Copies by append of lists that may be empty.
-/
import Derived.Test.YtgdmojkfpghmnaaClone
import Derived.Laws.AppendOwnNone
namespace Go.Proofs.Ytgdmojkfpghmnaa.Base
open Go Go.RowKit
set_option linter.unusedVariables false
set_option linter.unusedSimpArgs false

theorem run_append_none0 {P : Program} {w : World} (base : Nat) (t ty e : TypeId) (i : TypeInfo) (size : Nat) (ht : P.underlying t = some (.slice e)) (hi : P.info? e = some i)
    (v : Value) (n : Nat) (xs : List Value) (hown : w.ownsRow base e size v n xs) (c : Nat) :
    (Builtin.append_ #[t, t] ty #[v, .slice none 0 c]).run P w = .ok v w := by
  rcases hown.2 with ⟨rfl, rfl⟩ | ⟨g, cap, cur, rfl, _, _, hnc, _⟩
  · simp [Builtin.append_, run_underlying ht, sizeOf, typeInfo, hi, Builtin.lenOf, Builtin.firstCells]
  · simp [Builtin.append_, run_underlying ht, sizeOf, typeInfo, hi, Builtin.lenOf, Builtin.firstCells, hnc, storeCells]
theorem wpList_append_none0 {P : Program} {w : World} {ops : Array Oper} {rest : List Oper} {o : Oper} {a : Act} {Q : Exit → Act → World → Prop} (hgd : o.guard = none) (s x : Operand) (t : TypeId)
    (ho : o.op = .call { callee := .builtin .append, args := #[s, x], argTypes := #[t, t] })
    (base : Nat) (e : TypeId) (i : TypeInfo) (size : Nat) (ht : P.underlying t = some (.slice e)) (hi : P.info? e = some i)
    (v : Value) (n : Nat) (xs : List Value) (hs : a.eval s = v) (hown : w.ownsRow base e size v n xs) (c : Nat) (hx : a.eval x = .slice none 0 c)
    (h : wpList P ops Q rest (a.put o.dst v) w) : wpList P ops Q (o :: rest) a w := by
  refine wpList_plain hgd fun K hK => ?_
  have hrun := run_append_none0 (P := P) (w := w) base t o.type e i size ht hi v n xs hown c
  unfold Oper.wp
  simp [execOp, ho, resolve, invoke, builtin, hs, hx, hrun, Result.andThen]
  exact hK _ _ h
theorem ownRow_zero {w : World} {base : Nat} {A : Option Addr} {c : Nat} {f : Nat → Int} (h : c ≤ maxLen) : OwnRow w base A 0 c f :=
  ⟨Nat.zero_le _, h, fun i hi => absurd hi (Nat.not_lt_zero _), fun h => absurd h (Nat.lt_irrefl _)⟩
theorem spec_own0 (w : World) (A : Option Addr) (c : Nat) (f : Nat → Int) :
    Calls Try.prog 48 #[.slice A 0 c] w (SliceOut 0 f w) := by
  obtain ⟨i0, hi, hz0, hz1, hz2⟩ := info_parts infoI64
  have HBL := Lib.hid (show Below w.heap.size w (w.alloc (.cells #[] 2)) from (Below.refl _ _).alloc (Nat.le_refl _) _)
  cases A with
  | none =>
    go_enter Try.func48, Try.ntmps48
    go_wp2_with (at_builtin; refine wpList_append_none0 rfl (.tmp 3) (.tmp 4) 22 rfl w.heap.size 2 i0 1 Try.underlying22 hi _ 0 [] rfl (owns_empty w _) c rfl ?_)
    go_ret
    exact ⟨some ⟨w.heap.size, 0, none⟩, 0, rfl, ownRow_zero (Nat.zero_le _), HBL.out⟩
  | some ad =>
    go_enter Try.func48, Try.ntmps48
    go_wp2_with (at_builtin; refine wpList_append_own _ rfl (.tmp 3) (.tmp 4) 22 rfl w.heap.size 2 i0 (.int .i64 0) 1 8 Try.underlying22 hi hz0 hz1 hz2 rfl (by decide) _ 0 [] rfl (owns_empty w _) ad 0 c [] rfl rfl (fun j u hj => by simp at hj) (fun u hu => by simp at hu) (by decide) (by decide) (by simp) ?_)
    intro v' w1 hown hg _
    have hB : Below w.heap.size w w1 := HBL.out.grown hg (by simp) (fun k hk => by simp [Value.ownBlock] at hk; omega)
    have HBB := Lib.hid hB
    have hS : ∃ A' c', v' = .slice A' 0 c' ∧ c' ≤ maxLen := by
      rcases hown.2 with ⟨rfl, -⟩ | ⟨g, cap, cur, rfl, -, -, -, hcm, -⟩
      · exact ⟨none, 0, rfl, Nat.zero_le _⟩
      · exact ⟨_, cap, rfl, hcm⟩
    obtain ⟨A', c', rfl, hm⟩ := hS
    clear hown hg hB
    go_wp2
    go_ret
    exact ⟨A', c', rfl, ownRow_zero hm, HBB.out⟩
theorem spec_own_any (w : World) (A : Option Addr) (n c : Nat) (f : Nat → Int) (hr : Row .i64 w A n c f) (hn2 : n ≤ 1048576) :
    Calls Try.prog 48 #[.slice A n c] w (SliceOut n f w) := by
  by_cases h : 0 < n
  · exact spec_own w A n c f hr h hn2
  · obtain rfl : n = 0 := by omega
    exact spec_own0 w A c f
theorem lib_clone0 (w : World) (b o c : Nat) (f : Nat → Int) :
    Calls Try.prog 37 #[.slice (some ⟨b, o, none⟩) 0 c] w (SliceOut 0 f w) := by
  obtain ⟨i0, hi, hz0, hz1, hz2⟩ := info_parts infoI64
  have HBL := Lib.hid (show Below w.heap.size w (w.alloc (.cells #[] 2)) from (Below.refl _ _).alloc (Nat.le_refl _) _)
  have hnil := fun (W : World) => Lib.run_eql_slice_nil (P := Try.prog) W 22 2 (some ⟨b, o, none⟩) 0 c 0 0 Try.underlying22
  go_enter Try.func37, Try.ntmps37
  go_wp2_with (at_builtin; refine wpList_append_own _ rfl (.tmp 5) (.tmp 6) 22 rfl w.heap.size 2 i0 (.int .i64 0) 1 8 Try.underlying22 hi hz0 hz1 hz2 rfl (by decide) _ 0 [] rfl (owns_empty w _) ⟨b, o, none⟩ 0 c [] rfl rfl (fun j u hj => by simp at hj) (fun u hu => by simp at hu) (by decide) (by decide) (by simp) ?_)
  intro v' w1 hown hg _
  have hB : Below w.heap.size w w1 := HBL.out.grown hg (by simp) (fun k hk => by simp [Value.ownBlock] at hk; omega)
  have HBB := Lib.hid hB
  have hS : ∃ A' c', v' = .slice A' 0 c' ∧ c' ≤ maxLen := by
    rcases hown.2 with ⟨rfl, -⟩ | ⟨g, cap, cur, rfl, -, -, -, hcm, -⟩
    · exact ⟨none, 0, rfl, Nat.zero_le _⟩
    · exact ⟨_, cap, rfl, hcm⟩
  obtain ⟨A', c', rfl, hm⟩ := hS
  clear hown hg hB
  go_wp2
  go_ret
  exact ⟨A', c', rfl, ownRow_zero hm, HBB.out⟩
theorem lib_clone_some (w : World) (b o n c : Nat) (f : Nat → Int) (hr : Row .i64 w (some ⟨b, o, none⟩) n c f) (hn2 : n ≤ 1048576) :
    Calls Try.prog 37 #[.slice (some ⟨b, o, none⟩) n c] w (SliceOut n f w) := by
  by_cases h : 0 < n
  · exact lib_clone w _ n c f hr h hn2
  · obtain rfl : n = 0 := by omega
    exact lib_clone0 w b o c f
end Go.Proofs.Ytgdmojkfpghmnaa.Base
