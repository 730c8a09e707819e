/-
  ReadPanel: the specification's.
-/
import Derived.Test.YtdofeonkgaceeacDoorRpm
import Derived.Test.YtdofeonkgaceeacDoorRds
import Derived.Test.YtdofeonkgaceeacDoorNew
import Derived.Test.YtdofeonkgaceeacDoorWls
import Derived.Test.YtdofeonkgaceeacDoorPpc
import Derived.Deep.AppendLies
import Derived.Deep.RegionLaw
import Derived.Shelf.Abstract
import Derived.Test.YtdofeonkgaceeacDoorPan
import Derived.Test.YtdofeonkgaceeacDoorShape
namespace Go.Proofs.YtdofeonkgaceeacDoor.Base
open Go Go.RowKit
open Go.PlainAid (bt get_bt bt_nonneg bt_le)
set_option linter.unusedVariables false
set_option linter.unusedSimpArgs false

theorem kindS_is (w : World) (c : Int) : Calls Tryd.prog 46 #[.int .u8 c] w fun e w' => e = .returned (.int .i64 (kindI c)) ∧ w = w' := by
  by_cases h1 : c = 43
  · have e : kindI c = 0 := if_pos h1
    have b1 : (c == 43) = true := beq_iff_eq.2 h1
    rw [e]
    clear e h1
    go_enter Tryd.func46, Tryd.ntmps46
    go_wp2
    go_ret
    exact ⟨rfl, rfl⟩
  · have b1 : (c == 43) = false := beq_eq_false_iff_ne.2 h1
    by_cases h2 : c = 124
    · have e : kindI c = 1 := by unfold kindI; rw [if_neg h1, if_pos h2]
      have b2 : (c == 124) = true := beq_iff_eq.2 h2
      rw [e]
      clear e h1 h2
      go_enter Tryd.func46, Tryd.ntmps46
      go_wp2
      go_ret
      exact ⟨rfl, rfl⟩
    · have b2 : (c == 124) = false := beq_eq_false_iff_ne.2 h2
      by_cases h3 : c = 45
      · have e : kindI c = 2 := by unfold kindI; rw [if_neg h1, if_neg h2, if_pos h3]
        have b3 : (c == 45) = true := beq_iff_eq.2 h3
        rw [e]
        clear e h1 h2 h3
        go_enter Tryd.func46, Tryd.ntmps46
        go_wp2
        go_ret
        exact ⟨rfl, rfl⟩
      · have e : kindI c = -1 := by unfold kindI; rw [if_neg h1, if_neg h2, if_neg h3]
        have b3 : (c == 45) = false := beq_eq_false_iff_ne.2 h3
        rw [e]
        clear e h1 h2 h3
        go_enter Tryd.func46, Tryd.ntmps46
        go_wp2
        go_ret
        exact ⟨rfl, rfl⟩
/-- the text has the form of a panel's text: 'x' at k, ':' at j -/
structure Fm (s : ByteArray) (k j : Nat) : Prop where
  kj : k < j
  js : j < s.size
  xk : bt s k = 120
  x1 : ∀ i, i < k → bt s i ≠ 120
  x2 : ∀ i, k < i → i < j → bt s i ≠ 120
  cj : bt s j = 58
  c1 : ∀ i, i < j → bt s i ≠ 58
  c2 : ∀ i, j < i → i < s.size → bt s i ≠ 58
/-- either the parts of the text are those of its form, or there is none -/
theorem fm_cases (s : ByteArray) : (∃ k j, Fm s k j ∧ prtAllC 58 s = [(0, j), (j + 1, s.size)] ∧ prtAllC 120 (s.extract 0 j) = [(0, k), (k + 1, j)]) ∨
    ((∀ k j, ¬ Fm s k j) ∧ ((prtAllC 58 s).length ≠ 2 ∨ ∃ j, j < s.size ∧ prtAllC 58 s = [(0, j), (j + 1, s.size)] ∧ (prtAllC 120 (s.extract 0 j)).length ≠ 2)) := by
  rcases prtAllC_cases 58 s with ⟨j, j1, j2, j3, j4, j5⟩ | ⟨n1, n2⟩
  · have hz : (s.extract 0 j).size = j := by rw [ByteArray.size_extract]; omega
    have hb : ∀ i, i < j → bt (s.extract 0 j) i = bt s i := fun i hi => by rw [extract_bt s 0 j i (by omega) (by omega), Nat.zero_add]
    rcases prtAllC_cases 120 (s.extract 0 j) with ⟨k, k1, k2, k3, k4, k5⟩ | ⟨n1, n2⟩
    · rw [hz] at k1 k4 k5
      rw [hb k k1] at k2
      exact .inl ⟨k, j, ⟨k1, j1, k2, fun i hi => by rw [← hb i (by omega)]; exact k3 i hi, fun i h1 h2 => by rw [← hb i h2]; exact k4 i h1 h2, j2, j3, j4⟩, j5, k5⟩
    · refine .inr ⟨fun k j' h => ?_, .inr ⟨j, j1, j5, n1⟩⟩
      have ej : j' = j := by
        rcases Nat.lt_trichotomy j' j with e | e | e
        · exact absurd h.cj (j3 j' e)
        · exact e
        · exact absurd j2 (h.c1 j e)
      subst ej
      refine n2 k (by rw [hz]; exact h.kj) (by rw [hb k h.kj]; exact h.xk) (fun i hi => by rw [hb i (by have := h.kj; omega)]; exact h.x1 i hi) (fun i h1 h2 => ?_)
      rw [hz] at h2
      rw [hb i h2]
      exact h.x2 i h1 h2
  · exact .inr ⟨fun k j h => n2 j h.js h.cj h.c1 h.c2, .inl n1⟩
theorem RP.fm {s : ByteArray} {a b : Int} {k j : Nat} (h : RP s a b k j) : Fm s k j := ⟨h.kj, h.js, h.xk, h.x1, h.x2, h.cj, h.c1, h.c2⟩
theorem Fm.uniq {s : ByteArray} {k j k' j' : Nat} (h : Fm s k j) (g : Fm s k' j') : k = k' ∧ j = j' := by
  have ej : j = j' := by
    rcases Nat.lt_trichotomy j j' with e | e | e
    · exact absurd h.cj (g.c1 j e)
    · exact e
    · exact absurd g.cj (h.c1 j' e)
  subst ej
  refine ⟨?_, rfl⟩
  rcases Nat.lt_trichotomy k k' with e | e | e
  · exact absurd h.xk (g.x1 k e)
  · exact e
  · exact absurd g.xk (h.x1 k' e)
def rpL (s : ByteArray) (j m : Nat) : List Value := (List.range m).map fun i => .int .i64 (rpF s j i)
theorem rpL_succ (s : ByteArray) (j m : Nat) : rpL s j (m + 1) = rpL s j m ++ [.int .i64 (rpF s j m)] := by simp [rpL, List.range_succ]
theorem rpL_len (s : ByteArray) (j m : Nat) : (rpL s j m).length = m := by simp [rpL]
theorem kindI_wf (c : Int) : (Lit.int .i64 (kindI c)).wf = true := by
  have := kindI_bd c
  exact WalkArith.wf_i64 (by omega)
theorem own_of_rpL {w : World} {base base' : Nat} {A : Option Addr} {c : Nat} {s : ByteArray} {j n : Nat} (h : w.ownsRow base 2 1 (.slice A n c) n (rpL s j n)) (hb : base' ≤ base) (hn : n ≤ maxLen) : OwnRow w base' A n c (rpF s j) := by
  rcases h.2 with ⟨e, rfl⟩ | ⟨b, cap, cur, e, hb', hgb, hnc, hcm, hcs, ht⟩
  · cases e
    exact ownRow_nil _ _ _
  · cases e
    refine ⟨hnc, hcm, fun i _ => kindI_wf _, fun hn' => ⟨b, 0, rfl, by omega, (Array.getElem?_eq_some_iff.1 hgb).1, fun i hi => ⟨?_, ?_⟩⟩⟩
    · rw [Nat.zero_add, h.cellAt i (by omega)]
      simp [rpL, List.getElem?_map, List.getElem?_range hi]
    · rw [Nat.zero_add]
      exact h.frozenAt i
theorem owns_set {w : World} {B p o n : Nat} {e : TypeId} {v u : Value} {xs : List Value} (h : w.ownsRow B e 1 v n xs) (hp : p < B) : (w.setCell ⟨p, o, none⟩ u).ownsRow B e 1 v n xs := by
  refine h.kept (row := some p) ⟨rfl, rfl, rfl, by simp [World.setCell], fun k _ hk => Below.heap_setCell _ _ _ _ (fun e => hk (by simp [e]))⟩ ?_
  by_cases hv : v.ownBlock = none
  · simp [hv]
  · obtain ⟨g, hg⟩ := Option.ne_none_iff_exists'.1 hv
    have := (h.lt g hg).1
    simp [hg]
    omega
/-- a call without effect, at a step of a region that draws its order -/
theorem step_fn {P : Program} {w : World} {ops : Array Oper} {o : Oper} {a : Act} {K : Act → World → Prop} {Q : Exit → Act → World → Prop} {E : Prop} (hgd : o.guard = none) (f : FuncId) (x : Operand) (t : TypeId)
    (ho : o.op = .call { callee := .value (.func f), args := #[x], argTypes := #[t] }) (eg : ∀ args w, (callFunc f args).run P w = .ok (.enter f args) w) (v0 v : Value) (hx : a.eval x = v0)
    (hc : Calls P f #[v0] w fun e w' => e = .returned v ∧ w = w') (h : K (a.put o.dst v) w) :
    if Region.wanted o (yielded ops a.tmps) = true then Oper.wp P o a w K Q else E := by
  have hw : Region.wanted o (yielded ops a.tmps) = true := by simp [Region.wanted, hgd]
  rw [if_pos hw]
  have hf : a.eval (.func f) = .func (.func f) #[] #[] := rfl
  unfold Oper.wp execOp
  simp only [ho, resolve, invoke, hf, Sem.run_bind, Sem.run_pure, Result.andThen_ok, List.map_toArray, List.map_cons, List.map_nil, hx]
  simp [go_sem, eg]
  refine hc.mono ?_
  rintro e w' ⟨rfl, rfl⟩
  exact h
/-- what the specification reads off a text that has the form -/
def RawOut (s : ByteArray) (k j : Nat) (w : World) (e : Ending) (w' : World) : Prop :=
  ∃ a b o1 o2, RDans (s.extract 0 k) a o1 ∧ RDans (s.extract (k + 1) j) b o2 ∧ PanelOutB a b (s.size - j - 1) (rpF s j) (o1 && o2) w e w'
end Go.Proofs.YtdofeonkgaceeacDoor.Base
