/-
  A map from points to numbers: the numbers of the crossings.
-/
import Derived.Test.YtbpdjmjkjiddjaaDoorCit
import Derived.Test.YtbpdjmjkjiddjaaDoorSym
import Derived.Test.YtbpdjmjkjiddjaaDoorWlk
import Derived.Maps.OwnIn
import Derived.Maps.OwnSet
import Derived.Maps.Views
import Derived.DeepKeys4
namespace Go.Proofs.YtbpdjmjkjiddjaaDoor.Base
open Go Go.RowKit
set_option linter.unusedVariables false
set_option linter.unusedSimpArgs false

theorem keyedP : Maps.Keyed Tryd.prog 61 := Maps.Keyed.of_law (deep_law_laid (P := Tryd.prog) (by kernel_rfl) (m := 2) (by omega) (k := 61) (by decide +kernel) (by kernel_rfl) (by kernel_rfl))
def ptV (x y : Int) : Value := .agg #[.int .i64 x, .int .i64 y]
noncomputable def ptKey (x y : Int) : Lit := (keyOf Tryd.prog 61 (ptV x y)).getD (.bool false)
theorem pt_keys : ∀ x : Fin 17, ∀ y : Fin 17, (keyOf Tryd.prog 61 (ptV ((x : Nat) : Int) ((y : Nat) : Int))).isSome = true := by decide +kernel
theorem pt_key {x y : Int} (x0 : 0 ≤ x) (x1 : x ≤ 16) (y0 : 0 ≤ y) (y1 : y ≤ 16) : keyOf Tryd.prog 61 (ptV x y) = some (ptKey x y) := by
  have h := pt_keys ⟨x.toNat, by omega⟩ ⟨y.toNat, by omega⟩
  have e1 : ((x.toNat : Nat) : Int) = x := Int.toNat_of_nonneg x0
  have e2 : ((y.toNat : Nat) : Int) = y := Int.toNat_of_nonneg y0
  simp only [e1, e2] at h
  unfold ptKey
  cases hk : keyOf Tryd.prog 61 (ptV x y)
  · rw [hk] at h; cases h
  · rfl
theorem pt_inj {x y x' y' : Int} (x0 : 0 ≤ x) (x1 : x ≤ 16) (y0 : 0 ≤ y) (y1 : y ≤ 16) (x0' : 0 ≤ x') (x1' : x' ≤ 16) (y0' : 0 ≤ y') (y1' : y' ≤ 16) (h : ptKey x y = ptKey x' y') : x = x' ∧ y = y' := by
  have h1 := pt_key x0 x1 y0 y1
  have h2 := pt_key x0' x1' y0' y1'
  rw [← h] at h2
  have := keyedP.inj h1 h2
  unfold ptV at this
  injection this with this
  simpa using this
/-- block b is the map of the first j crossings with their numbers; the crossings are the points with the numbers zl f n -/
def PtM (w : World) (b : Nat) (W : Int) (f : Nat → Int) (n j : Nat) : Prop :=
  ∃ D : DataW Nat, w.ownsMap Tryd.prog 61 (plainElem Tryd.prog 2) b j D ∧ Maps.size D = j ∧ ∀ i, i < (zl f n).length →
    Maps.has D (ptKey (zpt W f n i).1 (zpt W f n i).2) = decide (i < j) ∧ (i < j → D.atKey (ptKey (zpt W f n i).1 (zpt W f n i).2) (.lit (.int .i64 0)) = .lit (.int .i64 (i : Int)))
section
variable {w w' : World} {b : Nat} {W : Int} {f : Nat → Int} {n j : Nat}
theorem PtM.lt (h : PtM w b W f n j) : b < w.heap.size := by
  obtain ⟨D, ⟨es, cl, hb, _⟩, _⟩ := h
  exact (Array.getElem?_eq_some_iff.1 hb).1
theorem PtM.of_block (h : PtM w b W f n j) (e : w'.heap[b]? = w.heap[b]?) : PtM w' b W f n j := by
  obtain ⟨D, ⟨es, cl, hb, h1, h2, h3⟩, h4⟩ := h
  exact ⟨D, ⟨es, cl, e.trans hb, h1, h2, h3⟩, h4⟩
theorem PtM.obj (h : PtM w b W f n j) : ∃ o : Obj, w.heap[b]? = some o ∧ o.isCells = false := by
  obtain ⟨D, ⟨es, cl, hb, _⟩, _⟩ := h
  exact ⟨_, hb, rfl⟩
theorem PtM.new (w : World) (W : Int) (f : Nat → Int) (n : Nat) : PtM (w.alloc (.map #[] 0)) w.heap.size W f n 0 :=
  ⟨.map [], World.ownsMap_made w Tryd.prog 61 (plainElem Tryd.prog 2), rfl, fun i _ => ⟨by rfl, fun h => absurd h (Nat.not_lt_zero _)⟩⟩
theorem PtM.len (h : PtM w b W f n j) (ty : TypeId) : (Builtin.len_ #[113] ty #[.map (some b)]).run Tryd.prog w = .ok (.int .i64 (j : Int)) w := by
  obtain ⟨D, h1, h2, -⟩ := h
  have := h1.len (t := 113) Tryd.underlying113 ty
  rw [h2] at this
  exact this
/-- the points of the crossings lie in the panel, and apart from each other -/
theorem zpt_rng {W H : Int} (hW : sideB W = true) (hH : sideB H = true) (hn : (n : Int) = inner W H) {i : Nat} (hi : i < (zl f n).length) : 0 ≤ (zpt W f n i).1 ∧ (zpt W f n i).1 ≤ 16 ∧ 0 ≤ (zpt W f n i).2 ∧ (zpt W f n i).2 ≤ 16 := by
  obtain ⟨k1, k2⟩ := zl_mem hi
  obtain ⟨h1, -, -⟩ := ptn_is hW hH (k := (((zl f n).getD i 0 : Nat) : Int)) (by omega) (by omega)
  exact has_bd hW hH h1
theorem zl_rise (f : Nat → Int) : ∀ {n i j : Nat}, i < j → j < (zl f n).length → (zl f n).getD i 0 < (zl f n).getD j 0
  | 0, i, j, _, h => absurd h (Nat.not_lt_zero _)
  | n + 1, i, j, hij, h => by
    by_cases h2 : f n = 0
    · rw [zl_yes h2, List.length_append] at h
      rw [zl_yes h2]
      have hi : i < (zl f n).length := by
        have : j < (zl f n).length + 1 := h
        omega
      have ei : (zl f n ++ [n]).getD i 0 = (zl f n).getD i 0 := by rw [List.getD_eq_getElem?_getD, List.getD_eq_getElem?_getD, List.getElem?_append_left hi]
      rw [ei]
      rcases Nat.lt_or_ge j (zl f n).length with h' | h'
      · have ej : (zl f n ++ [n]).getD j 0 = (zl f n).getD j 0 := by rw [List.getD_eq_getElem?_getD, List.getD_eq_getElem?_getD, List.getElem?_append_left h']
        rw [ej]
        exact zl_rise f hij h'
      · have ejl : j = (zl f n).length := by have : j < (zl f n).length + 1 := h; omega
        have ej : (zl f n ++ [n]).getD j 0 = n := by rw [ejl, List.getD_eq_getElem?_getD, List.getElem?_append_right (Nat.le_refl _), Nat.sub_self]; rfl
        rw [ej]
        exact (zl_mem hi).1
    · rw [zl_no h2] at h ⊢
      exact zl_rise f hij h
theorem zpt_apart {W H : Int} (hW : sideB W = true) (hH : sideB H = true) (hn : (n : Int) = inner W H) {i j : Nat} (hi : i < (zl f n).length) (hj : j < (zl f n).length) (h1 : (zpt W f n i).1 = (zpt W f n j).1) (h2 : (zpt W f n i).2 = (zpt W f n j).2) : i = j := by
  have hi1 := (zl_mem hi).1
  have hj1 := (zl_mem hj).1
  obtain ⟨-, -, e1⟩ := ptn_is hW hH (k := (((zl f n).getD i 0 : Nat) : Int)) (by omega) (by omega)
  obtain ⟨-, -, e2⟩ := ptn_is hW hH (k := (((zl f n).getD j 0 : Nat) : Int)) (by omega) (by omega)
  have e3 : numN W (zpt W f n i).1 (zpt W f n i).2 = numN W (zpt W f n j).1 (zpt W f n j).2 := by rw [h1, h2]
  unfold zpt at e3
  simp only at e3
  rw [e1, e2] at e3
  rcases Nat.lt_trichotomy i j with h | h | h
  · have := zl_rise f h hj; omega
  · exact h
  · have := zl_rise f h hi; omega
theorem key_apart {W H : Int} (hW : sideB W = true) (hH : sideB H = true) (hn : (n : Int) = inner W H) {i j : Nat} (hi : i < (zl f n).length) (hj : j < (zl f n).length) (hij : i ≠ j) : ptKey (zpt W f n i).1 (zpt W f n i).2 ≠ ptKey (zpt W f n j).1 (zpt W f n j).2 := fun h => by
  obtain ⟨a1, a2, a3, a4⟩ := zpt_rng hW hH hn hi
  obtain ⟨b1, b2, b3, b4⟩ := zpt_rng hW hH hn hj
  obtain ⟨e1, e2⟩ := pt_inj a1 a2 a3 a4 b1 b2 b3 b4 h
  exact hij (zpt_apart hW hH hn hi hj e1 e2)
theorem PtM.put {W H : Int} (h : PtM w b W f n j) (hW : sideB W = true) (hH : sideB H = true) (hn : (n : Int) = inner W H) (hj : j < (zl f n).length) (hjb : j ≤ 1000) :
    ∃ w', (Instr.mapUpdate 113 (.map (some b)) (.agg #[.int .i64 (zpt W f n j).1, .int .i64 (zpt W f n j).2]) (.int .i64 (j : Int))).run Tryd.prog w = .ok () w' ∧ PtM w' b W f n (j + 1) ∧ w.grownBy w' (some b) := by
  obtain ⟨a1, a2, a3, a4⟩ := zpt_rng hW hH hn hj
  have hk : keyOf Tryd.prog 61 (.agg #[.int .i64 (zpt W f n j).1, .int .i64 (zpt W f n j).2]) = some (ptKey (zpt W f n j).1 (zpt W f n j).2) := pt_key a1 a2 a3 a4
  have hzv : (Lit.int .i64 (j : Int)).wf = true := WalkArith.wf_i64 (by omega)
  obtain ⟨D, h1, h2, h3⟩ := h
  obtain ⟨w', hrun, r1, r2⟩ := h1.update (t := 113) keyedP Tryd.underlying113 (by unfold maxLen; omega) hk (plainElem_int Tryd.underlying2 hzv)
  have ht := h1.tidy keyedP
  have hnot : Maps.has D (ptKey (zpt W f n j).1 (zpt W f n j).2) = false := by rw [(h3 j hj).1]; simp
  have hap := fun i (hi : i < (zl f n).length) (e : i ≠ j) => key_apart hW hH hn hi hj e
  obtain ⟨kl, hkl⟩ : ∃ kl, ptKey (zpt W f n j).1 (zpt W f n j).2 = kl := ⟨_, rfl⟩
  rw [hkl] at hk hnot r1 hap
  have hkk := keyedP.key hk
  refine ⟨w', hrun, ⟨_, r1, ?_, fun i hi => ?_⟩, r2⟩
  · rw [Maps.size_put ht, hnot, h2]; rfl
  · by_cases e : i = j
    · subst e
      rw [hkl, Maps.has_put_same ht.isMap hkk, Maps.atKey_put_same ht.isMap hkk]
      exact ⟨by simp, fun _ => rfl⟩
    · have hne := hap i hi e
      rw [Maps.has_put_other hne, Maps.atKey_put_other hne]
      obtain ⟨q1, q2⟩ := h3 i hi
      refine ⟨?_, fun h => q2 (by omega)⟩
      rw [q1]
      by_cases h9 : i < j
      · rw [decide_eq_true h9, decide_eq_true (by omega)]
      · rw [decide_eq_false h9, decide_eq_false (by omega)]
theorem PtM.look {W H : Int} (h : PtM w b W f n j) (hW : sideB W = true) (hH : sideB H = true) (hn : (n : Int) = inner W H) {i : Nat} (hi : i < (zl f n).length) (hij : i < j) :
    (Instr.lookup 113 (.map (some b)) (.agg #[.int .i64 (zpt W f n i).1, .int .i64 (zpt W f n i).2]) false).run Tryd.prog w = .ok (.int .i64 (i : Int)) w := by
  obtain ⟨a1, a2, a3, a4⟩ := zpt_rng hW hH hn hi
  have hk : keyOf Tryd.prog 61 (.agg #[.int .i64 (zpt W f n i).1, .int .i64 (zpt W f n i).2]) = some (ptKey (zpt W f n i).1 (zpt W f n i).2) := pt_key a1 a2 a3 a4
  obtain ⟨D, h1, h2, h3⟩ := h
  obtain ⟨c, hrun, hat, -⟩ := h1.lookup_int (t := 113) keyedP Tryd.underlying113 Tryd.underlying2 (Tryd.zeroValue2 w) hk
  have h4 := (h3 i hi).2 hij
  rw [hrun, (Lit.int.inj (DataW.lit.inj (hat.symm.trans h4))).2]
end
end Go.Proofs.YtbpdjmjkjiddjaaDoor.Base
