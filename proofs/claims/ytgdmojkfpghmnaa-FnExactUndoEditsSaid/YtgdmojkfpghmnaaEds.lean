/-
  Lists of edits (elements of two integers): the laws' equality, marks, size; an argument of a law.
-/
import Derived.Test.YtgdmojkfpghmnaaWls
import Derived.Deep.SlicePairs
namespace Go.Proofs.Ytgdmojkfpghmnaa.Base
open Go Go.RowKit
set_option linter.unusedVariables false
set_option linter.unusedSimpArgs false

/-- a slice of pairs of integers, as a law's argument -/
theorem rowE_of {H : Type} {enc : TypeId × Value → H} {P : Program} {w : World} {base : Nat} {held : Bool} {t e : TypeId} {f0 f1 : Field} {fuel : Nat} {cs : List Value} {x : DataW H × List MemPlace}
    (ht : P.underlying t = some (.slice e)) (he : P.underlying e = some (.struct #[f0, f1])) (ce : P.cellsOf e = 2) (o0 : f0.offset = 0) (o1 : f1.offset = 1) (c0 : P.cellsOf f0.type = 1) (c1 : P.cellsOf f1.type = 1)
    (k0 : P.underlying f0.type = some (.int .i64)) (k1 : P.underlying f1.type = some (.int .i64))
    (h : DataW.trod enc P w base (fun _ => true) held fuel t cs = some x) :
    ∃ A n c f, cs = [.slice A n c] ∧ RowS 2 w A n c f := by
  rcases Go.Deep.open_slice_pairs ht he ce o0 o1 c0 c1 h with ⟨rfl, _⟩ | ⟨a, len, cap, m, nn, V0, V1, D0, D1, P0, P1, rfl, _, hl, hm, hz, hx, hcell⟩
  · exact ⟨none, 0, 0, fun _ => 0, rfl, Nat.le_refl _, Nat.zero_le _, fun i hi => by omega, fun h => absurd h (by omega)⟩
  · simp only [if_true] at hz
    have hv : ∀ i, i < m → ∃ z0 z1 : Int, V0 i = .int .i64 z0 ∧ V1 i = .int .i64 z1 ∧ (Lit.int .i64 z0).wf = true ∧ (Lit.int .i64 z1).wf = true := fun i hi => by
      obtain ⟨_, _, h0, h1⟩ := hcell i hi
      obtain ⟨z0, e0, _, w0⟩ := DataW.trod_int k0 h0
      obtain ⟨z1, e1, _, w1⟩ := DataW.trod_int k1 h1
      simp at e0 e1
      exact ⟨z0, z1, e0, e1, w0, w1⟩
    refine ⟨some a, len, cap, fun i => if i % 2 = 0 then intOf (V0 (i / 2)) else intOf (V1 (i / 2)), rfl, hl, hm, fun i hi => ?_, fun h0 => ?_⟩
    · obtain ⟨z0, z1, e0, e1, w0, w1⟩ := hv (i / 2) (by omega)
      show (Lit.int .i64 (if i % 2 = 0 then intOf (V0 (i / 2)) else intOf (V1 (i / 2)))).wf = true
      split
      · rw [e0]; exact w0
      · rw [e1]; exact w1
    · obtain ⟨b, off, spot⟩ := a
      have hc0 := (hcell 0 (by omega)).1
      have hspot : spot = none := by simpa [Addr.add] using World.cell?_spot hc0
      subst hspot
      refine ⟨b, off, rfl, ?_, fun i hi => ?_⟩
      · simpa [Addr.add] using World.block_lt_of_cell? _ _ hc0
      · obtain ⟨h0, h1, _, _⟩ := hcell (i / 2) (by omega)
        obtain ⟨z0, z1, e0, e1, _, _⟩ := hv (i / 2) (by omega)
        have hA : ∀ k, (⟨b, off, none⟩ : Addr).add k = ⟨b, off + k, none⟩ := fun k => by by_cases hk : k = 0 <;> simp [Addr.add, hk]
        rw [hA] at h0 h1
        show _ = some (Value.int .i64 (if i % 2 = 0 then intOf (V0 (i / 2)) else intOf (V1 (i / 2))))
        by_cases hp : i % 2 = 0
        · rw [if_pos hp, e0]
          rw [e0, show off + i / 2 * 2 = off + i by omega] at h0
          exact h0
        · rw [if_neg hp, e1]
          rw [e1, show off + (i / 2 * 2 + 1) = off + i by omega] at h1
          exact h1

theorem eqEdit_same (w : World) (a b : Int) : Calls Try.prog 35 #[.agg #[.int .i64 a, .int .i64 b], .agg #[.int .i64 a, .int .i64 b]] w (Gives (.bool true) w) := by
  have h0 : (a != a) = false := by simp
  have h1 : (b != b) = false := by simp
  go_enter Try.func35, Try.ntmps35
  go_wp2
  go_ret
  exact ⟨rfl, by go_grown⟩
set_option maxHeartbeats 2000000 in
theorem eqEdits_same (w : World) (A A' : Option Addr) (n c c' : Nat) (f : Nat → Int) (hr : RowS 2 w A n c f) (hr' : RowS 2 w A' n c' f) :
    Calls Try.prog 14 #[.slice A n c, .slice A' n c'] w (Gives (.bool true) w) := by
  have hnc := hr.1
  have hcm := hr.2.1
  have hnc' := hr'.1
  have hcm' := hr'.2.1
  unfold maxLen at hcm hcm'
  have HR := Lib.hid hr
  have HR' := Lib.hid hr'
  have hn : ((n : Int) == (n : Int)) = true := beq_self_eq_true _
  have hn' : ((n : Int) != (n : Int)) = false := by simp
  clear hr hr'
  go_enter Try.func14, Try.ntmps14
  go_wp2
  go_loopw [5] (fun i wr => ∃ k : Nat, k ≤ n ∧ i = .int .i64 k ∧ Hid (Below w.heap.size w wr)) (fun i _ => n - (intOf i).toNat)
  case atStart => exact ⟨0, Nat.zero_le _, rfl, Lib.hid (Below.refl _ _)⟩
  case round =>
    obtain ⟨k, hk, rfl, HB⟩ := hrel
    by_cases hlt : k < n
    · obtain ⟨b, o, rfl, hbl, hc⟩ := (HR.out.below HB.out (Nat.le_refl _)).2.2.2 (by omega)
      obtain ⟨b', o', rfl, hbl', hc'⟩ := (HR'.out.below HB.out (Nat.le_refl _)).2.2.2 (by omega)
      have c0 := hc (k * 2) (by omega)
      have c1 := hc (k * 2 + 1) (by omega)
      have d0 := hc' (k * 2) (by omega)
      have d1 := hc' (k * 2 + 1) (by omega)
      simp only [← Nat.add_assoc] at c1 d1
      clear hc hc'
      go_wp2
      have OL := Lib.hid (Old.mk_ (Below.refl wr.heap.size wr).drew)
      go_region_held3 (fun w' => (∀ b o, b < wr.heap.size → w'.cell? ⟨b, o, none⟩ = wr.cell? ⟨b, o, none⟩) ∧ Below wr.heap.size wr w')
        (first | assumption | exact OL.out | exact Old.trans (by assumption) (by assumption))
        (first | (go_at_call 35; refine (eqEdit_same _ (f (k * 2)) (f (k * 2 + 1))).mono ?_; rintro e wa ⟨rfl, ba⟩))
      rename_i hS
      have hB := hS.2
      clear hS OL c0 c1 d0 d1
      go_wp2
      go_roundw
      case rel => exact ⟨k + 1, by omega, by go_num, Lib.hid (HB.out.trans (hB.mono HB.out.size))⟩
      case measure => simp [intOf]; omega
    · go_wp2
      go_ret
      exact ⟨rfl, HB.out⟩

/-- the cells of n elements of two, the first m of them marked from k on -/
def MkE (w : World) (b o n m : Nat) (k : Int) (f : Nat → Int) : Prop :=
  ∀ i, i < n * 2 → w.cell? ⟨b, o + i, none⟩ = some (.int .i64 (if i < m then k + i else f i)) ∧ w.frozen? ⟨b, o + i, none⟩ = false
theorem MkE.step {w : World} {b o n m : Nat} {k : Int} {f : Nat → Int} (h : MkE w b o n m k f) (hm : m < n * 2) {a : Nat} (ha : a = o + m) {v : Int} (hv : v = k + m) : MkE (w.setCell ⟨b, a, none⟩ (.int .i64 v)) b o n (m + 1) k f := fun i hi => by
  subst ha hv
  obtain ⟨c2, f2⟩ := h i hi
  refine ⟨?_, by rw [World.frozen?_setCell]; exact f2⟩
  by_cases e : i = m
  · subst e
    rw [World.cell?_setCell_same _ _ _ c2]
    simp
  · rw [World.cell?_setCell_other _ _ _ _ (fun h => e (by injection h; omega)), c2]
    by_cases h : i < m
    · rw [if_pos h, if_pos (by omega)]
    · rw [if_neg h, if_neg (by omega)]

def MarkedE (base : Nat) (A : Option Addr) (n c : Nat) (k : Int) (w : World) (e : Ending) (w' : World) : Prop :=
  e = .returned (.int .i64 (k + 2 * n)) ∧ OwnS 2 w' base A n c (fun i => k + i) ∧ ∃ r, w.grownBy w' r ∧ ∀ b, r = some b → 0 < n ∧ blk A = some b

set_option maxHeartbeats 2000000 in
theorem markEdits_any (w : World) (base : Nat) (A : Option Addr) (n c : Nat) (f : Nat → Int) (k : Int) (hr : OwnS 2 w base A n c f) (k0 : 0 ≤ k) (k1 : k + 2 * n ≤ 9223372036854775807) :
    Calls Try.prog 18 #[.slice A n c, .int .i64 k] w (MarkedE base A n c k w) := by
  obtain ⟨hnc, hcm, hwf, hcell⟩ := hr
  unfold maxLen at hcm
  have hwf' : ∀ i : Nat, i < n * 2 → (Lit.int .i64 (k + i)).wf = true := fun i hi => WalkArith.wf_i64 (by omega)
  have HWF := Lib.hid hwf'
  clear hwf hwf'
  by_cases hn : 0 < n
  · obtain ⟨b, o, rfl, hb, hlt, hc⟩ := hcell hn
    have HC : Hid (MkE w b o n 0 k f) := Lib.hid (fun i hi => by simpa using hc i hi)
    clear hc hcell
    go_enter Try.func18, Try.ntmps18
    go_wp2
    go_loopw [1, 5] (fun s i wr => ∃ j : Nat, j ≤ n ∧ i = .int .i64 j ∧ s = .int .i64 (k + 2 * j) ∧ Hid (MkE wr b o n (j * 2) k f) ∧ w.grownBy wr (some b))
      (fun _ i _ => n - (intOf i).toNat)
    case atStart => exact ⟨0, Nat.zero_le _, rfl, by go_num, HC, World.grownBy.refl _ _⟩
    case round =>
      obtain ⟨j, hj, rfl, rfl, HW, hg⟩ := hrel
      by_cases hlt2 : j < n
      · obtain ⟨c0, f0⟩ := HW.out (j * 2) (by omega)
        obtain ⟨c1, f1⟩ := HW.out (j * 2 + 1) (by omega)
        simp only [← Nat.add_assoc] at c1 f1
        have c0' := c0
        go_wp2
        go_roundw
        case rel =>
          refine ⟨j + 1, by omega, by go_num, by go_num, ?_, ?_⟩
          · rw [show (j + 1) * 2 = j * 2 + 1 + 1 by omega]
            exact Lib.hid ((HW.out.step (by omega) rfl (by omega)).step (by omega) (by omega) (by omega))
          · exact grown_trans (grown_trans hg (grown_setCell _)) (grown_setCell _)
        case measure => simp [intOf]; omega
      · have e : j = n := by omega
        go_wp2
        go_ret
        exact ⟨ret_int (by rw [e]), ⟨hnc, by unfold maxLen; omega, HWF.out, fun _ => ⟨b, o, rfl, hb, Nat.lt_of_lt_of_le hlt hg.size, fun i hi => ⟨by rw [(HW.out i hi).1, if_pos (by omega)], (HW.out i hi).2⟩⟩⟩, some b, hg, fun b' e => ⟨hn, e⟩⟩
  · have e : n = 0 := by omega
    subst e
    clear hcell
    go_enter Try.func18, Try.ntmps18
    go_wp2
    go_loop [1, 5] (fun s i => i = .int .i64 0 ∧ s = .int .i64 k) (fun _ _ => 0)
    case atStart => exact ⟨rfl, rfl⟩
    case round =>
      obtain ⟨rfl, rfl⟩ := hrel
      go_wp2
      go_ret
      exact ⟨ret_int (by simp), ⟨hnc, by unfold maxLen; omega, HWF.out, fun h => absurd h (by omega)⟩, none, World.grownBy.refl _ _, fun b e => by cases e⟩

set_option maxHeartbeats 2000000 in
theorem heldEdits_any (w : World) (A : Option Addr) (n c : Nat) (k : Int) (hr : RowS 2 w A n c (fun i => k + i)) (k0 : 0 ≤ k) (k1 : k + 2 * n ≤ 9223372036854775807) :
    Calls Try.prog 22 #[.slice A n c, .int .i64 k] w (Gives (.int .i64 (k + 2 * n)) w) := by
  obtain ⟨hnc, hcm, -, hcell⟩ := hr
  unfold maxLen at hcm
  go_enter Try.func22, Try.ntmps22
  go_wp2
  go_loop [1, 5] (fun s i => ∃ j : Nat, j ≤ n ∧ i = .int .i64 j ∧ s = .int .i64 (k + 2 * j)) (fun _ i => n - (intOf i).toNat)
  case atStart => exact ⟨0, Nat.zero_le _, rfl, by go_num⟩
  case round =>
    obtain ⟨j, hj, rfl, rfl⟩ := hrel
    by_cases hlt : j < n
    · obtain ⟨b, o, rfl, hbl, hc⟩ := hcell (by omega)
      have c0 := hc (j * 2) (by omega)
      have c1 := hc (j * 2 + 1) (by omega)
      simp only [← Nat.add_assoc] at c1
      rw [show k + ((j * 2 : Nat) : Int) = k + 2 * (j : Int) by omega] at c0
      rw [show k + ((j * 2 + 1 : Nat) : Int) = k + 2 * (j : Int) + 1 by omega] at c1
      have e0 : ((k + 2 * (j : Int)) != (k + 2 * (j : Int))) = false := by simp
      have e1 : ((k + 2 * (j : Int) + 1) != (k + 2 * (j : Int) + 1)) = false := by simp
      clear hc hcell
      go_wp2
      go_round
      case rel => exact ⟨j + 1, by omega, by go_num, by go_num⟩
      case measure => simp [intOf]; omega
    · have e : j = n := by omega
      go_wp2
      go_ret
      exact ⟨rfl, Below.refl _ _⟩

end Go.Proofs.Ytgdmojkfpghmnaa.Base
