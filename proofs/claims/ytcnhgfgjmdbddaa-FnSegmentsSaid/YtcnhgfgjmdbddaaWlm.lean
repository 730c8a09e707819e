/-
  The laws' marks of slices of walkers.
-/
import Derived.Test.YtcnhgfgjmdbddaaWls
namespace Go.Proofs.Ytcnhgfgjmdbddaa.Base
open Go.RowKit
set_option linter.unusedVariables false
set_option linter.unusedSimpArgs false

/-- the cells of n elements of four, the first m of them marked from k on -/
def MkC (w : World) (b o n m : Nat) (k : Int) (f : Nat → Int) : Prop :=
  ∀ i, i < n * 4 → w.cell? ⟨b, o + i, none⟩ = some (.int .i64 (if i < m then k + i else f i)) ∧ w.frozen? ⟨b, o + i, none⟩ = false
theorem MkC.step {w : World} {b o n m : Nat} {k : Int} {f : Nat → Int} (h : MkC w b o n m k f) (hm : m < n * 4) {a : Nat} (ha : a = o + m) {v : Int} (hv : v = k + m) : MkC (w.setCell ⟨b, a, none⟩ (.int .i64 v)) b o n (m + 1) k f := fun i hi => by
  subst ha hv
  obtain ⟨c2, f2⟩ := h i hi
  refine ⟨?_, by rw [World.frozen?_setCell]; exact f2⟩
  by_cases e : i = m
  · subst e
    rw [World.cell?_setCell_same _ _ _ c2]
    simp
  · rw [World.cell?_setCell_other _ _ _ _ (fun h => e (by injection h; omega)), c2]
    by_cases h : i < m
    · rw [if_pos h, if_pos (by omega)]
    · rw [if_neg h, if_neg (by omega)]

def MarkedS (base : Nat) (A : Option Addr) (n c : Nat) (k : Int) (w : World) (e : Ending) (w' : World) : Prop :=
  e = .returned (.int .i64 (k + 4 * n)) ∧ OwnS 4 w' base A n c (fun i => k + i) ∧ ∃ r, w.grownBy w' r ∧ ∀ b, r = some b → 0 < n ∧ blk A = some b

set_option maxHeartbeats 2000000 in
theorem markWalkers_any (w : World) (base : Nat) (A : Option Addr) (n c : Nat) (f : Nat → Int) (k : Int) (hr : OwnS 4 w base A n c f) (k0 : 0 ≤ k) (k1 : k + 4 * n ≤ 9223372036854775807) :
    Calls Try.prog 37 #[.slice A n c, .int .i64 k] w (MarkedS base A n c k w) := by
  obtain ⟨hnc, hcm, hwf, hcell⟩ := hr
  unfold maxLen at hcm
  have hwf' : ∀ i : Nat, i < n * 4 → (Lit.int .i64 (k + i)).wf = true := fun i hi => WalkArith.wf_i64 (by omega)
  have HWF := Lib.hid hwf'
  clear hwf hwf'
  by_cases hn : 0 < n
  · obtain ⟨b, o, rfl, hb, hlt, hc⟩ := hcell hn
    have HC : Hid (MkC w b o n 0 k f) := Lib.hid (fun i hi => by simpa using hc i hi)
    clear hc hcell
    go_enter Try.func37, Try.ntmps37
    go_wp2
    go_loopw [1, 5] (fun s i wr => ∃ j : Nat, j ≤ n ∧ i = .int .i64 j ∧ s = .int .i64 (k + 4 * j) ∧ Hid (MkC wr b o n (j * 4) k f) ∧ w.grownBy wr (some b))
      (fun _ i _ => n - (intOf i).toNat)
    case atStart => exact ⟨0, Nat.zero_le _, rfl, by go_num, HC, World.grownBy.refl _ _⟩
    case round =>
      obtain ⟨j, hj, rfl, rfl, HW, hg⟩ := hrel
      by_cases hlt2 : j < n
      · obtain ⟨c0, f0⟩ := HW.out (j * 4) (by omega)
        obtain ⟨c1, f1⟩ := HW.out (j * 4 + 1) (by omega)
        obtain ⟨c2, f2⟩ := HW.out (j * 4 + 2) (by omega)
        obtain ⟨c3, f3⟩ := HW.out (j * 4 + 3) (by omega)
        simp only [← Nat.add_assoc] at c1 c2 c3 f1 f2 f3
        have c0' := c0
        go_wp2
        go_roundw
        case rel =>
          refine ⟨j + 1, by omega, by go_num, by go_num, ?_, ?_⟩
          · rw [show (j + 1) * 4 = j * 4 + 1 + 1 + 1 + 1 by omega]
            exact Lib.hid ((((HW.out.step (by omega) rfl (by omega)).step (by omega) (by omega) (by omega)).step (by omega) (by omega) (by omega)).step (by omega) (by omega) (by omega))
          · exact grown_trans (grown_trans (grown_trans (grown_trans hg (grown_setCell _)) (grown_setCell _)) (grown_setCell _)) (grown_setCell _)
        case measure => simp [intOf]; omega
      · have e : j = n := by omega
        go_wp2
        go_ret
        exact ⟨ret_int (by rw [e]), ⟨hnc, by unfold maxLen; omega, HWF.out, fun _ => ⟨b, o, rfl, hb, Nat.lt_of_lt_of_le hlt hg.size, fun i hi => ⟨by rw [(HW.out i hi).1, if_pos (by omega)], (HW.out i hi).2⟩⟩⟩, some b, hg, fun b' e => ⟨hn, e⟩⟩
  · have e : n = 0 := by omega
    subst e
    clear hcell
    go_enter Try.func37, Try.ntmps37
    go_wp2
    go_loop [1, 5] (fun s i => i = .int .i64 0 ∧ s = .int .i64 k) (fun _ _ => 0)
    case atStart => exact ⟨rfl, rfl⟩
    case round =>
      obtain ⟨rfl, rfl⟩ := hrel
      go_wp2
      go_ret
      exact ⟨ret_int (by simp), ⟨hnc, by unfold maxLen; omega, HWF.out, fun h => absurd h (by omega)⟩, none, World.grownBy.refl _ _, fun b e => by cases e⟩

set_option maxHeartbeats 2000000 in
theorem heldWalkers_any (w : World) (A : Option Addr) (n c : Nat) (k : Int) (hr : RowS 4 w A n c (fun i => k + i)) (k0 : 0 ≤ k) (k1 : k + 4 * n ≤ 9223372036854775807) :
    Calls Try.prog 38 #[.slice A n c, .int .i64 k] w (Gives (.int .i64 (k + 4 * n)) w) := by
  obtain ⟨hnc, hcm, -, hcell⟩ := hr
  unfold maxLen at hcm
  go_enter Try.func38, Try.ntmps38
  go_wp2
  go_loop [1, 5] (fun s i => ∃ j : Nat, j ≤ n ∧ i = .int .i64 j ∧ s = .int .i64 (k + 4 * j)) (fun _ i => n - (intOf i).toNat)
  case atStart => exact ⟨0, Nat.zero_le _, rfl, by go_num⟩
  case round =>
    obtain ⟨j, hj, rfl, rfl⟩ := hrel
    by_cases hlt : j < n
    · obtain ⟨b, o, rfl, hbl, hc⟩ := hcell (by omega)
      have c0 := hc (j * 4) (by omega)
      have c1 := hc (j * 4 + 1) (by omega)
      have c2 := hc (j * 4 + 2) (by omega)
      have c3 := hc (j * 4 + 3) (by omega)
      simp only [← Nat.add_assoc] at c1 c2 c3
      rw [show k + ((j * 4 : Nat) : Int) = k + 4 * (j : Int) by omega] at c0
      rw [show k + ((j * 4 + 1 : Nat) : Int) = k + 4 * (j : Int) + 1 by omega] at c1
      rw [show k + ((j * 4 + 2 : Nat) : Int) = k + 4 * (j : Int) + 1 + 1 by omega] at c2
      rw [show k + ((j * 4 + 3 : Nat) : Int) = k + 4 * (j : Int) + 1 + 1 + 1 by omega] at c3
      have e0 : ((k + 4 * (j : Int)) != (k + 4 * (j : Int))) = false := by simp
      have e1 : ((k + 4 * (j : Int) + 1) != (k + 4 * (j : Int) + 1)) = false := by simp
      have e2 : ((k + 4 * (j : Int) + 1 + 1) != (k + 4 * (j : Int) + 1 + 1)) = false := by simp
      have e3 : ((k + 4 * (j : Int) + 1 + 1 + 1) != (k + 4 * (j : Int) + 1 + 1 + 1)) = false := by simp
      clear hc hcell
      go_wp2
      go_round
      case rel => exact ⟨j + 1, by omega, by go_num, by go_num⟩
      case measure => simp [intOf]; omega
    · have e : j = n := by omega
      go_wp2
      go_ret
      exact ⟨rfl, Below.refl _ _⟩
theorem RowS.grownR {s : Nat} {w w' : World} {r : Option Nat} {A : Option Addr} {n c : Nat} {f : Nat → Int} (h : RowS s w A n c f) (g : w.grownBy w' r) (hne : ∀ b, 0 < n → blk A = some b → r = some b → False) : RowS s w' A n c f :=
  ⟨h.1, h.2.1, h.2.2.1, fun hn => by
    obtain ⟨b, o, e, h2, hc⟩ := h.2.2.2 hn
    have hb := g.block b h2 (fun e' => hne b hn (by rw [e]; rfl) e'.symm)
    exact ⟨b, o, e, Nat.lt_of_lt_of_le h2 g.size, fun i hi => (World.cell?_of_block (a := ⟨b, o + i, none⟩) hb).trans (hc i hi)⟩⟩
theorem OwnS.grownR {s : Nat} {w w' : World} {base : Nat} {r : Option Nat} {A : Option Addr} {n c : Nat} {f : Nat → Int} (h : OwnS s w base A n c f) (g : w.grownBy w' r) (hne : ∀ b, 0 < n → blk A = some b → r = some b → False) : OwnS s w' base A n c f :=
  ⟨h.1, h.2.1, h.2.2.1, fun hn => by
    obtain ⟨b, o, e, h1, h2, hc⟩ := h.2.2.2 hn
    have hb := g.block b h2 (fun e' => hne b hn (by rw [e]; rfl) e'.symm)
    exact ⟨b, o, e, h1, Nat.lt_of_lt_of_le h2 g.size, fun i hi => ⟨(World.cell?_of_block (a := ⟨b, o + i, none⟩) hb).trans (hc i hi).1, (World.frozen?_of_block (a := ⟨b, o + i, none⟩) hb).trans (hc i hi).2⟩⟩⟩
theorem RowS.blk_lt {s : Nat} {w : World} {A : Option Addr} {n c : Nat} {f : Nat → Int} (h : RowS s w A n c f) : 0 < n → ∀ b, blk A = some b → b < w.heap.size := fun hn b hb => by
  obtain ⟨b', o, e, h2, _⟩ := h.2.2.2 hn
  rw [e] at hb
  simp [blk] at hb
  omega
theorem OwnS.blk_ge {s : Nat} {w : World} {base : Nat} {A : Option Addr} {n c : Nat} {f : Nat → Int} (h : OwnS s w base A n c f) : 0 < n → ∀ b, blk A = some b → base ≤ b := fun hn b hb => by
  obtain ⟨b', o, e, h2, _⟩ := h.2.2.2 hn
  rw [e] at hb
  simp [blk] at hb
  omega
theorem markedS_below {w w' : World} {r : Option Nat} {B s base : Nat} {A : Option Addr} {n c : Nat} {f : Nat → Int} (h : w.grownBy w' r) (hr : ∀ b, r = some b → 0 < n ∧ blk A = some b) (ho : OwnS s w base A n c f) (hb : B ≤ base) (hs : base ≤ w.heap.size) : Below B w w' :=
  (Below.refl B w).grown h (Nat.le_trans hb hs) (fun b e => by
    obtain ⟨hn, hA⟩ := hr b e
    have := ho.blk_ge hn b hA
    omega)
/-- a list of n elements of s integers and a code, the list made from block base on -/
def ListOut (s n : Nat) (f : Nat → Int) (code : Int) (base : Nat) (w : World) (e : Ending) (w' : World) : Prop :=
  ∃ A c, e = .returned (.tuple #[.slice A n c, .int .i64 code]) ∧ OwnS s w' base A n c f ∧ Below base w w'
end Go.Proofs.Ytcnhgfgjmdbddaa.Base
