/-
  The laws' marks: what markPanel writes and heldPanel reads.
-/
import Derived.Test.YtbpdjmjkjiddjaaDoorPan
namespace Go.Proofs.YtbpdjmjkjiddjaaDoor.Base
open Go.RowKit
set_option linter.unusedVariables false

/-- a row that the call made: from block 'base' on, none frozen -/
def OwnRow (w : World) (base : Nat) (A : Option Addr) (n c : Nat) (f : Nat → Int) : Prop :=
  n ≤ c ∧ c ≤ maxLen ∧ (∀ i, i < n → (Lit.int .i64 (f i)).wf = true) ∧
  (0 < n → ∃ b o, A = some ⟨b, o, none⟩ ∧ base ≤ b ∧ b < w.heap.size ∧ ∀ i, i < n → w.cell? ⟨b, o + i, none⟩ = some (.int .i64 (f i)) ∧ w.frozen? ⟨b, o + i, none⟩ = false)
/-- the block that a slice's value leads to -/
def blk (A : Option Addr) : Option Nat := A.map (·.block)

section
variable {w w' : World} {base : Nat} {A : Option Addr} {n c : Nat} {f g : Nat → Int}
theorem OwnRow.row (h : OwnRow w base A n c f) : Row .i64 w A n c f :=
  ⟨h.1, h.2.1, h.2.2.1, fun hn => by obtain ⟨b, o, e, _, hb, hc⟩ := h.2.2.2 hn; exact ⟨b, o, e, hb, fun i hi => (hc i hi).1⟩⟩
theorem OwnRow.below {B : Nat} (h : OwnRow w base A n c f) (hb : Below B w w') (hB : w.heap.size ≤ B) : OwnRow w' base A n c f :=
  ⟨h.1, h.2.1, h.2.2.1, fun hn => by
    obtain ⟨b, o, e, h1, h2, hc⟩ := h.2.2.2 hn
    exact ⟨b, o, e, h1, Nat.lt_of_lt_of_le h2 hb.size, fun i hi => ⟨(hb.cell (p := ⟨b, o + i, none⟩) (Nat.lt_of_lt_of_le h2 hB)).trans (hc i hi).1, (hb.frozen (p := ⟨b, o + i, none⟩) (Nat.lt_of_lt_of_le h2 hB)).trans (hc i hi).2⟩⟩⟩
/-- a row below 'base' is not touched by a write into a row from 'base' on -/
theorem Row.grown {k : IntKind} {A' : Option Addr} {n' c' : Nat} {f' : Nat → Int} (h : Row k w A' n' c' f') (hg : w.grownBy w' (blk A)) (hne : 0 < n' → blk A' ≠ blk A) : Row k w' A' n' c' f' :=
  ⟨h.1, h.2.1, h.2.2.1, fun hn => by
    obtain ⟨b, o, e, h2, hc⟩ := h.2.2.2 hn
    subst e
    have hb := hg.block b h2 (fun e => hne hn (by simpa [blk] using e))
    exact ⟨b, o, rfl, Nat.lt_of_lt_of_le h2 hg.size, fun i hi => (World.cell?_of_block (a := ⟨b, o + i, none⟩) hb).trans (hc i hi)⟩⟩
theorem OwnRow.grown {A' : Option Addr} {n' c' : Nat} {f' : Nat → Int} (h : OwnRow w base A' n' c' f') (hg : w.grownBy w' (blk A)) (hne : 0 < n' → blk A' ≠ blk A) : OwnRow w' base A' n' c' f' :=
  ⟨h.1, h.2.1, h.2.2.1, fun hn => by
    obtain ⟨b, o, e, h1, h2, hc⟩ := h.2.2.2 hn
    subst e
    have hb := hg.block b h2 (fun e => hne hn (by simpa [blk] using e))
    exact ⟨b, o, rfl, h1, Nat.lt_of_lt_of_le h2 hg.size, fun i hi => ⟨(World.cell?_of_block (a := ⟨b, o + i, none⟩) hb).trans (hc i hi).1, (World.frozen?_of_block (a := ⟨b, o + i, none⟩) hb).trans (hc i hi).2⟩⟩⟩
theorem Box.grown {p : Nat} {W H : Int} {A' : Option Addr} {n' c' : Nat} (h : Box w p W H A' n' c') (hg : w.grownBy w' (blk A)) (hne : some p ≠ blk A) : Box w' p W H A' n' c' := by
  have hb := hg.block p h.1 hne
  exact ⟨Nat.lt_of_lt_of_le h.1 hg.size, (World.cell?_of_block (a := ⟨p, 0, none⟩) hb).trans h.2.1, (World.cell?_of_block (a := ⟨p, 1, none⟩) hb).trans h.2.2.1, (World.cell?_of_block (a := ⟨p, 2, none⟩) hb).trans h.2.2.2⟩
theorem OwnRow.base_le (h : OwnRow w base A n c f) (hn : 0 < n) : ∃ b, blk A = some b ∧ base ≤ b ∧ b < w.heap.size := by
  obtain ⟨b, o, e, h1, h2, _⟩ := h.2.2.2 hn
  exact ⟨b, by rw [e]; rfl, h1, h2⟩
theorem grown_drewN {r : Option Nat} (h : w.grownBy w' r) (m : Nat) : w.grownBy (w'.drewN m) r := ⟨h.os, h.tape, h.output, h.size, h.block⟩
theorem grown_trans {w2 : World} {r : Option Nat} (h : w.grownBy w' r) (h' : w'.grownBy w2 r) : w.grownBy w2 r :=
  ⟨h'.os.trans h.os, h'.tape.trans h.tape, h'.output.trans h.output, Nat.le_trans h.size h'.size, fun k hk hne => (h'.block k (Nat.lt_of_lt_of_le hk h.size) hne).trans (h.block k hk hne)⟩
theorem grown_of_below {r : Option Nat} (h : Below w.heap.size w w') : w.grownBy w' r := ⟨h.os, h.tape, h.output, h.size, fun k hk _ => h.block k hk⟩
theorem grown_setCell {b o : Nat} (v : Value) : w.grownBy (w.setCell ⟨b, o, none⟩ v) (some b) :=
  ⟨rfl, rfl, rfl, by simp [World.setCell], fun k hk hne => Below.heap_setCell w ⟨b, o, none⟩ v k (by rintro rfl; exact hne rfl)⟩
end

/-- the post of mark: the row's cells hold k, k + 1, ..; nothing else has changed -/
def Marked (base : Nat) (A : Option Addr) (n c : Nat) (k : Int) (w : World) (e : Ending) (w' : World) : Prop :=
  e = .returned (.int .i64 (k + n)) ∧ OwnRow w' base A n c (fun i => k + i) ∧ ∃ r, w.grownBy w' r ∧ ∀ b, r = some b → 0 < n ∧ blk A = some b
theorem Marked.below {w w' : World} {r : Option Nat} {base : Nat} {A : Option Addr} {n c : Nat} {f : Nat → Int} (h : w.grownBy w' r) (hr : ∀ b, r = some b → 0 < n ∧ blk A = some b) (ho : OwnRow w base A n c f) (hb : base ≤ w.heap.size) : Below base w w' :=
  (Below.refl base w).grown h hb (fun b e => by
    obtain ⟨hn, hA⟩ := hr b e
    obtain ⟨b', hb', h1, _⟩ := ho.base_le hn
    rw [hA] at hb'
    injection hb' with hb'
    omega)
theorem Box.grown' {w w' : World} {r : Option Nat} {p : Nat} {W H : Int} {A' : Option Addr} {n' c' : Nat} (h : Box w p W H A' n' c') (hg : w.grownBy w' r) (hne : r ≠ some p) : Box w' p W H A' n' c' := by
  have hb := hg.block p h.1 (fun e => hne e.symm)
  exact ⟨Nat.lt_of_lt_of_le h.1 hg.size, (World.cell?_of_block (a := ⟨p, 0, none⟩) hb).trans h.2.1, (World.cell?_of_block (a := ⟨p, 1, none⟩) hb).trans h.2.2.1, (World.cell?_of_block (a := ⟨p, 2, none⟩) hb).trans h.2.2.2⟩

theorem mark_any (w : World) (base : Nat) (A : Option Addr) (n c : Nat) (f : Nat → Int) (k : Int) (hr : OwnRow w base A n c f) (k0 : 0 ≤ k) (k1 : k + n ≤ 9223372036854775807) :
    Calls Tryd.prog 60 #[.slice A n c, .int .i64 k] w (Marked base A n c k w) := by
  obtain ⟨hnc, hcm, hwf, hcell⟩ := hr
  unfold maxLen at hcm
  have hwf' : ∀ i : Nat, i < n → (Lit.int .i64 (k + i)).wf = true := fun i hi => WalkArith.wf_i64 (by omega)
  have HWF := Lib.hid hwf'
  clear hwf hwf'
  by_cases hn : 0 < n
  · obtain ⟨b, o, rfl, hb, hlt, hc⟩ := hcell hn
    have HC := Lib.hid hc
    clear hc hcell
    go_enter Tryd.func60, Tryd.ntmps60
    go_wp2
    go_loopw [1, 5] (fun s i wr => ∃ j : Nat, j ≤ n ∧ i = .int .i64 j ∧ s = .int .i64 (k + j) ∧ Hid (∀ i, i < n → wr.cell? ⟨b, o + i, none⟩ = some (.int .i64 (if i < j then k + i else f i)) ∧ wr.frozen? ⟨b, o + i, none⟩ = false) ∧ w.grownBy wr (some b))
      (fun _ i _ => n - (intOf i).toNat)
    case atStart => exact ⟨0, Nat.zero_le _, rfl, by go_num, Lib.hid (fun i hi => by simpa using HC.out i hi), World.grownBy.refl _ _⟩
    case round =>
      obtain ⟨j, hj, rfl, rfl, HW, hg⟩ := hrel
      by_cases hlt2 : j < n
      · obtain ⟨c1, f1⟩ := HW.out j hlt2
        simp only [Nat.lt_irrefl, if_false] at c1
        go_wp2
        go_roundw
        case rel =>
          refine ⟨j + 1, by omega, by go_num, by go_num, Lib.hid (fun i hi => ?_), grown_trans hg (grown_setCell _)⟩
          obtain ⟨c2, f2⟩ := HW.out i hi
          refine ⟨?_, by rw [World.frozen?_setCell]; exact f2⟩
          by_cases e : i = j
          · subst e
            rw [World.cell?_setCell_same _ _ _ c1]
            simp
          · rw [World.cell?_setCell_other _ _ _ _ (fun h => e (by injection h; omega)), c2]
            by_cases h : i < j
            · rw [if_pos h, if_pos (by omega)]
            · rw [if_neg h, if_neg (by omega)]
        case measure => simp [intOf]; omega
      · have e : j = n := by omega
        go_wp2
        go_ret
        exact ⟨ret_int (by rw [e]), ⟨hnc, by unfold maxLen; omega, HWF.out, fun _ => ⟨b, o, rfl, hb, Nat.lt_of_lt_of_le hlt hg.size, fun i hi => ⟨by rw [(HW.out i hi).1, if_pos (by omega)], (HW.out i hi).2⟩⟩⟩, some b, hg, fun b' e => ⟨hn, e⟩⟩
  · have e : n = 0 := by omega
    subst e
    clear hcell
    go_enter Tryd.func60, Tryd.ntmps60
    go_wp2
    go_loop [1, 5] (fun s i => i = .int .i64 0 ∧ s = .int .i64 k) (fun _ _ => 0)
    case atStart => exact ⟨rfl, rfl⟩
    case round =>
      obtain ⟨rfl, rfl⟩ := hrel
      go_wp2
      go_ret
      exact ⟨ret_int (by simp), ⟨hnc, by unfold maxLen; omega, HWF.out, fun h => absurd h (by omega)⟩, none, World.grownBy.refl _ _, fun b e => by cases e⟩

theorem markPanel_any (w : World) (base : Nat) (W H : Int) (A : Option Addr) (n c : Nat) (f : Nat → Int) (k : Int) (hr : OwnRow w base A n c f) (k0 : 0 ≤ k) (k1 : k + n ≤ 9223372036854775807) :
    Calls Tryd.prog 19 #[.agg #[.int .i64 W, .int .i64 H, .slice A n c], .int .i64 k] w (Marked base A n c k w) := by
  have HR := Lib.hid hr
  clear hr
  go_enter Tryd.func19, Tryd.ntmps19
  go_wp2_with fail
  refine (mark_any _ base A n c f k (HR.out.below ((Below.refl _ _).alloc (Nat.le_refl _) _) (Nat.le_refl _)) k0 k1).mono ?_
  rintro e w1 ⟨rfl, hr1, r, hg1, hrr⟩
  go_wp2
  go_ret
  exact ⟨rfl, hr1, r, grown_trans (World.grownBy_alloc w _ _) hg1, hrr⟩
end Go.Proofs.YtbpdjmjkjiddjaaDoor.Base
