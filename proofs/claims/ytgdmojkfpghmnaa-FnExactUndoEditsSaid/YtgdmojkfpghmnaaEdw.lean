/-
  Lists of edits: the laws' size and copy.
-/
import Derived.Test.YtgdmojkfpghmnaaEds
import Derived.Test.YtgdmojkfpghmnaaPld
import Derived.Deep.OwnRows
namespace Go.Proofs.Ytgdmojkfpghmnaa.Base
open Go Go.RowKit Go.Deep
set_option linter.unusedVariables false
set_option linter.unusedSimpArgs false

theorem szEdits_yes (w : World) (A : Option Addr) (n c : Nat) (l : Int) (hl : 0 ≤ l) (hl' : l ≤ 1048576) (hn : (n : Int) ≤ l) :
    Calls Try.prog 8 #[.slice A n c, .int .i64 l] w (Gives (.int .i64 (l - n)) w) := by
  go_enter Try.func8, Try.ntmps8
  go_wp2
  go_ret
  exact ⟨rfl, Below.refl _ _⟩
theorem szEdits_no (w : World) (A : Option Addr) (n c : Nat) (l : Int) (hl : 0 ≤ l) (hl' : l ≤ 1048576) (hn : n ≤ 9223372036854775807) (h' : l < (n : Int)) :
    Calls Try.prog 8 #[.slice A n c, .int .i64 l] w (Gives (.int .i64 (-1)) w) := by
  go_enter Try.func8, Try.ntmps8
  go_wp2
  go_ret
  exact ⟨rfl, Below.refl _ _⟩
theorem infoEd : (Try.prog.info? 50).map (fun i => (i.zero, i.size, i.bytes)) = some (some (.agg #[.int .i64 0, .int .i64 0]), 2, 16) := by kernel_rfl
def zeroEd (n : Nat) : Array Value := madeCells #[.int .i64 0, .int .i64 0] (n * 2)
theorem zeroEd_at {n i : Nat} (h : i < n * 2) : (zeroEd n)[i]? = some (.int .i64 0) := by
  unfold zeroEd madeCells
  rw [Array.getElem?_map, Array.getElem?_range, if_pos h]
  have h1 : i % 2 = 0 ∨ i % 2 = 1 := by omega
  rcases h1 with h1 | h1 <;> simp [h1]
theorem make_ed (n : Nat) (hn : n ≤ 1048576) (w : World) : (Instr.makeSlice 31 (.int .i64 (n : Int)) (.int .i64 (n : Int))).run Try.prog w = .ok (.slice (some ⟨w.heap.size, 0, none⟩) n n) (w.alloc (.cells (zeroEd n) 50)) := by
  obtain ⟨i, hi, hz0, hz1, hz2⟩ := info_parts infoEd
  have h := run_make (P := Try.prog) w 31 50 i _ Try.underlying31 hi hz0 .i64 .i64 n n (by omega) (Int.le_refl _) (by rw [hz2]; omega) (by omega)
  rw [hz1] at h
  simpa [zeroEd, Value.cells] using h
theorem rowIs_ed (w : World) (n : Nat) : (w.alloc (.cells (zeroEd n) 50)).rowIs w.heap.size 50 (n * 2) (fun _ => .int .i64 0) :=
  ⟨_, blk_alloc_new _ _, by simp [zeroEd, madeCells], fun i hi => zeroEd_at hi⟩
/-- a list that the call has made -/
theorem ownS_ed {w : World} {T : TypeId} {b base n : Nat} {f : Nat → Int} (h : w.rowIs b T (n * 2) (fun i => .int .i64 (f i))) (hm : n ≤ maxLen) (hw : ∀ i, i < n * 2 → (Lit.int .i64 (f i)).wf = true) (hb : base ≤ b) : OwnS 2 w base (some ⟨b, 0, none⟩) n n f :=
  ⟨Nat.le_refl _, hm, hw, fun _ => ⟨b, 0, rfl, hb, h.lt, fun i hi => by rw [Nat.zero_add]; exact ⟨h.cell hi, h.frozen i⟩⟩⟩
theorem toEdit_any (w : World) (a b : Int) : Calls Try.prog 29 #[.agg #[.int .i64 a, .int .i64 b]] w (Gives (.agg #[.int .i64 a, .int .i64 b]) w) := by
  go_enter Try.func29, Try.ntmps29
  go_wp2
  go_returns
  exact ⟨rfl, by go_grown⟩
def EdsMade (n : Nat) (g : Nat → Int) (w : World) (e : Ending) (w' : World) : Prop :=
  ∃ A c, e = .returned (.slice A n c) ∧ OwnS 2 w' w.heap.size A n c g ∧ Below w.heap.size w w'
set_option maxHeartbeats 2000000 in
theorem toEdits_any (w : World) (A : Option Addr) (n c : Nat) (g : Nat → Int) (hr : RowS 2 w A n c g) (hn : n ≤ 1048576) :
    Calls Try.prog 11 #[.slice A n c] w (EdsMade n g w) := by
  obtain ⟨hnc, hcm, hwf, hcell⟩ := hr
  have hmk := make_ed n hn
  have HWF := Lib.hid hwf
  clear hwf
  go_enter Try.func11, Try.ntmps11
  go_wp2
  clear hmk
  go_loopw [4] (fun i wr => ∃ k : Nat, k ≤ n ∧ i = .int .i64 k ∧ Hid (wr.rowIs w.heap.size 50 (n * 2) (fun j => .int .i64 (if j < k * 2 then g j else 0))) ∧ Hid (Below w.heap.size w wr))
    (fun i _ => n - (intOf i).toNat)
  case atStart => exact ⟨0, Nat.zero_le _, rfl, Lib.hid (by simpa using rowIs_ed w n), Lib.hid ((Below.refl _ _).alloc (Nat.le_refl _) _)⟩
  case round =>
    obtain ⟨k, hk, rfl, HR, HB⟩ := hrel
    by_cases hlt : k < n
    · obtain ⟨b, o, rfl, hbl, hc⟩ := hcell (by omega)
      have c0 : wr.cell? ⟨b, o + k * 2, none⟩ = some (.int .i64 (g (k * 2))) := (HB.out.cell (p := ⟨b, o + k * 2, none⟩) hbl).trans (hc (k * 2) (by omega))
      have c1 : wr.cell? ⟨b, o + k * 2 + 1, none⟩ = some (.int .i64 (g (k * 2 + 1))) := by rw [Nat.add_assoc]; exact (HB.out.cell (p := ⟨b, o + (k * 2 + 1), none⟩) hbl).trans (hc (k * 2 + 1) (by omega))
      have bz : b < wr.heap.size := Nat.lt_of_lt_of_le hbl HB.out.size
      have dz : w.heap.size < wr.heap.size := HR.out.lt
      go_wp2_with fail
      refine (toEdit_any _ (g (k * 2)) (g (k * 2 + 1))).mono ?_
      rintro e wa ⟨rfl, ba⟩
      have HR2 := Lib.hid (HR.out.of_block (ba.block w.heap.size dz))
      have HB2 := Lib.hid (HB.out.trans (ba.mono HB.out.size))
      have d0 := HR2.out.cell (i := k * 2) (by omega)
      have d1 := HR2.out.cell (i := k * 2 + 1) (by omega)
      have f0 := HR2.out.frozen (k * 2)
      have f1 := HR2.out.frozen (k * 2 + 1)
      have z2 := HR2.out.lt
      clear ba c0 c1
      go_wp2
      go_roundw
      case rel => exact ⟨k + 1, by omega, by go_num, Lib.hid (((HR2.out.set (k * 2) (.int .i64 (g (k * 2)))).set (k * 2 + 1) (.int .i64 (g (k * 2 + 1)))).congr (fun j hj => by
          by_cases e1 : j = k * 2 + 1
          · subst e1; rw [if_pos rfl, if_pos (by omega)]
          · rw [if_neg e1]
            by_cases e2 : j = k * 2
            · subst e2; rw [if_pos rfl, if_pos (by omega)]
            · rw [if_neg e2]
              by_cases e3 : j < k * 2
              · rw [if_pos e3, if_pos (by omega)]
              · rw [if_neg e3, if_neg (by omega)])), Lib.hid ((HB2.out.setCell (Nat.le_refl _) _).setCell (Nat.le_refl _) _)⟩
      case measure => simp [intOf]; omega
    · go_wp2
      go_ret
      exact ⟨_, _, rfl, ownS_ed (HR.out.congr (fun j hj => by rw [if_pos (by omega)])) (by unfold maxLen; omega) HWF.out (Nat.le_refl _), HB.out⟩
end Go.Proofs.Ytgdmojkfpghmnaa.Base
