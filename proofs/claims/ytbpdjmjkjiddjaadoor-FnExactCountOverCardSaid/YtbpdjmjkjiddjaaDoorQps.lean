/-
  Slices of passes (elements of an integer and a flag): rows, the laws' equality, size and copy; an argument of a law.
-/
import Derived.Test.YtbpdjmjkjiddjaaDoorWls
import Derived.Deep.SlicePairs
import Derived.Deep.OwnRows
namespace Go.Proofs.YtbpdjmjkjiddjaaDoor.Base
open Go Go.RowKit Go.Deep
set_option linter.unusedVariables false
set_option linter.unusedSimpArgs false

/-- cell i of a slice of passes: g tells the numbers, and 1 or 0 for over or under -/
def psV (g : Nat → Int) (i : Nat) : Value := if i % 2 = 0 then .int .i64 (g i) else .bool (g i != 0)
theorem psV_even (g : Nat → Int) (k : Nat) : psV g (k * 2) = .int .i64 (g (k * 2)) := if_pos (by omega)
theorem psV_odd (g : Nat → Int) (k : Nat) : psV g (k * 2 + 1) = .bool (g (k * 2 + 1) != 0) := if_neg (by omega)
def RowP (w : World) (A : Option Addr) (n c : Nat) (g : Nat → Int) : Prop :=
  n ≤ c ∧ c ≤ maxLen ∧ (∀ i, i < n → (Lit.int .i64 (g (i * 2))).wf = true) ∧
  (0 < n → ∃ b o, A = some ⟨b, o, none⟩ ∧ b < w.heap.size ∧ ∀ i, i < n * 2 → w.cell? ⟨b, o + i, none⟩ = some (psV g i))
def OwnP (w : World) (base : Nat) (A : Option Addr) (n c : Nat) (g : Nat → Int) : Prop :=
  n ≤ c ∧ c ≤ maxLen ∧ (∀ i, i < n → (Lit.int .i64 (g (i * 2))).wf = true) ∧
  (0 < n → ∃ b o, A = some ⟨b, o, none⟩ ∧ base ≤ b ∧ b < w.heap.size ∧ ∀ i, i < n * 2 → w.cell? ⟨b, o + i, none⟩ = some (psV g i) ∧ w.frozen? ⟨b, o + i, none⟩ = false)
section
variable {w w' : World} {base : Nat} {A : Option Addr} {n c : Nat} {g : Nat → Int}
theorem OwnP.row (h : OwnP w base A n c g) : RowP w A n c g :=
  ⟨h.1, h.2.1, h.2.2.1, fun hn => by obtain ⟨b, o, e, _, hb, hc⟩ := h.2.2.2 hn; exact ⟨b, o, e, hb, fun i hi => (hc i hi).1⟩⟩
theorem RowP.below {B : Nat} (h : RowP w A n c g) (hb : Below B w w') (hB : w.heap.size ≤ B) : RowP w' A n c g :=
  ⟨h.1, h.2.1, h.2.2.1, fun hn => by
    obtain ⟨b, o, e, h1, h2⟩ := h.2.2.2 hn
    exact ⟨b, o, e, Nat.lt_of_lt_of_le h1 hb.size, fun i hi => (hb.cell (p := ⟨b, o + i, none⟩) (Nat.lt_of_lt_of_le h1 hB)).trans (h2 i hi)⟩⟩
theorem OwnP.below {B : Nat} (h : OwnP w base A n c g) (hb : Below B w w') (hB : w.heap.size ≤ B) : OwnP w' base A n c g :=
  ⟨h.1, h.2.1, h.2.2.1, fun hn => by
    obtain ⟨b, o, e, h0, h1, h2⟩ := h.2.2.2 hn
    exact ⟨b, o, e, h0, Nat.lt_of_lt_of_le h1 hb.size, fun i hi => ⟨(hb.cell (p := ⟨b, o + i, none⟩) (Nat.lt_of_lt_of_le h1 hB)).trans (h2 i hi).1, (hb.frozen (p := ⟨b, o + i, none⟩) (Nat.lt_of_lt_of_le h1 hB)).trans (h2 i hi).2⟩⟩⟩
theorem RowP.blk_lt (h : RowP w A n c g) : 0 < n → ∀ b, blk A = some b → b < w.heap.size := fun hn b hb => by
  obtain ⟨b', o, e, h2, _⟩ := h.2.2.2 hn
  rw [e] at hb
  simp [blk] at hb
  omega
theorem OwnP.blk_ge (h : OwnP w base A n c g) : 0 < n → ∀ b, blk A = some b → base ≤ b := fun hn b hb => by
  obtain ⟨b', o, e, h2, _⟩ := h.2.2.2 hn
  rw [e] at hb
  simp [blk] at hb
  omega
/-- the two cells of element k -/
theorem RowP.two (h : RowP w A n c g) {k : Nat} (hk : k < n) : ∃ b o, A = some ⟨b, o, none⟩ ∧ b < w.heap.size ∧ w.cell? ⟨b, o + k * 2, none⟩ = some (.int .i64 (g (k * 2))) ∧ w.cell? ⟨b, o + k * 2 + 1, none⟩ = some (.bool (g (k * 2 + 1) != 0)) := by
  obtain ⟨b, o, e, hb, hc⟩ := h.2.2.2 (by omega)
  have h0 := hc (k * 2) (by omega)
  have h1 := hc (k * 2 + 1) (by omega)
  rw [psV_even] at h0
  rw [psV_odd, ← Nat.add_assoc] at h1
  exact ⟨b, o, e, hb, h0, h1⟩
end
/-- a slice of passes, as a law's argument -/
theorem rowP_of {H : Type} {enc : TypeId × Value → H} {P : Program} {w : World} {base : Nat} {held : Bool} {t e : TypeId} {f0 f1 : Field} {fuel : Nat} {cs : List Value} {x : DataW H × List MemPlace}
    (ht : P.underlying t = some (.slice e)) (he : P.underlying e = some (.struct #[f0, f1])) (ce : P.cellsOf e = 2) (o0 : f0.offset = 0) (o1 : f1.offset = 1) (c0 : P.cellsOf f0.type = 1) (c1 : P.cellsOf f1.type = 1)
    (k0 : P.underlying f0.type = some (.int .i64)) (k1 : P.underlying f1.type = some .bool)
    (h : DataW.trod enc P w base (fun _ => true) held fuel t cs = some x) :
    ∃ A n c g, cs = [.slice A n c] ∧ RowP w A n c g := by
  rcases Go.Deep.open_slice_pairs ht he ce o0 o1 c0 c1 h with ⟨rfl, _⟩ | ⟨a, len, cap, m, nn, V0, V1, D0, D1, P0, P1, rfl, _, hl, hm, hz, hx, hcell⟩
  · exact ⟨none, 0, 0, fun _ => 0, rfl, Nat.le_refl _, Nat.zero_le _, fun i hi => by omega, fun h => absurd h (by omega)⟩
  · simp only [if_true] at hz
    have hv : ∀ i, i < m → ∃ (z0 : Int) (z1 : Bool), V0 i = .int .i64 z0 ∧ V1 i = .bool z1 ∧ (Lit.int .i64 z0).wf = true := fun i hi => by
      obtain ⟨_, _, h0, h1⟩ := hcell i hi
      obtain ⟨z0, e0, _, w0⟩ := DataW.trod_int k0 h0
      obtain ⟨z1, e1, _⟩ := Go.DataW.trod_bool k1 h1
      simp at e0 e1
      exact ⟨z0, z1, e0, e1, w0⟩
    refine ⟨some a, len, cap, fun i => if i % 2 = 0 then intOf (V0 (i / 2)) else (match V1 (i / 2) with | .bool true => 1 | _ => 0), rfl, hl, hm, fun i hi => ?_, fun h0 => ?_⟩
    · obtain ⟨z0, z1, e0, e1, w0⟩ := hv i (by omega)
      show (Lit.int .i64 (if i * 2 % 2 = 0 then intOf (V0 (i * 2 / 2)) else _)).wf = true
      rw [if_pos (by omega), show i * 2 / 2 = i by omega, e0]
      exact w0
    · obtain ⟨b, off, spot⟩ := a
      have hc0 := (hcell 0 (by omega)).1
      have hspot : spot = none := by simpa [Addr.add] using World.cell?_spot hc0
      subst hspot
      refine ⟨b, off, rfl, ?_, fun i hi => ?_⟩
      · simpa [Addr.add] using World.block_lt_of_cell? _ _ hc0
      · obtain ⟨h0, h1, _, _⟩ := hcell (i / 2) (by omega)
        obtain ⟨z0, z1, e0, e1, _⟩ := hv (i / 2) (by omega)
        have hA : ∀ k, (⟨b, off, none⟩ : Addr).add k = ⟨b, off + k, none⟩ := fun k => by by_cases hk : k = 0 <;> simp [Addr.add, hk]
        rw [hA] at h0 h1
        show _ = some (if i % 2 = 0 then Value.int .i64 (if i % 2 = 0 then intOf (V0 (i / 2)) else (match V1 (i / 2) with | .bool true => 1 | _ => 0)) else .bool ((if i % 2 = 0 then intOf (V0 (i / 2)) else (match V1 (i / 2) with | .bool true => 1 | _ => 0)) != 0))
        by_cases hp : i % 2 = 0
        · simp only [if_pos hp, e0]
          rw [e0, show off + i / 2 * 2 = off + i by omega] at h0
          exact h0
        · simp only [if_neg hp, e1]
          rw [e1, show off + (i / 2 * 2 + 1) = off + i by omega] at h1
          rw [h1]
          cases z1 <;> rfl
theorem szPasses_yes (w : World) (A : Option Addr) (n c : Nat) (l : Int) (hl : 0 ≤ l) (hl' : l ≤ 1048576) (hn : (n : Int) ≤ l) :
    Calls Tryd.prog 9 #[.slice A n c, .int .i64 l] w (Gives (.int .i64 (l - n)) w) := by
  go_enter Tryd.func9, Tryd.ntmps9
  go_wp2
  go_ret
  exact ⟨rfl, Below.refl _ _⟩
theorem szPasses_no (w : World) (A : Option Addr) (n c : Nat) (l : Int) (hl : 0 ≤ l) (hl' : l ≤ 1048576) (hn : n ≤ 9223372036854775807) (h' : l < (n : Int)) :
    Calls Tryd.prog 9 #[.slice A n c, .int .i64 l] w (Gives (.int .i64 (-1)) w) := by
  go_enter Tryd.func9, Tryd.ntmps9
  go_wp2
  go_ret
  exact ⟨rfl, Below.refl _ _⟩
theorem eqPass_same (w : World) (a : Int) (b : Bool) : Calls Tryd.prog 53 #[.agg #[.int .i64 a, .bool b], .agg #[.int .i64 a, .bool b]] w (Gives (.bool true) w) := by
  have h0 : (a != a) = false := by simp
  cases b <;>
  · go_enter Tryd.func53, Tryd.ntmps53
    go_wp2
    go_ret
    exact ⟨rfl, by go_grown⟩
set_option maxHeartbeats 2000000 in
theorem eqPasses_same (w : World) (A A' : Option Addr) (n c c' : Nat) (f : Nat → Int) (hr : RowP w A n c f) (hr' : RowP w A' n c' f) :
    Calls Tryd.prog 13 #[.slice A n c, .slice A' n c'] w (Gives (.bool true) w) := by
  have hnc := hr.1
  have hcm := hr.2.1
  have hnc' := hr'.1
  have hcm' := hr'.2.1
  unfold maxLen at hcm hcm'
  have HR := Lib.hid hr
  have HR' := Lib.hid hr'
  have hn : ((n : Int) == (n : Int)) = true := beq_self_eq_true _
  have hn' : ((n : Int) != (n : Int)) = false := by simp
  clear hr hr'
  go_enter Tryd.func13, Tryd.ntmps13
  go_wp2
  go_loopw [5] (fun i wr => ∃ k : Nat, k ≤ n ∧ i = .int .i64 k ∧ Hid (Below w.heap.size w wr)) (fun i _ => n - (intOf i).toNat)
  case atStart => exact ⟨0, Nat.zero_le _, rfl, Lib.hid (Below.refl _ _)⟩
  case round =>
    obtain ⟨k, hk, rfl, HB⟩ := hrel
    by_cases hlt : k < n
    · obtain ⟨b, o, rfl, hbl, c0, c1⟩ := (HR.out.below HB.out (Nat.le_refl _)).two hlt
      obtain ⟨b', o', rfl, hbl', d0, d1⟩ := (HR'.out.below HB.out (Nat.le_refl _)).two hlt
      obtain ⟨ov, hov⟩ : ∃ ov, (f (k * 2 + 1) != 0) = ov := ⟨_, rfl⟩
      rw [hov] at c1 d1
      clear hov
      go_wp2
      have OL := Lib.hid (Old.mk_ (Below.refl wr.heap.size wr).drew)
      go_region_held3 (fun w' => (∀ b o, b < wr.heap.size → w'.cell? ⟨b, o, none⟩ = wr.cell? ⟨b, o, none⟩) ∧ Below wr.heap.size wr w')
        (first | assumption | exact OL.out | exact Old.trans (by assumption) (by assumption))
        (first | (go_at_call 53; refine (eqPass_same _ (f (k * 2)) ov).mono ?_; rintro e wa ⟨rfl, ba⟩))
      rename_i hS
      have hB := hS.2
      clear hS OL c0 c1 d0 d1
      go_wp2
      go_roundw
      case rel => exact ⟨k + 1, by omega, by go_num, Lib.hid (HB.out.trans (hB.mono HB.out.size))⟩
      case measure => simp [intOf]; omega
    · go_wp2
      go_ret
      exact ⟨rfl, HB.out⟩
theorem infoPass : (Tryd.prog.info? 67).map (fun i => (i.zero, i.size, i.bytes)) = some (some (.agg #[.int .i64 0, .bool false]), 2, 16) := by kernel_rfl
def zeroPass (n : Nat) : Array Value := madeCells #[.int .i64 0, .bool false] (n * 2)
theorem zeroPass_at {n i : Nat} (h : i < n * 2) : (zeroPass n)[i]? = some (psV (fun _ => 0) i) := by
  unfold zeroPass madeCells psV
  rw [Array.getElem?_map, Array.getElem?_range, if_pos h]
  have h1 : i % 2 = 0 ∨ i % 2 = 1 := by omega
  rcases h1 with h1 | h1 <;> simp [h1]
theorem make_pass (n : Nat) (hn : n ≤ 1048576) (w : World) : (Instr.makeSlice 25 (.int .i64 (n : Int)) (.int .i64 (n : Int))).run Tryd.prog w = .ok (.slice (some ⟨w.heap.size, 0, none⟩) n n) (w.alloc (.cells (zeroPass n) 67)) := by
  obtain ⟨i, hi, hz0, hz1, hz2⟩ := info_parts infoPass
  have h := run_make (P := Tryd.prog) w 25 67 i _ Tryd.underlying25 hi hz0 .i64 .i64 n n (by omega) (Int.le_refl _) (by rw [hz2]; omega) (by omega)
  rw [hz1] at h
  simpa [zeroPass, Value.cells] using h
theorem rowIs_pass (w : World) (n : Nat) : (w.alloc (.cells (zeroPass n) 67)).rowIs w.heap.size 67 (n * 2) (fun i => psV (fun _ => 0) i) :=
  ⟨_, blk_alloc_new _ _, by simp [zeroPass, madeCells], fun i hi => zeroPass_at hi⟩
theorem ownP_of {w : World} {T : TypeId} {b base n : Nat} {g : Nat → Int} (h : w.rowIs b T (n * 2) (fun i => psV g i)) (hm : n ≤ maxLen) (hw : ∀ i, i < n → (Lit.int .i64 (g (i * 2))).wf = true) (hb : base ≤ b) : OwnP w base (some ⟨b, 0, none⟩) n n g :=
  ⟨Nat.le_refl _, hm, hw, fun _ => ⟨b, 0, rfl, hb, h.lt, fun i hi => by rw [Nat.zero_add]; exact ⟨h.cell hi, h.frozen i⟩⟩⟩
theorem toPass_any (w : World) (a : Int) (b : Bool) : Calls Tryd.prog 49 #[.agg #[.int .i64 a, .bool b]] w (Gives (.agg #[.int .i64 a, .bool b]) w) := by
  go_enter Tryd.func49, Tryd.ntmps49
  go_wp2
  go_returns
  exact ⟨rfl, by go_grown⟩
def PassMade (n : Nat) (g : Nat → Int) (w : World) (e : Ending) (w' : World) : Prop :=
  ∃ A c, e = .returned (.slice A n c) ∧ OwnP w' w.heap.size A n c g ∧ Below w.heap.size w w'
set_option maxHeartbeats 2000000 in
theorem toPasses_any (w : World) (A : Option Addr) (n c : Nat) (g : Nat → Int) (hr : RowP w A n c g) (hn : n ≤ 1048576) :
    Calls Tryd.prog 11 #[.slice A n c] w (PassMade n g w) := by
  have HR0 := Lib.hid hr
  have hnc := hr.1
  have hcm := hr.2.1
  have hmk := make_pass n hn
  have HWF := Lib.hid hr.2.2.1
  clear hr
  go_enter Tryd.func11, Tryd.ntmps11
  go_wp2
  clear hmk
  go_loopw [4] (fun i wr => ∃ k : Nat, k ≤ n ∧ i = .int .i64 k ∧ Hid (wr.rowIs w.heap.size 67 (n * 2) (fun j => psV (fun j => if j < k * 2 then g j else 0) j)) ∧ Hid (Below w.heap.size w wr))
    (fun i _ => n - (intOf i).toNat)
  case atStart => exact ⟨0, Nat.zero_le _, rfl, Lib.hid (by simpa using rowIs_pass w n), Lib.hid ((Below.refl _ _).alloc (Nat.le_refl _) _)⟩
  case round =>
    obtain ⟨k, hk, rfl, HR, HB⟩ := hrel
    by_cases hlt : k < n
    · obtain ⟨b, o, rfl, hbl0, c0, c1⟩ := (HR0.out.below HB.out (Nat.le_refl _)).two hlt
      have dz : w.heap.size < wr.heap.size := HR.out.lt
      obtain ⟨ov, hov⟩ : ∃ ov, (g (k * 2 + 1) != 0) = ov := ⟨_, rfl⟩
      rw [hov] at c1
      have HOV := Lib.hid hov
      clear hov
      go_wp2_with fail
      refine (toPass_any _ (g (k * 2)) ov).mono ?_
      rintro e wa ⟨rfl, ba⟩
      have HR2 := Lib.hid (HR.out.of_block (ba.block w.heap.size dz))
      have HB2 := Lib.hid (HB.out.trans (ba.mono HB.out.size))
      have d0 := HR2.out.cell (i := k * 2) (by omega)
      have d1 := HR2.out.cell (i := k * 2 + 1) (by omega)
      have f0 := HR2.out.frozen (k * 2)
      have f1 := HR2.out.frozen (k * 2 + 1)
      have z2 := HR2.out.lt
      clear ba c0 c1
      go_wp2
      go_roundw
      case rel => exact ⟨k + 1, by omega, by go_num, Lib.hid (((HR2.out.set (k * 2) (.int .i64 (g (k * 2)))).set (k * 2 + 1) (.bool ov)).congr (fun j hj => by
          by_cases e1 : j = k * 2 + 1
          · subst e1
            rw [if_pos rfl, psV_odd, if_pos (by omega), HOV.out]
          · rw [if_neg e1]
            by_cases e2 : j = k * 2
            · subst e2
              rw [if_pos rfl, psV_even, if_pos (by omega)]
            · rw [if_neg e2]
              unfold psV
              have e4 : (j < (k + 1) * 2) ↔ j < k * 2 := by omega
              simp only [e4])), Lib.hid ((HB2.out.setCell (Nat.le_refl _) _).setCell (Nat.le_refl _) _)⟩
      case measure => simp [intOf]; omega
    · go_wp2
      go_ret
      exact ⟨_, _, rfl, ownP_of (HR.out.congr (fun j hj => by
        unfold psV
        have e4 : j < k * 2 := by omega
        simp only [e4, if_true])) (by unfold maxLen; omega) HWF.out (Nat.le_refl _), HB.out⟩
end Go.Proofs.YtbpdjmjkjiddjaaDoor.Base
