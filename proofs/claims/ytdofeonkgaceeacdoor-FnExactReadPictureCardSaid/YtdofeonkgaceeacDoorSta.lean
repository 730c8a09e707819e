/-
  Texts as an argument of a law: their size, their copy.
-/
import Derived.Test.YtdofeonkgaceeacDoorSpt
import Derived.Test.YtdofeonkgaceeacDoorBase
import Derived.SliceStrings
namespace Go.Proofs.YtdofeonkgaceeacDoor.Base
open Go Go.RowKit
open Go.PlainAid (bt get_bt bt_nonneg bt_le)
set_option linter.unusedVariables false
set_option linter.unusedSimpArgs false

theorem vrow_of {H : Type} {enc : TypeId × Value → H} {P : Program} {w : World} {base : Nat} {held : Bool} {t e : TypeId} {fuel : Nat} {cs : List Value} {x : DataW H × List MemPlace}
    (ht : P.underlying t = some (.slice e)) (he : P.underlying e = some .string) (hc : P.cellsOf e = 1)
    (h : DataW.trod enc P w base (fun _ => true) held fuel t cs = some x) (hlt : ∀ p ∈ x.2, p.block < w.heap.size) :
    ∃ (A : Option Addr) (n c : Nat) (zs : Nat → ByteArray), cs = [.slice A n c] ∧ VRow w A n c (fun i => .string (zs i)) ∧ ∀ i, i < n → (zs i).size ≤ maxLen := by
  rcases Go.ChangeShapes.open_strings ht he hc h with ⟨rfl, _⟩ | ⟨a, len, cap, ss, rfl, _, hl, hm, hz, hx, hcell, hsz⟩
  · exact ⟨none, 0, 0, fun _ => ByteArray.empty, rfl, ⟨Nat.le_refl _, Nat.zero_le _, fun h => absurd h (Nat.lt_irrefl _)⟩, fun i hi => absurd hi (Nat.not_lt_zero _)⟩
  · simp only [if_true] at hz
    refine ⟨some a, len, cap, fun i => ss.getD i ByteArray.empty, rfl, ⟨hl, hm, fun h0 => ?_⟩, fun i hi => ?_⟩
    · obtain ⟨b, off, spot⟩ := a
      have hc0 := hcell 0 (by omega)
      have hspot : spot = none := by simpa [Addr.add] using World.cell?_spot hc0
      subst hspot
      refine ⟨b, off, rfl, ?_, fun i hi => ?_⟩
      · simpa [Addr.add] using World.block_lt_of_cell? _ _ hc0
      · have h1 := hcell i (by omega)
        rw [← h1]
        by_cases hi0 : i = 0 <;> simp [Addr.add, hi0]
    · have hi' : i < ss.length := by omega
      have e : ss.getD i ByteArray.empty = ss[i] := by simp [List.getD, hi']
      show (ss.getD i ByteArray.empty).size ≤ maxLen
      rw [e]
      exact hsz _ (List.getElem_mem hi')
def TextsMade (n : Nat) (g : Nat → ByteArray) (w : World) (e : Ending) (w' : World) : Prop :=
  ∃ b, e = .returned (.slice (some ⟨b, 0, none⟩) n n) ∧ VOwn w' w.heap.size (some ⟨b, 0, none⟩) n n (fun i => .string (g i)) ∧ Below w.heap.size w w'
theorem toTexts_any (w : World) (A : Option Addr) (n c : Nat) (g : Nat → ByteArray) (hr : VRow w A n c (fun i => .string (g i))) (hn : n ≤ 1048576) :
    Calls Tryd.prog 11 #[.slice A n c] w (TextsMade n g w) := by
  obtain ⟨hnc, hcm, hcell⟩ := hr
  have hmk := run_make_row' (P := Tryd.prog) 24 9 (.string ⟨#[]⟩) 16 Tryd.underlying24 infoStr rfl .i64 .i64 n (by omega) (by omega)
  go_enter Tryd.func11, Tryd.ntmps11
  go_wp2
  clear hmk
  go_loopw [4] (fun i wr => ∃ k : Nat, k ≤ n ∧ i = .int .i64 k ∧ wr.rowIs w.heap.size 9 n (fun j => .string (if j < k then g j else ⟨#[]⟩)) ∧ Below w.heap.size w wr)
    (fun i _ => n - (intOf i).toNat)
  case atStart => exact ⟨0, Nat.zero_le _, rfl, by simpa using World.rowIs_made w (.string ⟨#[]⟩) n 9, (Below.refl _ _).alloc (Nat.le_refl _) _⟩
  case round =>
    obtain ⟨k, hk, rfl, hrow, hb⟩ := hrel
    by_cases hlt : k < n
    · obtain ⟨b, o, rfl, hbl, hc⟩ := hcell (by omega)
      have hc1 : wr.cell? ⟨b, o + k, none⟩ = some (.string (g k)) := (hb.cell (p := ⟨b, o + k, none⟩) hbl).trans (hc k hlt)
      have hc2 := hrow.cell hlt
      have hf2 := hrow.frozen k
      have hset := hrow.set k (.string (g k))
      have HS := Lib.hid hset
      have HR := Lib.hid hrow
      have HC := Lib.hid hc
      clear hset hrow hc
      simp only [Nat.lt_irrefl, if_false] at hc2
      go_wp2
      go_roundw
      case rel => exact ⟨k + 1, by omega, by go_num, HS.out.congr (fun j hj => by by_cases e : j = k <;> simp [e] <;> (try (by_cases h : j < k <;> simp [h] <;> omega))), hb.setCell (Nat.le_refl _) _⟩
      case measure => simp [intOf]; omega
    · go_wp2
      go_ret
      have h9 := hrow.congr (g := fun j => .string (g j)) (fun j hj => by simp; omega)
      exact ⟨w.heap.size, rfl, ⟨Nat.le_refl _, by unfold maxLen; omega, fun _ => ⟨w.heap.size, 0, rfl, Nat.le_refl _, h9.lt, fun i hi => by rw [Nat.zero_add]; exact ⟨h9.cell hi, h9.frozen i⟩⟩⟩, hb⟩
/-- what the size of texts tells -/
def SzOut (n : Nat) (g : Nat → ByteArray) (w : World) (e : Ending) (w' : World) : Prop :=
  Below w.heap.size w w' ∧ ∃ v : Int, e = .returned (.int .i64 v) ∧ (v = -1 ∨ 0 ≤ v ∧ v ≤ 1048576 ∧ n ≤ 1048576 ∧ ∀ i, i < n → (g i).size ≤ 1048576)
theorem szTexts_any (w : World) (A : Option Addr) (n c : Nat) (g : Nat → ByteArray) (hr : VRow w A n c (fun i => .string (g i))) (hg : ∀ i, i < n → (g i).size ≤ maxLen) :
    Calls Tryd.prog 9 #[.slice A n c, .int .i64 1048576] w (SzOut n g w) := by
  have HR := Lib.hid hr
  obtain ⟨hnc, hcm, -⟩ := hr
  unfold maxLen at hcm hg
  by_cases hn : n ≤ 1048576
  · go_enter Tryd.func9, Tryd.ntmps9
    go_wp2
    go_loopw [1, 5] (fun s i wr => ∃ (j : Nat) (v : Int), j ≤ n ∧ i = .int .i64 j ∧ s = .int .i64 v ∧ 0 ≤ v ∧ v ≤ 1048576 ∧ Hid (∀ i, i < j → (g i).size ≤ 1048576) ∧ Hid (Below w.heap.size w wr)) (fun _ i _ => n - (intOf i).toNat)
    case atStart => exact ⟨0, _, Nat.zero_le _, rfl, rfl, by omega, by omega, Lib.hid (fun i hi => absurd hi (Nat.not_lt_zero _)), Lib.hid (Below.refl _ _)⟩
    case round =>
      obtain ⟨j, v, hj, rfl, rfl, hv0, hv1, HS, HB⟩ := hrel
      by_cases hlt : j < n
      · obtain ⟨-, -, hcell⟩ := HR.out.below HB.out (Nat.le_refl _)
        obtain ⟨b, o, rfl, hbl, hc⟩ := hcell (by omega)
        have hck : wr.cell? ⟨b, o + j, none⟩ = some (.string (g j)) := hc j hlt
        have hgj := hg j hlt
        clear hc hcell
        obtain ⟨t, ht⟩ : ∃ t, g j = t := ⟨_, rfl⟩
        rw [ht] at hck hgj
        have HT := Lib.hid ht
        clear ht
        by_cases h0 : v - (t.size : Int) < 0
        · go_wp2
          go_ret
          exact ⟨HB.out, -1, rfl, .inl rfl⟩
        · go_wp2
          go_roundw
          case rel =>
            refine ⟨j + 1, v - (t.size : Int), by omega, by go_num, by go_num, by omega, by omega, Lib.hid (fun i hi => ?_), HB⟩
            rcases Nat.lt_succ_iff_lt_or_eq.1 hi with h | rfl
            · exact HS.out i h
            · rw [HT.out]; omega
          case measure => simp [intOf]; omega
      · have e : j = n := by omega
        go_wp2
        go_ret
        exact ⟨HB.out, v, rfl, .inr ⟨hv0, hv1, hn, fun i hi => HS.out i (by omega)⟩⟩
  · have h1 : (1048576 : Int) - (n : Int) < 0 := by omega
    go_enter Tryd.func9, Tryd.ntmps9
    go_wp2
    go_ret
    exact ⟨Below.refl _ _, -1, rfl, .inl rfl⟩
end Go.Proofs.YtdofeonkgaceeacDoor.Base
