/-
  Numerals: the model's contract.
-/
import Derived.Test.YtbpdjmjkjiddjaaDoorDcm
namespace Go.Proofs.YtbpdjmjkjiddjaaDoor.Base
open Go Go.RowKit
set_option linter.unusedVariables false
set_option linter.unusedSimpArgs false

/-- between two rounds: k is still to be written, l has been -/
def DRel (n : Int) (w : World) (k : Int) (ov : Value) (wr : World) : Prop :=
  ∃ (l : List UInt8) (g cap : Nat), ov = .slice (some ⟨g, 0, none⟩) l.length cap ∧ dg0 k.natAbs ++ l = dg0 n.natAbs ∧ wr.ownsRow w.heap.size 5 1 (.slice (some ⟨g, 0, none⟩) l.length cap) l.length (Lib.byteCells l) ∧ Below w.heap.size w wr
theorem drel_step {n : Int} {w w1 : World} {m : Nat} (hm : m ≠ 0) {k k' : Int} (hk : k.natAbs = m) (hk' : k'.natAbs = m / 10) {l : List UInt8} {v' : Value} (he : dg0 k.natAbs ++ l = dg0 n.natAbs)
    (hown : w1.ownsRow w.heap.size 5 1 v' (1 + l.length) ([.int .u8 (48 + ((m % 10 : Nat) : Int))] ++ Lib.byteCells l)) (hb : Below w.heap.size w w1) : DRel n w k' v' w1 := by
  rw [show 1 + l.length = l.length + 1 from Nat.add_comm _ _] at hown
  obtain ⟨g, cap, rfl⟩ := ownsRow_succ hown
  refine ⟨UInt8.ofNat (48 + m % 10) :: l, g, cap, rfl, ?_, ?_, hb⟩
  · rw [hk', ← he, hk, dg0_step hm, List.append_assoc]; rfl
  · rw [digit_cell] at hown; exact hown
theorem bytes_cons (c : UInt8) (l : List UInt8) : (⟨#[c]⟩ : ByteArray) ++ ⟨l.toArray⟩ = ⟨(c :: l).toArray⟩ := by
  apply ByteArray.ext
  simp [ByteArray.data_append]
theorem neg_tmod_nat (m : Nat) : (-(m : Int)).tmod 10 = -((m % 10 : Nat) : Int) := by rw [Int.neg_tmod]; rfl
theorem neg_tdiv_nat (m : Nat) : (-(m : Int)).tdiv 10 = -((m / 10 : Nat) : Int) := by rw [Int.neg_tdiv]; rfl

set_option maxHeartbeats 2000000 in
set_option maxRecDepth 100000 in
theorem spec_l01Dec (n : Int) (h0 : -9223372036854775808 ≤ n) (h1 : n ≤ 9223372036854775807) (w : World) :
    Calls Tryd.prog 48 #[.int .i64 n] w (Gives (.string (decS n)) w) := by
  obtain ⟨i0, hi, hz0, hz1, hz2⟩ := info_parts Tryd.u8info
  have HI := Lib.hid hi
  have HZ0 := Lib.hid hz0
  have HZ1 := Lib.hid hz1
  have HZ2 := Lib.hid hz2
  clear hi hz0 hz1 hz2
  have hlen := dg0_len h0 h1
  go_enter Tryd.func48, Tryd.ntmps48
  go_wp2
  go_loopw [3, 4] (fun ov kv wr => ∃ k : Int, kv = .int .i64 k ∧ -9223372036854775808 ≤ k ∧ k ≤ 9223372036854775807 ∧ DRel n w k ov wr) (fun _ kv _ => (intOf kv).natAbs)
  case atStart => exact ⟨n, rfl, h0, h1, [], w.heap.size, 0, rfl, by simp, ⟨by simp [Lib.byteCells], .inr ⟨w.heap.size, 0, #[], rfl, Nat.le_refl _, heap_alloc_new w _, Nat.le_refl _, Nat.zero_le _, rfl, rfl⟩⟩, (Below.refl _ _).alloc (Nat.le_refl _) _⟩
  case round =>
    obtain ⟨k, rfl, k0, k1, l, g, cap, rfl, he, hown, hb⟩ := hrel
    have HE := Lib.hid he
    have HO := Lib.hid hown
    have HB := Lib.hid hb
    have hl : l.length ≤ 21 := by have h := congrArg List.length he; simp at h; omega
    clear he hown hb
    by_cases hz : k = 0
    · subst hz
      have hle : l = dg0 n.natAbs := by have h := HE.out; simpa [dg0] using h
      have HL := Lib.hid hle
      by_cases hn : n = 0
      · subst hn
        obtain rfl : l = [] := hle
        go_wp2
        go_ret
        exact ⟨by unfold decS; rw [itoa_dg0]; rfl, HB.out⟩
      · have hl1 : 0 < l.length := by
          rw [hle]; unfold dg0; rw [if_neg (by omega), Lib.decDigits_length]; exact Lib.nDigits_pos _
        have hcv := run_convert_bytes_back (P := Tryd.prog) wr 43 9 5 ⟨g, 0, none⟩ cap l Tryd.underlying43 Tryd.underlying5 Tryd.underlying9 (fun j hj => HO.out.cells (g := g) rfl j _ (by simp [Lib.byteCells, hj]))
        have hne : ((l.length : Int) == 0) = false := by rw [beq_eq_false_iff_ne]; omega
        clear hle
        by_cases hs : n < 0
        · go_wp2
          go_ret
          refine ⟨?_, HB.out⟩
          show Ending.returned (.string (⟨#[45]⟩ ++ ⟨l.toArray⟩)) = _
          rw [HL.out, bytes_cons]
          unfold decS
          rw [itoa_dg0, if_neg hn, if_pos hs]
        · go_wp2
          go_ret
          refine ⟨?_, HB.out⟩
          show Ending.returned (.string ⟨l.toArray⟩) = _
          rw [HL.out]
          unfold decS
          rw [itoa_dg0, if_neg hn, if_neg (show ¬ n < 0 by omega)]
    · by_cases hp : 0 ≤ k
      · obtain ⟨m, rfl⟩ : ∃ m : Nat, k = m := ⟨k.toNat, by omega⟩
        have hd0 : 0 ≤ (m : Int) % 10 := by omega
        have hd9 : (m : Int) % 10 ≤ 9 := by omega
        go_wp2_with (at_builtin; refine wpList_append_own _ rfl _ _ 43 rfl w.heap.size 5 i0 (.int .u8 0) 1 1 Tryd.underlying43 HI.out HZ0.out HZ1.out HZ2.out rfl (by decide) _ _ _ rfl (own_one _ _ _ _ HB.out.size) ⟨g, 0, none⟩ l.length cap (Lib.byteCells l) rfl (by simp [Lib.byteCells]) ((HO.out.alloc _).cells (g := g) rfl) (by intro u hu; obtain ⟨c, -, rfl⟩ := List.mem_map.1 hu; rfl) (by unfold maxLen; omega) (by omega) (by have := HB.out.size; simp; omega) ?_; intro v' w1 hown' hgrow _)
        have hb1 := (HB.out.alloc HB.out.size (.cells #[.int .u8 (48 + (m : Int) % 10)] 5)).grown (row := some wr.heap.size) hgrow (by have := HB.out.size; simp; omega) (fun j e => by cases e; exact HB.out.size)
        exact ⟨⟨(m : Int) / 10, rfl, by omega, by omega, drel_step (m := m) (by omega) rfl (by omega) HE.out (by rw [Int.natCast_emod]; exact hown') hb1⟩, by simp [intOf]; omega⟩
      · obtain ⟨m, rfl⟩ : ∃ m : Nat, k = -(m : Int) := ⟨k.natAbs, by omega⟩
        have hm : m ≠ 0 := by omega
        have hq := neg_tdiv_nat m
        have hz' : ¬ -(m : Int) = 0 := hz
        by_cases hm0 : m % 10 = 0
        · have ht : (-(m : Int)).tmod 10 = 0 := by rw [neg_tmod_nat, hm0]; rfl
          have HM0 := Lib.hid hm0
          clear hm0
          go_wp2_with (at_builtin; refine wpList_append_own _ rfl _ _ 43 rfl w.heap.size 5 i0 (.int .u8 0) 1 1 Tryd.underlying43 HI.out HZ0.out HZ1.out HZ2.out rfl (by decide) _ _ _ rfl (own_one _ _ _ _ HB.out.size) ⟨g, 0, none⟩ l.length cap (Lib.byteCells l) rfl (by simp [Lib.byteCells]) ((HO.out.alloc _).cells (g := g) rfl) (by intro u hu; obtain ⟨c, -, rfl⟩ := List.mem_map.1 hu; rfl) (by unfold maxLen; omega) (by omega) (by have := HB.out.size; simp; omega) ?_; intro v' w1 hown' hgrow _)
          have hb1 := (HB.out.alloc HB.out.size (.cells #[.int .u8 48] 5)).grown (row := some wr.heap.size) hgrow (by have := HB.out.size; simp; omega) (fun j e => by cases e; exact HB.out.size)
          exact ⟨⟨-((m : Int) / 10), rfl, by omega, by omega, drel_step (m := m) hm (by omega) (by omega) HE.out (by rw [HM0.out]; exact hown') hb1⟩, by simp [intOf]; omega⟩
        · have ht := neg_tmod_nat m
          have hd0 : 1 ≤ (m : Int) % 10 := by omega
          have hd9 : (m : Int) % 10 ≤ 9 := by omega
          go_wp2_with (at_builtin; refine wpList_append_own _ rfl _ _ 43 rfl w.heap.size 5 i0 (.int .u8 0) 1 1 Tryd.underlying43 HI.out HZ0.out HZ1.out HZ2.out rfl (by decide) _ _ _ rfl (own_one _ _ _ _ HB.out.size) ⟨g, 0, none⟩ l.length cap (Lib.byteCells l) rfl (by simp [Lib.byteCells]) ((HO.out.alloc _).cells (g := g) rfl) (by intro u hu; obtain ⟨c, -, rfl⟩ := List.mem_map.1 hu; rfl) (by unfold maxLen; omega) (by omega) (by have := HB.out.size; simp; omega) ?_; intro v' w1 hown' hgrow _)
          have hb1 := (HB.out.alloc HB.out.size (.cells #[.int .u8 (48 + (m : Int) % 10)] 5)).grown (row := some wr.heap.size) hgrow (by have := HB.out.size; simp; omega) (fun j e => by cases e; exact HB.out.size)
          exact ⟨⟨-((m : Int) / 10), rfl, by omega, by omega, drel_step (m := m) hm (by omega) (by omega) HE.out (by rw [Int.natCast_emod]; exact hown') hb1⟩, by simp [intOf]; omega⟩

end Go.Proofs.YtbpdjmjkjiddjaaDoor.Base
