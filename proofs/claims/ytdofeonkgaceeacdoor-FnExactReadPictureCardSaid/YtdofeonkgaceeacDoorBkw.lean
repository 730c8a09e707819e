/-
  impl's breakWith, and the first place of a byte.
-/
import Derived.Test.YtdofeonkgaceeacDoorRpm
import Derived.Laws.RangeAny
import Derived.Laws.RangeString
import Derived.Lib.Bytealg
import Derived.Lib.Bytes
namespace Go.Proofs.YtdofeonkgaceeacDoor.Base
open Go Go.RowKit
open Go.PlainAid (bt get_bt bt_nonneg bt_le)
set_option linter.unusedVariables false
set_option linter.unusedSimpArgs false

/-- the byte at place k of the signs -/
def bsg (k : Nat) : Int := if k = 0 then 43 else if k = 1 then 124 else 45
theorem kindI_sg {c : Int} {k : Nat} (hk : k < 3) (h : c = bsg k) : kindI c = k := by
  subst h
  rcases (show k = 0 ∨ k = 1 ∨ k = 2 by omega) with rfl | rfl | rfl <;> decide
theorem kindI_no {c : Int} (h : ∀ k, k < 3 → c ≠ bsg k) : kindI c = -1 := by
  have h0 : c ≠ 43 := h 0 (by omega)
  have h1 : c ≠ 124 := h 1 (by omega)
  have h2 : c ≠ 45 := h 2 (by omega)
  unfold kindI
  rw [if_neg h0, if_neg h1, if_neg h2]
def kindN (c : Int) : Int := if kindI c < 0 then 0 else kindI c
def kindO (c : Int) : Bool := decide (0 ≤ kindI c)
theorem next_sg (w : World) (k : Nat) (hk : k < 3) : ∀ ty, (Instr.next (.pointer (some ⟨w.heap.size, 0, none⟩)) true ty).run Tryd.prog (w.iter (⟨#[43, 124, 45]⟩ : ByteArray) k) = .ok (.tuple #[.bool true, .int .i64 k, .int .i32 (bsg k)]) (w.iter (⟨#[43, 124, 45]⟩ : ByteArray) (k + 1)) := fun ty => by
  have hz : ((⟨#[43, 124, 45]⟩ : ByteArray)).size = 3 := rfl
  rcases (show k = 0 ∨ k = 1 ∨ k = 2 by omega) with rfl | rfl | rfl <;> (rw [run_next_any w (⟨#[43, 124, 45]⟩ : ByteArray) _ ty (by rw [hz]; omega), decode_ascii (⟨#[43, 124, 45]⟩ : ByteArray) _ (by rw [hz]; omega) (by show _ < 128; first | (show (43 : UInt8).toNat < 128; decide) | (show (124 : UInt8).toNat < 128; decide) | (show (45 : UInt8).toNat < 128; decide))]; rfl)
set_option maxHeartbeats 1000000 in
theorem break_is (w : World) (c : Int) (c0 : 0 ≤ c) (c1 : c ≤ 255) : Calls Tryd.prog 126 #[.int .u8 c] w (Gives (.tuple #[.int .i64 (kindN c), .bool (kindO c)]) w) := by
  have hz : ((⟨#[43, 124, 45]⟩ : ByteArray)).size = 3 := rfl
  obtain ⟨R, hR⟩ : ∃ R, kindN c = R := ⟨_, rfl⟩
  obtain ⟨o, ho⟩ : ∃ o, kindO c = o := ⟨_, rfl⟩
  rw [hR, ho]
  have HR := Lib.hid hR
  have HO := Lib.hid ho
  clear hR ho
  go_enter Tryd.func126, Tryd.ntmps126
  go_wp2
  go_loopw [] (fun wr => ∃ k : Nat, k ≤ 3 ∧ wr = w.iter (⟨#[43, 124, 45]⟩ : ByteArray) k ∧ Hid (∀ j, j < k → c ≠ bsg j)) (fun wr => 3 - wr.iterPos w.heap.size)
  case atStart => exact ⟨0, by omega, rfl, Lib.hid (fun j hj => absurd hj (Nat.not_lt_zero _))⟩
  case round =>
    obtain ⟨k, hk, rfl, HN⟩ := hrel
    by_cases hlt : k < 3
    · have hnx := next_sg w k hlt
      obtain ⟨b, hb⟩ : ∃ b, bsg k = b := ⟨_, rfl⟩
      rw [hb] at hnx
      have HB := Lib.hid hb
      have hb2 : 0 ≤ b ∧ b ≤ 255 := by
        rw [← hb]
        rcases (show k = 0 ∨ k = 1 ∨ k = 2 by omega) with rfl | rfl | rfl <;> decide
      obtain ⟨hb3, hb4⟩ := hb2
      clear hb
      by_cases he : b = c
      · have e1 : (b == c) = true := beq_iff_eq.2 he
        have HK := kindI_sg (c := c) hlt (by rw [HB.out, he])
        have HKk := Lib.hid HK
        clear he HK
        go_wp2
        go_ret2
        refine ⟨?_, (Below.refl _ _).alloc (Nat.le_refl _) _⟩
        have g1 : kindN c = k := by unfold kindN; rw [HKk.out, if_neg (by omega)]
        have g2 : kindO c = true := by unfold kindO; rw [HKk.out]; simp
        rw [← HR.out, ← HO.out, g1, g2]
        rfl
      · have e1 : (b == c) = false := beq_eq_false_iff_ne.2 he
        have HE := Lib.hid he
        clear he
        go_wp2
        go_roundw
        case rel =>
          refine ⟨k + 1, by omega, rfl, Lib.hid (fun j hj => ?_)⟩
          rcases Nat.lt_succ_iff_lt_or_eq.1 hj with h | rfl
          · exact HN.out j h
          · exact fun e => HE.out (by rw [← HB.out, e])
        case measure => simp; omega
    · obtain rfl : k = 3 := by omega
      have hnx : ∀ ty, (Instr.next (.pointer (some ⟨w.heap.size, 0, none⟩)) true ty).run Tryd.prog (w.iter (⟨#[43, 124, 45]⟩ : ByteArray) 3) = _ := fun ty => run_next_end w (⟨#[43, 124, 45]⟩ : ByteArray) 3 ty (by rw [hz]; omega)
      have HKk := Lib.hid (kindI_no HN.out)
      go_wp2
      go_ret2
      refine ⟨?_, (Below.refl _ _).alloc (Nat.le_refl _) _⟩
      have g1 : kindN c = 0 := by unfold kindN; rw [HKk.out, if_pos (by omega)]
      have g2 : kindO c = false := by unfold kindO; rw [HKk.out]; simp
      rw [← HR.out, ← HO.out, g1, g2]
      rfl
/-- the first place -/
theorem indexByte_first : ∀ (l : List UInt8) (c : UInt8) (k : Nat), (∀ j, j < k → l[j]? ≠ some c) → l[k]? = some c → Lib.indexByte l c = k
  | [], c, k, _, h => by simp at h
  | b :: l, c, 0, _, h => by
    simp at h
    unfold Lib.indexByte
    simp [h]
  | b :: l, c, k + 1, h1, h => by
    have hb : b ≠ c := fun e => h1 0 (by omega) (by simp [e])
    have ih := indexByte_first l c k (fun j hj => by simpa using h1 (j + 1) (by omega)) (by simpa using h)
    unfold Lib.indexByte
    have hbb : (b == c) = false := beq_eq_false_iff_ne.2 hb
    rw [hbb, ih]
    simp
    try omega
theorem indexByte_none : ∀ (l : List UInt8) (c : UInt8), (∀ j : Nat, l[j]? ≠ some c) → Lib.indexByte l c = -1
  | [], c, _ => rfl
  | b :: l, c, h => by
    have hb : b ≠ c := fun e => h 0 (by simp [e])
    have ih := indexByte_none l c (fun j => by simpa using h (j + 1))
    unfold Lib.indexByte
    have hbb : (b == c) = false := beq_eq_false_iff_ne.2 hb
    rw [hbb, ih]
    simp
end Go.Proofs.YtdofeonkgaceeacDoor.Base
