/-
  Reading numerals: mathematics.
-/
import Derived.Test.YtdofeonkgaceeacDoorDcm
import Derived.Test.YtdofeonkgaceeacDoorStr
import Derived.Lib.ParseIntBTie
import Derived.Lib.ParseIntBCases
import Derived.Lib.AtoiTie
namespace Go.Proofs.YtdofeonkgaceeacDoor.Base
open Go Go.RowKit
open Go.PlainAid (bt get_bt bt_nonneg bt_le)
set_option linter.unusedVariables false
set_option linter.unusedSimpArgs false

theorem decFrom_append : ∀ (l r : List UInt8) (acc : Nat), Lib.decFrom acc (l ++ r) = (Lib.decFrom acc l).bind fun n => Lib.decFrom n r
  | [], r, acc => rfl
  | a :: l, r, acc => by
    simp only [List.cons_append, Lib.decFrom]
    cases Lib.digitVal a with
    | none => rfl
    | some d => exact decFrom_append l r _
theorem digitVal_of (d : Nat) (h : d < 10) : Lib.digitVal (UInt8.ofNat (48 + d)) = some d := by
  have e : (UInt8.ofNat (48 + d)).toNat = 48 + d := by simp; omega
  unfold Lib.digitVal
  rw [e, if_pos ⟨by omega, by omega⟩]
  congr 1
  omega
theorem decFrom_dec (m : Nat) : Lib.decFrom 0 (Lib.decDigits m) = some m := by
  induction m using Nat.strongRecOn with
  | _ m ih =>
    by_cases h : m < 10
    · rw [Lib.decDigits_one h]
      show (match Lib.digitVal (UInt8.ofNat (48 + m)) with | some d => some (0 * 10 + d) | none => none) = some m
      rw [digitVal_of m h]
      simp
    · rw [Lib.decDigits, dif_neg h, decFrom_append, ih (m / 10) (by omega)]
      show (match Lib.digitVal (UInt8.ofNat (48 + m % 10)) with | some d => some (m / 10 * 10 + d) | none => none) = some m
      rw [digitVal_of (m % 10) (by omega)]
      simp only [Option.some.injEq]
      omega
theorem dec_ne (m : Nat) : Lib.decDigits m ≠ [] := by
  intro e
  have h := Lib.decDigits_length m
  rw [e] at h
  have := Lib.nDigits_pos m
  simp at h
  omega
theorem decNat_dec (m : Nat) : Lib.decNat (Lib.decDigits m) = some m := by
  unfold Lib.decNat
  have h : (Lib.decDigits m).isEmpty = false := by
    cases hd : Lib.decDigits m with
    | nil => exact absurd hd (dec_ne m)
    | cons => rfl
  rw [h]
  simpa using decFrom_dec m
theorem nDigits_le : ∀ (k m : Nat), m < 10 ^ (k + 1) → Lib.nDigits m ≤ k + 1
  | 0, m, h => by rw [Lib.nDigits_small (by simpa using h)]; exact Nat.le_refl _
  | k + 1, m, h => by
    by_cases h1 : m < 10
    · rw [Lib.nDigits_small h1]; omega
    · rw [Lib.nDigits_big h1]
      have := nDigits_le k (m / 10) (by rw [Nat.pow_succ] at h; omega)
      omega
theorem dec_len {m : Nat} (h : m < 1000000000000000000) : 1 ≤ (Lib.decDigits m).length ∧ (Lib.decDigits m).length ≤ 18 := by
  rw [Lib.decDigits_length]
  exact ⟨Lib.nDigits_pos m, nDigits_le 17 m (by simpa using h)⟩
theorem dec_first {m : Nat} {c : UInt8} {r : List UInt8} (h : Lib.decDigits m = c :: r) : 48 ≤ c.toNat ∧ c.toNat ≤ 57 := by
  obtain ⟨d, hd⟩ := Lib.digit_of_decFrom _ _ _ (decFrom_dec m) 0 c (by rw [h]; rfl)
  unfold Lib.digitVal at hd
  split at hd
  · assumption
  · cases hd

theorem parse_itoa {n : Int} (h0 : -1000000000000000000 < n) (h1 : n < 1000000000000000000) : Lib.parseIntB 64 (Lib.itoa n) = .ok n := by
  have hp : Lib.parseUintB 64 (Lib.decDigits n.natAbs) = .ok n.natAbs := by
    rw [Lib.parseUintB_64, Lib.parseMag_short _ (dec_len (by omega)).2, decNat_dec]
    rfl
  unfold Lib.itoa
  by_cases hn : n < 0
  · rw [if_pos hn, Lib.parseIntB_minus, hp]
    simp only [Lib.signedC]
    rw [if_neg (by omega)]
    congr 1
    omega
  · rw [if_neg hn, show n.toNat = n.natAbs by omega]
    cases hd : Lib.decDigits n.natAbs with
    | nil => exact absurd hd (dec_ne _)
    | cons c r =>
      have hc := dec_first hd
      rw [Lib.parseIntB_plain _ _ _ (by omega) (by omega), ← hd, hp]
      simp only [Lib.signlessC]
      rw [if_neg (by omega)]
      congr 1
      omega

/-- s is the decimal form of n, of at most 18 digits -/
def RDok (s : ByteArray) (n : Int) : Prop := -1000000000000000000 < n ∧ n < 1000000000000000000 ∧ decS n = s
theorem rd_list {s : ByteArray} {n : Int} (h : RDok s n) : s.data.toList = Lib.itoa n := by
  obtain ⟨-, -, rfl⟩ := h
  rfl
theorem rd_parse {s : ByteArray} {n : Int} (h : RDok s n) : Lib.parseIntB 64 s.data.toList = .ok n := by
  rw [rd_list h]; exact parse_itoa h.1 h.2.1
theorem rd_unique {s : ByteArray} {n m : Int} (h : RDok s n) (k : RDok s m) : n = m := by
  have := (rd_parse h).symm.trans (rd_parse k)
  injection this
/-- what a reader answers -/
def RDans (s : ByteArray) (v : Int) (b : Bool) : Prop := (b = true ∧ RDok s v) ∨ (b = false ∧ v = 0 ∧ ∀ n, ¬ RDok s n)
theorem rd_same {s : ByteArray} {v u : Int} {b c : Bool} (h : RDans s v b) (k : RDans s u c) : v = u ∧ b = c := by
  rcases h with ⟨rfl, h⟩ | ⟨rfl, rfl, h⟩ <;> rcases k with ⟨rfl, k⟩ | ⟨rfl, rfl, k⟩
  · exact ⟨rd_unique h k, rfl⟩
  · exact absurd h (k _)
  · exact absurd k (h _)
  · exact ⟨rfl, rfl⟩
/-- the numeral's digits: the text without its sign -/
theorem rd_neg {s : ByteArray} {n : Int} {r : List UInt8} (h : RDok s n) (hs : s.data.toList = 45 :: r) : n < 0 ∧ r = Lib.decDigits n.natAbs := by
  have e := rd_list h
  unfold Lib.itoa at e
  by_cases hn : n < 0
  · rw [if_pos hn, hs] at e
    exact ⟨hn, by injection e⟩
  · rw [if_neg hn, hs] at e
    have := dec_first e.symm
    simp at this
theorem rd_pos {s : ByteArray} {n : Int} (h : RDok s n) (hs : ∀ r, s.data.toList ≠ 45 :: r) : 0 ≤ n ∧ s.data.toList = Lib.decDigits n.natAbs := by
  have e := rd_list h
  unfold Lib.itoa at e
  by_cases hn : n < 0
  · rw [if_pos hn] at e
    exact absurd e (hs _)
  · rw [if_neg hn] at e
    exact ⟨by omega, by rw [e, show n.toNat = n.natAbs by omega]⟩
end Go.Proofs.YtdofeonkgaceeacDoor.Base
