/-
  SplitWords: the program's.
-/
import Derived.Test.YtekblfhpabgabaaSpt
import Derived.Test.YtekblfhpabgabaaShf
namespace Go.Proofs.Ytekblfhpabgabaa.Base
open Go Go.RowKit
open Go.PlainAid (bt get_bt bt_nonneg bt_le)
set_option linter.unusedVariables false
set_option linter.unusedSimpArgs false

theorem vown_of {w : World} {base base' : Nat} {A : Option Addr} {n c : Nat} {T : TypeId} {l : List ByteArray} (h : w.ownsRow base T 1 (.slice A n c) n (l.map Value.string)) (hb : base' ≤ base) (hn : n ≤ maxLen) : VOwn w base' A n c (fun i => .string (l.getD i ⟨#[]⟩)) := by
  have hl : l.length = n := by have := h.1; simpa using this
  rcases h.2 with ⟨e, rfl⟩ | ⟨b, cap, cur, e, hb', hgb, hnc, hcm, hcs, ht⟩
  · cases e
    exact ⟨Nat.le_refl _, Nat.zero_le _, fun h => absurd h (by omega)⟩
  · cases e
    refine ⟨hnc, hcm, fun hn' => ⟨b, 0, rfl, by omega, (Array.getElem?_eq_some_iff.1 hgb).1, fun i hi => ⟨?_, ?_⟩⟩⟩
    · rw [Nat.zero_add, h.cellAt i (by omega)]
      simp [List.getD_eq_getElem?_getD, List.getElem?_eq_getElem (show i < l.length by omega)]
    · rw [Nat.zero_add]
      exact h.frozenAt i
/-- a list of texts, made from block base on -/
def WordsOut (l : List ByteArray) (base : Nat) (w : World) (e : Ending) (w' : World) : Prop :=
  ∃ A c, e = .returned (.slice A l.length c) ∧ VOwn w' base A l.length c (fun i => .string (l.getD i ⟨#[]⟩)) ∧ Below base w w'
theorem blank_is (w : World) (x : Nat) : Calls Try.prog 11 #[.int .i32 x] w fun e w' => e = .returned (.bool (blankR x)) ∧ ∃ q, w' = w.drewN q := by
  unfold blankR
  have hz : ((x : Int) == 32) = (x == 32) := by
    by_cases h : x = 32
    · subst h; rfl
    · rw [beq_eq_false_iff_ne.2 h, beq_eq_false_iff_ne.2 (by omega)]
  rw [← hz]
  clear hz
  generalize hb : ((x : Int) == 32) = v
  have HB := Lib.hid hb
  cases v
  · go_enter Try.func11, Try.ntmps11
    go_wp2
    go_ret
    exact ⟨rfl, 0, rfl⟩
  · go_enter Try.func11, Try.ntmps11
    go_wp2
    go_ret
    exact ⟨rfl, 0, rfl⟩
theorem impl_splitWords (w : World) (s : ByteArray) (hs : s.size ≤ 1048576) (hl : (wrds s).length ≤ maxLen) :
    Calls Try.prog 5 #[.string s] w (WordsOut (wrds s) w.heap.size w) := by
  have hf := Try.strings_FieldsFunc_runes 11 #[] (enters_of Try.func11 (by kernel_rfl) rfl) blankR s w (by omega) (fun W x hx hb => blank_is W x)
  rw [fields_wrds] at hf
  have HF := Lib.hid hf
  have HL := Lib.hid hl
  clear hf hl
  go_enter Try.func5, Try.ntmps5
  go_wp2_with fail
  refine HF.out.mono ?_
  rintro e w1 ⟨A, rfl, hA, hO, hb⟩
  have HO := Lib.hid hO
  go_wp2
  go_ret
  exact ⟨_, _, rfl, vown_of HO.out (Nat.le_refl _) HL.out, hb⟩
end Go.Proofs.Ytekblfhpabgabaa.Base
