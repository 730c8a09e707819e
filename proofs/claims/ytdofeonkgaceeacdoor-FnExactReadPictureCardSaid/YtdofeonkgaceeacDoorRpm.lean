/-
  The text form of a panel, as it is read: which texts have one.
-/
import Derived.Test.YtdofeonkgaceeacDoorSpb
import Derived.Test.YtdofeonkgaceeacDoorRdm
import Derived.Test.YtdofeonkgaceeacDoorPan
namespace Go.Proofs.YtdofeonkgaceeacDoor.Base
open Go Go.RowKit
open Go.PlainAid (bt get_bt bt_nonneg bt_le)
set_option linter.unusedVariables false
set_option linter.unusedSimpArgs false

theorem extract_bt (s : ByteArray) (a b i : Nat) (hb : b ≤ s.size) (hi : i < b - a) : bt (s.extract a b) i = bt s (a + i) := by
  have h1 : i < (s.extract a b).size := by rw [ByteArray.size_extract]; omega
  have h2 : a + i < s.size := by omega
  unfold bt
  rw [dif_pos h1, dif_pos h2]
  congr 2
  exact ByteArray.getElem_extract ..
theorem extract_two (s : ByteArray) (j a b : Nat) (hb : b ≤ j) (hj : j ≤ s.size) : (s.extract 0 j).extract a b = s.extract a b := by
  apply ByteArray.ext
  simp [ByteArray.data_extract, Array.extract_extract]
  congr 1
  omega
theorem min_ex {p : Nat → Prop} [DecidablePred p] {n : Nat} (h : ∃ k, k < n ∧ p k) : ∃ k, k < n ∧ p k ∧ ∀ j, j < k → ¬ p j := by
  induction n with
  | zero => obtain ⟨k, hk, -⟩ := h; omega
  | succ n ih =>
    by_cases h' : ∃ k, k < n ∧ p k
    · obtain ⟨k, h1, h2, h3⟩ := ih h'
      exact ⟨k, by omega, h2, h3⟩
    · obtain ⟨k, h1, h2⟩ := h
      refine ⟨k, h1, h2, fun j hj hp => h' ⟨j, by omega, hp⟩⟩
theorem prtAllC_cases (c : Int) (s : ByteArray) :
    (∃ k, k < s.size ∧ bt s k = c ∧ (∀ j, j < k → bt s j ≠ c) ∧ (∀ j, k < j → j < s.size → bt s j ≠ c) ∧ prtAllC c s = [(0, k), (k + 1, s.size)]) ∨
    ((prtAllC c s).length ≠ 2 ∧ ∀ k, k < s.size → bt s k = c → (∀ j, j < k → bt s j ≠ c) → (∀ j, k < j → j < s.size → bt s j ≠ c) → False) := by
  by_cases h : ∃ k, k < s.size ∧ bt s k = c
  · obtain ⟨k, h1, h2, h3⟩ := min_ex h
    by_cases h' : ∀ j, k < j → j < s.size → bt s j ≠ c
    · exact .inl ⟨k, h1, h2, h3, h', prtAllC_1 h1 h2 h3 h'⟩
    · obtain ⟨m, hm⟩ : ∃ m, ¬ (k < m → m < s.size → bt s m ≠ c) := Classical.not_forall.1 h'
      have hm1 : k < m := Classical.byContradiction fun h => hm (fun x => absurd x h)
      have hm2 : m < s.size := Classical.byContradiction fun h => hm (fun _ x => absurd x h)
      have hm3 : bt s m = c := Classical.byContradiction fun h => hm (fun _ _ => h)
      refine .inr ⟨by have := prtAllC_2 hm1 hm2 h2 hm3; omega, fun k' g1 g2 g3 g4 => ?_⟩
      rcases Nat.lt_trichotomy k' m with g | g | g
      · exact g4 m g hm2 hm3
      · exact g3 k (by omega) h2
      · exact g3 m g hm3
  · have h0 : ∀ j, j < s.size → bt s j ≠ c := fun j hj e => h ⟨j, hj, e⟩
    exact .inr ⟨by rw [prtAllC_0 h0]; simp, fun k g1 g2 _ _ => h0 k g1 g2⟩
/-- the kind of break of a character; -1 if there is none -/
def kindI (c : Int) : Int := if c = 43 then 0 else if c = 124 then 1 else if c = 45 then 2 else -1
def rpF (s : ByteArray) (j i : Nat) : Int := kindI (bt s (j + 1 + i))
theorem kindI_bd (c : Int) : -1 ≤ kindI c ∧ kindI c ≤ 2 := by unfold kindI; repeat' split <;> omega
/-- the text s is that of the panel of a and b columns and lines, with the signs behind place j -/
structure RP (s : ByteArray) (a b : Int) (k j : Nat) : Prop where
  kj : k < j
  js : j < s.size
  xk : bt s k = 120
  x1 : ∀ i, i < k → bt s i ≠ 120
  x2 : ∀ i, k < i → i < j → bt s i ≠ 120
  cj : bt s j = 58
  c1 : ∀ i, i < j → bt s i ≠ 58
  c2 : ∀ i, j < i → i < s.size → bt s i ≠ 58
  na : RDok (s.extract 0 k) a
  nb : RDok (s.extract (k + 1) j) b
  ok : validB a b (s.size - j - 1) (rpF s j) = true
/-- the post of a function that returns a panel of its own and whether there is one -/
def PanelOutB (W H : Int) (n : Nat) (f : Nat → Int) (ok : Bool) (w : World) (e : Ending) (w' : World) : Prop :=
  ∃ A c, e = .returned (.tuple #[.agg #[.int .i64 W, .int .i64 H, .slice A n c], .bool ok]) ∧ OwnRow w' w.heap.size A n c f ∧ Below w.heap.size w w'
/-- what the text's digits, 'x' and ':' may be -/
theorem bt_digit {s : ByteArray} {n : Int} (h : RDok s n) {i : Nat} (hi : i < s.size) : bt s i = 45 ∨ 48 ≤ bt s i ∧ bt s i ≤ 57 := by
  have hl := rd_list h
  have hb := get_bt s i hi
  have h1 : s.data.toList[i]? = some s[i] := by
    rw [List.getElem?_eq_getElem (by simpa using hi)]
    rfl
  rw [hl, itoa_dg0] at h1
  have key : ∀ (m k : Nat) (x : UInt8), (dg0 m)[k]? = some x → 48 ≤ x.toNat ∧ x.toNat ≤ 57 := fun m k x hx => by
    unfold dg0 at hx
    split at hx
    · simp at hx
    · obtain ⟨d, hd⟩ := Lib.digit_of_decFrom _ _ _ (decFrom_dec m) k x hx
      unfold Lib.digitVal at hd
      split at hd
      · rename_i g; exact g
      · cases hd
  split at h1
  · cases i with
    | zero => simp at h1; rw [← h1] at hb; right; rw [← hb]; decide
    | succ i => simp at h1
  · split at h1
    · cases i with
      | zero => simp at h1; rw [← h1] at hb; left; rw [← hb]; rfl
      | succ i =>
        simp at h1
        have := key _ _ _ h1
        omega
    · have := key _ _ _ h1
      omega
theorem RP.uniq {s : ByteArray} {a b a' b' : Int} {k j k' j' : Nat} (h : RP s a b k j) (g : RP s a' b' k' j') : a = a' ∧ b = b' ∧ j = j' := by
  have ej : j = j' := by
    rcases Nat.lt_trichotomy j j' with e | e | e
    · exact absurd h.cj (g.c1 j e)
    · exact e
    · exact absurd g.cj (h.c1 j' e)
  subst ej
  have ek : k = k' := by
    rcases Nat.lt_trichotomy k k' with e | e | e
    · exact absurd h.xk (g.x1 k e)
    · exact e
    · exact absurd g.xk (h.x1 k' e)
  subst ek
  exact ⟨rd_unique h.na g.na, rd_unique h.nb g.nb, rfl⟩
end Go.Proofs.YtdofeonkgaceeacDoor.Base
