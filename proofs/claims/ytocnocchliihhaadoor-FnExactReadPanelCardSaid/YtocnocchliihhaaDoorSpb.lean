/-
  The parts of a text between bytes of one kind: the specification's split, for any byte.
-/
import Derived.Test.YtocnocchliihhaaDoorSpt
import Derived.PlainAid
import Derived.WalkKit
import Derived.OwnWalk
import Derived.Laws.AppendOwn
import Derived.Deep.AppendLies
import Derived.Deep.DeepMust
import Derived.Lib.Strings
namespace Go.Proofs.YtocnocchliihhaaDoor.Base
open Go Go.RowKit
open Go.PlainAid (bt get_bt bt_nonneg bt_le)
set_option linter.unusedVariables false
set_option linter.unusedSimpArgs false

/-- the parts ahead of place i (first, behind the last byte), and where the next one begins -/
def prtC (c : Int) (s : ByteArray) : Nat → List (Nat × Nat) × Nat
  | 0 => ([], 0)
  | i + 1 => if bt s i = c then ((prtC c s i).1 ++ [((prtC c s i).2, i)], i + 1) else prtC c s i
theorem prtC_hit {c : Int} {s : ByteArray} {i : Nat} (h : bt s i = c) : prtC c s (i + 1) = ((prtC c s i).1 ++ [((prtC c s i).2, i)], i + 1) := if_pos h
theorem prtC_same {c : Int} {s : ByteArray} {i : Nat} (h : bt s i ≠ c) : prtC c s (i + 1) = prtC c s i := if_neg h
theorem prtC_le (c : Int) (s : ByteArray) : ∀ i, (prtC c s i).2 ≤ i ∧ (prtC c s i).1.length ≤ i
  | 0 => ⟨Nat.le_refl _, Nat.le_refl _⟩
  | i + 1 => by
    obtain ⟨h1, h2⟩ := prtC_le c s i
    by_cases h : bt s i = c
    · rw [prtC_hit h]
      exact ⟨Nat.le_refl _, by simp; omega⟩
    · rw [prtC_same h]
      exact ⟨by omega, by omega⟩
theorem prtC_far {c : Int} {s : ByteArray} {i : Nat} : ∀ {k : Nat}, (∀ j, i ≤ j → j < i + k → bt s j ≠ c) → prtC c s (i + k) = prtC c s i
  | 0, _ => rfl
  | k + 1, h => by
    show prtC c s ((i + k) + 1) = _
    rw [prtC_same (h _ (by omega) (by omega)), prtC_far (fun j h1 h2 => h j h1 (by omega))]
theorem prtC_far' {c : Int} {s : ByteArray} {i n : Nat} (hin : i ≤ n) (h : ∀ j, i ≤ j → j < n → bt s j ≠ c) : prtC c s n = prtC c s i := by
  obtain ⟨k, rfl⟩ : ∃ k, n = i + k := ⟨n - i, by omega⟩
  exact prtC_far h
theorem prtC_mono {c : Int} {s : ByteArray} {i : Nat} : ∀ {k : Nat}, (prtC c s i).1.length ≤ (prtC c s (i + k)).1.length
  | 0 => Nat.le_refl _
  | k + 1 => by
    have h := prtC_mono (c := c) (s := s) (i := i) (k := k)
    show _ ≤ (prtC c s ((i + k) + 1)).1.length
    by_cases h' : bt s (i + k) = c
    · rw [prtC_hit h']; simp; omega
    · rw [prtC_same h']; exact h
/-- parts as values -/
def pcsC (s : ByteArray) (L : List (Nat × Nat)) : List Value := L.map fun x => .string (s.extract x.1 x.2)
theorem pcsC_snoc (s : ByteArray) (L : List (Nat × Nat)) (a b : Nat) : pcsC s (L ++ [(a, b)]) = pcsC s L ++ [.string (s.extract a b)] := by simp [pcsC]
/-- a list of parts, made from block base on -/
def PartsOutC (s : ByteArray) (L : List (Nat × Nat)) (base : Nat) (w : World) (e : Ending) (w' : World) : Prop :=
  ∃ v, e = .returned v ∧ w'.ownsRow base 9 1 v L.length (pcsC s L) ∧ Below base w w'
/-- all parts -/
def prtAllC (c : Int) (s : ByteArray) : List (Nat × Nat) := (prtC c s s.size).1 ++ [((prtC c s s.size).2, s.size)]
/-- none -/
theorem prtAllC_0 {c : Int} {s : ByteArray} (h : ∀ j, j < s.size → bt s j ≠ c) : prtAllC c s = [(0, s.size)] := by
  have e := prtC_far' (c := c) (s := s) (i := 0) (n := s.size) (Nat.zero_le _) (fun j _ hj => h j hj)
  unfold prtAllC
  rw [e]
  rfl
/-- one -/
theorem prtAllC_1 {c : Int} {s : ByteArray} {k : Nat} (hk : k < s.size) (hc : bt s k = c) (h1 : ∀ j, j < k → bt s j ≠ c) (h2 : ∀ j, k < j → j < s.size → bt s j ≠ c) : prtAllC c s = [(0, k), (k + 1, s.size)] := by
  have e0 := prtC_far' (c := c) (s := s) (i := 0) (n := k) (Nat.zero_le _) (fun j _ hj => h1 j hj)
  have e1 := prtC_far' (c := c) (s := s) (i := k + 1) (n := s.size) (by omega) (fun j hj hj2 => h2 j (by omega) hj2)
  unfold prtAllC
  rw [e1, prtC_hit hc, e0]
  rfl
/-- two or more -/
theorem prtAllC_2 {c : Int} {s : ByteArray} {k m : Nat} (hkm : k < m) (hm : m < s.size) (hc : bt s k = c) (hc2 : bt s m = c) : 3 ≤ (prtAllC c s).length := by
  have l1 : 1 ≤ (prtC c s (k + 1)).1.length := by rw [prtC_hit hc]; simp
  have l2 := prtC_mono (c := c) (s := s) (i := k + 1) (k := m - (k + 1))
  rw [show k + 1 + (m - (k + 1)) = m by omega] at l2
  have l3 : (prtC c s m).1.length + 1 ≤ (prtC c s (m + 1)).1.length := by rw [prtC_hit hc2]; simp
  have l4 := prtC_mono (c := c) (s := s) (i := m + 1) (k := s.size - (m + 1))
  rw [show m + 1 + (s.size - (m + 1)) = s.size by omega] at l4
  unfold prtAllC
  simp
  omega
set_option maxHeartbeats 1000000 in
theorem spec_splitC (w : World) (c : Int) (s : ByteArray) (hs : s.size ≤ 1048576) :
    Calls Tryd.prog 111 #[.string s, .int .u8 c] w (PartsOutC s (prtAllC c s) w.heap.size w) := by
  obtain ⟨i2, hi2, hz0, hz1, hz2⟩ := info_parts infoStr
  have hb := get_bt s
  have hb1 := bt_nonneg s
  have hb2 := bt_le s
  have HB0 := Lib.hid hb
  have HB1 := Lib.hid hb1
  have HB2 := Lib.hid hb2
  clear hb hb1 hb2
  go_enter Tryd.func111, Tryd.ntmps111
  go_wp2
  have HO1 := Lib.hid (sp_new0 (X := w) (e := 9) (s := 1) rfl (Nat.le_refl w.heap.size))
  go_loopw [5, 6, 7] (fun lv av iv wr => ∃ (i a : Nat), i ≤ s.size ∧ iv = .int .i64 i ∧ av = .int .i64 a ∧ a ≤ i ∧ Hid ((prtC c s i).2 = a) ∧ Hid (wr.ownsRow w.heap.size 9 1 lv (prtC c s i).1.length (pcsC s (prtC c s i).1)) ∧ Hid (Below w.heap.size w wr)) (fun _ _ iv _ => s.size - (intOf iv).toNat)
  case atStart => exact ⟨0, 0, Nat.zero_le _, rfl, rfl, Nat.le_refl _, Lib.hid rfl, HO1, Lib.hid ((Below.refl _ _).alloc (Nat.le_refl _) _)⟩
  case round =>
    clear HO1
    obtain ⟨i, a, hi, rfl, rfl, hai, HA, HU, HB⟩ := hrel
    have hlen := (prtC_le c s i).2
    obtain ⟨k, hk⟩ : ∃ k, (prtC c s i).1.length = k := ⟨_, rfl⟩
    have HU' := Lib.hid (hk ▸ HU.out)
    have HK := Lib.hid hk
    rw [hk] at hlen
    clear hk HU
    obtain ⟨Ao, co, rfl⟩ := sp_slice HU'.out
    have hBr := HB.out.size
    by_cases hlt : i < s.size
    · have c1 := HB1.out i
      have c2 := HB2.out i
      have hbi := HB0.out i hlt
      by_cases h32 : bt s i = c
      · have heq : (bt s i == c) = true := beq_iff_eq.2 h32
        have HP := Lib.hid (prtC_hit h32)
        clear h32
        have hXa := Lib.hid ((Below.refl wr.heap.size wr).alloc (Nat.le_refl _) (.cells #[.string (s.extract a i)] 9))
        have hsz : (wr.alloc (.cells #[.string (s.extract a i)] 9)).heap.size = wr.heap.size + 1 := by simp
        go_wp2_with (first
          | (at_builtin; refine wpList_append_lies _ (by rfl) _ _ _ (by rfl) w.heap.size 9 i2 _ 1 16 Tryd.underlying29 hi2 hz0 hz1 hz2 rfl (by omega) _ k (pcsC s (prtC c s i).1) (by rfl) (sp_below HU'.out hXa.out) ⟨wr.heap.size, 0, none⟩ 1 1 [.string (s.extract a i)] (by rfl) (by rfl) (World.news_of_block (cs := #[.string (s.extract a i)]) (t := 9) (fr := (0, 0)) (heap_alloc_new wr _)) (fun u hu => by simp at hu; subst hu; rfl) (by omega) (by unfold maxLen; omega) (by omega) (by simp; omega) (wr.heap.size + 1) (by simp) ?_; intro g6 cap6 w6 hown6 hgrow6 hat6 hlt6; have HOW := Lib.hid hown6; have HGR := Lib.hid hgrow6; have HAT := Lib.hid hat6; clear hown6 hgrow6 hat6))
        go_roundw
        case rel =>
          refine ⟨i + 1, i + 1, by omega, by go_num, by go_num, Nat.le_refl _, Lib.hid (by rw [HP.out]), Lib.hid ?_, Lib.hid ((HB.out.trans (hXa.out.mono hBr)).grown HGR.out (by omega) (fun b e => (HU'.out.lt b e).1))⟩
          rw [HP.out]
          simp only [List.length_append, List.length_singleton, HK.out, pcsC_snoc, HA.out]
          exact HOW.out
        case measure => simp [intOf]; omega
      · have heq : (bt s i == c) = false := beq_eq_false_iff_ne.2 h32
        have HP := Lib.hid (prtC_same h32)
        clear h32
        go_wp2
        go_roundw
        case rel => exact ⟨i + 1, a, by omega, by go_num, rfl, by omega, Lib.hid (by rw [HP.out]; exact HA.out), Lib.hid (by rw [HP.out, HK.out]; exact HU'.out), HB⟩
        case measure => simp [intOf]; omega
    · obtain rfl : i = s.size := by omega
      have hXa := Lib.hid ((Below.refl wr.heap.size wr).alloc (Nat.le_refl _) (.cells #[.string (s.extract a s.size)] 9))
      have hsz : (wr.alloc (.cells #[.string (s.extract a s.size)] 9)).heap.size = wr.heap.size + 1 := by simp
      go_wp2_with (first
        | (at_builtin; refine wpList_append_lies _ (by rfl) _ _ _ (by rfl) w.heap.size 9 i2 _ 1 16 Tryd.underlying29 hi2 hz0 hz1 hz2 rfl (by omega) _ k (pcsC s (prtC c s s.size).1) (by rfl) (sp_below HU'.out hXa.out) ⟨wr.heap.size, 0, none⟩ 1 1 [.string (s.extract a s.size)] (by rfl) (by rfl) (World.news_of_block (cs := #[.string (s.extract a s.size)]) (t := 9) (fr := (0, 0)) (heap_alloc_new wr _)) (fun u hu => by simp at hu; subst hu; rfl) (by omega) (by unfold maxLen; omega) (by omega) (by simp; omega) (wr.heap.size + 1) (by simp) ?_; intro g6 cap6 w6 hown6 hgrow6 hat6 hlt6; have HOW := Lib.hid hown6; have HGR := Lib.hid hgrow6; have HAT := Lib.hid hat6; clear hown6 hgrow6 hat6))
      go_ret
      refine ⟨_, rfl, ?_, (HB.out.trans (hXa.out.mono hBr)).grown HGR.out (by omega) (fun b e => (HU'.out.lt b e).1)⟩
      unfold prtAllC
      simp only [List.length_append, List.length_singleton, HK.out, pcsC_snoc, HA.out]
      exact HOW.out
end Go.Proofs.YtocnocchliihhaaDoor.Base
