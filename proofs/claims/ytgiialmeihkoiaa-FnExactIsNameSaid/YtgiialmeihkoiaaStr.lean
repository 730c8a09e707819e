/-
  IsName, spec's and the program's.
-/
import Derived.Test.YtgiialmeihkoiaaBase
import Derived.PlainAid
import Derived.Lib.Strings
namespace Go.Proofs.Ytgiialmeihkoiaa.Base
open Go.RowKit
open Go.PlainAid (bt get_bt bt_nonneg bt_le)
set_option linter.unusedVariables false

def smallB (c : Int) : Bool := decide (97 ≤ c ∧ c ≤ 122)
def digB (c : Int) : Bool := decide (48 ≤ c ∧ c ≤ 57)
def chB (c : Int) : Bool := smallB c || digB c || decide (c = 45)
def nameB (s : ByteArray) : Bool := decide (1 ≤ s.size ∧ s.size ≤ 12) && smallB (bt s 0) && (List.range s.size).all fun i => chB (bt s i)
theorem name_len {s : ByteArray} (h : ¬ (1 ≤ s.size ∧ s.size ≤ 12)) : nameB s = false := by simp [nameB, h]
theorem name_first {s : ByteArray} (h : smallB (bt s 0) = false) : nameB s = false := by simp [nameB, h]
theorem name_ch {s : ByteArray} {k : Nat} (hk : k < s.size) (h : chB (bt s k) = false) : nameB s = false := by
  cases e : nameB s
  · rfl
  · simp [nameB] at e
    rw [e.2 k hk] at h
    exact absurd h (by simp)
theorem name_yes {s : ByteArray} (h : 1 ≤ s.size ∧ s.size ≤ 12) (h1 : smallB (bt s 0) = true) (h2 : ∀ i, i < s.size → chB (bt s i) = true) : nameB s = true := by
  simp only [nameB, decide_eq_true h, h1, Bool.true_and, List.all_eq_true, List.mem_range]
  exact h2
theorem size_empty {s : ByteArray} (h : s.size = 0) : s.toList.isEmpty = true := by
  rw [Lib.toList_data, List.isEmpty_iff_length_eq_zero, Array.length_toList]
  exact h
theorem size_full {s : ByteArray} (h : s.size ≠ 0) : s.toList.isEmpty = false := by
  rw [Lib.toList_data, List.isEmpty_eq_false_iff]
  intro e
  have h1 := congrArg List.length e
  rw [Array.length_toList] at h1
  exact h h1
theorem small_high {c : Int} (h : 128 ≤ c) : chB c = false := by
  have h1 : smallB c = false := decide_eq_false (by omega)
  have h2 : digB c = false := decide_eq_false (by omega)
  have h3 : decide (c = 45) = false := decide_eq_false (by omega)
  simp [chB, h1, h2, h3]

theorem specSmall {c : Int} {v : Bool} (h : smallB c = v) (w : World) : Calls Try.prog 60 #[.int .u8 c] w fun e w' => e = .returned (.bool v) ∧ w = w' := by
  by_cases h1 : 97 ≤ c
  · by_cases h2 : c ≤ 122
    · obtain rfl : v = true := by rw [← h]; exact decide_eq_true ⟨h1, h2⟩
      clear h
      go_enter Try.func60, Try.ntmps60
      go_wp2
      go_ret
      exact ⟨rfl, rfl⟩
    · obtain rfl : v = false := by rw [← h]; exact decide_eq_false (by omega)
      clear h
      go_enter Try.func60, Try.ntmps60
      go_wp2
      go_ret
      exact ⟨rfl, rfl⟩
  · obtain rfl : v = false := by rw [← h]; exact decide_eq_false (by omega)
    clear h
    go_enter Try.func60, Try.ntmps60
    go_wp2
    go_ret
    exact ⟨rfl, rfl⟩
theorem specDigit {c : Int} {v : Bool} (h : digB c = v) (w : World) : Calls Try.prog 61 #[.int .u8 c] w fun e w' => e = .returned (.bool v) ∧ w = w' := by
  by_cases h1 : 48 ≤ c
  · by_cases h2 : c ≤ 57
    · obtain rfl : v = true := by rw [← h]; exact decide_eq_true ⟨h1, h2⟩
      clear h
      go_enter Try.func61, Try.ntmps61
      go_wp2
      go_ret
      exact ⟨rfl, rfl⟩
    · obtain rfl : v = false := by rw [← h]; exact decide_eq_false (by omega)
      clear h
      go_enter Try.func61, Try.ntmps61
      go_wp2
      go_ret
      exact ⟨rfl, rfl⟩
  · obtain rfl : v = false := by rw [← h]; exact decide_eq_false (by omega)
    clear h
    go_enter Try.func61, Try.ntmps61
    go_wp2
    go_ret
    exact ⟨rfl, rfl⟩
theorem implSmall {c : Int} {v : Bool} (h : smallB c = v) (w : World) : Calls Try.prog 62 #[.int .i32 c] w fun e w' => e = .returned (.bool v) ∧ w = w' := by
  by_cases h1 : 97 ≤ c
  · by_cases h2 : c ≤ 122
    · obtain rfl : v = true := by rw [← h]; exact decide_eq_true ⟨h1, h2⟩
      clear h
      go_enter Try.func62, Try.ntmps62
      go_wp2
      go_ret
      exact ⟨rfl, rfl⟩
    · obtain rfl : v = false := by rw [← h]; exact decide_eq_false (by omega)
      clear h
      go_enter Try.func62, Try.ntmps62
      go_wp2
      go_ret
      exact ⟨rfl, rfl⟩
  · obtain rfl : v = false := by rw [← h]; exact decide_eq_false (by omega)
    clear h
    go_enter Try.func62, Try.ntmps62
    go_wp2
    go_ret
    exact ⟨rfl, rfl⟩
theorem implDigit {c : Int} {v : Bool} (h : digB c = v) (w : World) : Calls Try.prog 63 #[.int .i32 c] w fun e w' => e = .returned (.bool v) ∧ w = w' := by
  by_cases h1 : 48 ≤ c
  · by_cases h2 : c ≤ 57
    · obtain rfl : v = true := by rw [← h]; exact decide_eq_true ⟨h1, h2⟩
      clear h
      go_enter Try.func63, Try.ntmps63
      go_wp2
      go_ret
      exact ⟨rfl, rfl⟩
    · obtain rfl : v = false := by rw [← h]; exact decide_eq_false (by omega)
      clear h
      go_enter Try.func63, Try.ntmps63
      go_wp2
      go_ret
      exact ⟨rfl, rfl⟩
  · obtain rfl : v = false := by rw [← h]; exact decide_eq_false (by omega)
    clear h
    go_enter Try.func63, Try.ntmps63
    go_wp2
    go_ret
    exact ⟨rfl, rfl⟩

theorem spec_isName (s : ByteArray) (w : World) (hs : s.size ≤ maxLen) :
    Calls Try.prog 24 #[.string s] w fun e w' => e = .returned (.bool (nameB s)) ∧ w = w' := by
  unfold maxLen at hs
  have hb := get_bt s
  have hb1 := bt_nonneg s
  have hb2 := bt_le s
  by_cases h0 : s.size = 0
  · have he := size_empty h0
    have HN := Lib.hid (name_len (s := s) (by omega))
    clear h0 hb hb1 hb2
    go_enter Try.func24, Try.ntmps24
    go_wp2
    go_ret
    exact ⟨ret_bool HN.out.symm, rfl⟩
  · have he := size_full h0
    by_cases h12 : s.size ≤ 12
    · have hp : 0 < s.size := by omega
      cases hf : smallB (bt s 0)
      · have HN := Lib.hid (name_first hf)
        have HF := Lib.hid hf
        clear hf h0
        go_enter Try.func24, Try.ntmps24
        go_wp2_with (go_at_call 60; refine (specSmall HF.out _).mono ?_; rintro e w' ⟨rfl, rfl⟩)
        go_ret
        exact ⟨ret_bool HN.out.symm, rfl⟩
      · have HF := Lib.hid hf
        clear hf h0
        go_enter Try.func24, Try.ntmps24
        go_wp2_with (go_at_call 60; refine (specSmall HF.out _).mono ?_; rintro e w' ⟨rfl, rfl⟩)
        go_loop [3] (fun i => ∃ k : Nat, k ≤ s.size ∧ i = .int .i64 k ∧ Hid (∀ j, j < k → chB (bt s j) = true)) (fun i => s.size - (intOf i).toNat)
        case atStart => exact ⟨0, Nat.zero_le _, rfl, Lib.hid (fun j hj => absurd hj (Nat.not_lt_zero _))⟩
        case round =>
          obtain ⟨k, hk, rfl, HO⟩ := hrel
          by_cases hlt : k < s.size
          · cases h1 : smallB (bt s k)
            · cases h2 : digB (bt s k)
              · by_cases h3 : bt s k = 45
                · have HS := Lib.hid (show ∀ j, j < k + 1 → chB (bt s j) = true from fun j hj => by rcases Nat.lt_succ_iff_lt_or_eq.1 hj with h | rfl; exact HO.out j h; simp [chB, h3])
                  have h3b : (bt s k == 45) = true := beq_iff_eq.2 h3
                  have h3c : (bt s k != 45) = false := by rw [bne_eq_false_iff_eq]; exact h3
                  have H1 := Lib.hid h1
                  have H2 := Lib.hid h2
                  clear h1 h2 h3
                  go_wp2_with (first | (go_at_call 60; refine (specSmall H1.out _).mono ?_; rintro e w' ⟨rfl, rfl⟩) | (go_at_call 61; refine (specDigit H2.out _).mono ?_; rintro e w' ⟨rfl, rfl⟩))
                  go_round
                  case rel => exact ⟨k + 1, by omega, by go_num, HS⟩
                  case measure => simp [intOf]; omega
                · have HN := Lib.hid (name_ch hlt (show chB (bt s k) = false by simp [chB, h1, h2, h3]))
                  have h3b : (bt s k == 45) = false := beq_eq_false_iff_ne.2 h3
                  have h3c : (bt s k != 45) = true := bne_iff_ne.2 h3
                  have H1 := Lib.hid h1
                  have H2 := Lib.hid h2
                  clear h1 h2 h3
                  go_wp2_with (first | (go_at_call 60; refine (specSmall H1.out _).mono ?_; rintro e w' ⟨rfl, rfl⟩) | (go_at_call 61; refine (specDigit H2.out _).mono ?_; rintro e w' ⟨rfl, rfl⟩))
                  go_ret
                  exact ⟨ret_bool HN.out.symm, rfl⟩
              · have HS := Lib.hid (show ∀ j, j < k + 1 → chB (bt s j) = true from fun j hj => by rcases Nat.lt_succ_iff_lt_or_eq.1 hj with h | rfl; exact HO.out j h; simp [chB, h2])
                have H1 := Lib.hid h1
                have H2 := Lib.hid h2
                clear h1 h2
                go_wp2_with (first | (go_at_call 60; refine (specSmall H1.out _).mono ?_; rintro e w' ⟨rfl, rfl⟩) | (go_at_call 61; refine (specDigit H2.out _).mono ?_; rintro e w' ⟨rfl, rfl⟩))
                go_round
                case rel => exact ⟨k + 1, by omega, by go_num, HS⟩
                case measure => simp [intOf]; omega
            · have HS := Lib.hid (show ∀ j, j < k + 1 → chB (bt s j) = true from fun j hj => by rcases Nat.lt_succ_iff_lt_or_eq.1 hj with h | rfl; exact HO.out j h; simp [chB, h1])
              have H1 := Lib.hid h1
              clear h1
              go_wp2_with (go_at_call 60; refine (specSmall H1.out _).mono ?_; rintro e w' ⟨rfl, rfl⟩)
              go_round
              case rel => exact ⟨k + 1, by omega, by go_num, HS⟩
              case measure => simp [intOf]; omega
          · have HN := Lib.hid (name_yes ⟨by omega, h12⟩ HF.out (fun i hi => HO.out i (by omega)))
            go_wp2
            go_ret
            exact ⟨ret_bool HN.out.symm, rfl⟩
    · have HN := Lib.hid (name_len (s := s) (by omega))
      clear h0 hb hb1 hb2
      go_enter Try.func24, Try.ntmps24
      go_wp2
      go_ret
      exact ⟨ret_bool HN.out.symm, rfl⟩

set_option maxHeartbeats 1000000 in
theorem impl_isName (s : ByteArray) (w : World) (hs : s.size ≤ maxLen) :
    Calls Try.prog 25 #[.string s] w fun e w' => e = .returned (.bool (nameB s)) ∧ Below w.heap.size w w' := by
  unfold maxLen at hs
  have hb := get_bt s
  have hb1 := bt_nonneg s
  have hb2 := bt_le s
  by_cases h0 : s.size = 0
  · have HN := Lib.hid (name_len (s := s) (by omega))
    clear hb hb1 hb2
    go_enter Try.func25, Try.ntmps25
    go_wp2
    go_ret
    exact ⟨ret_bool HN.out.symm, Below.refl _ _⟩
  · by_cases h12 : s.size ≤ 12
    · have hp : 0 < s.size := by omega
      have c1 := hb1 0
      have c2 := hb2 0
      cases hf : smallB (bt s 0)
      · have HN := Lib.hid (name_first hf)
        have HF := Lib.hid hf
        clear hf h0
        go_enter Try.func25, Try.ntmps25
        go_wp2_with (go_at_call 62; refine (implSmall HF.out _).mono ?_; rintro e w' ⟨rfl, rfl⟩)
        go_ret
        exact ⟨ret_bool HN.out.symm, Below.refl _ _⟩
      · have HF := Lib.hid hf
        clear hf h0
        go_enter Try.func25, Try.ntmps25
        go_wp2_with (go_at_call 62; refine (implSmall HF.out _).mono ?_; rintro e w' ⟨rfl, rfl⟩)
        go_loopw [4] (fun _ wr => ∃ pos : Nat, pos ≤ s.size ∧ wr = w.iter s pos ∧ Hid (∀ j, j < pos → chB (bt s j) = true)) (fun _ wr => s.size - wr.iterPos w.heap.size)
        case atStart => exact ⟨0, Nat.zero_le _, rfl, Lib.hid (fun j hj => absurd hj (Nat.not_lt_zero _))⟩
        case round =>
          obtain ⟨k, hk, rfl, HO⟩ := hrel
          by_cases hlt : k < s.size
          · by_cases ha : (s[k]'hlt).toNat < 128
            · have hnx : ∀ ty, (Instr.next (.pointer (some ⟨w.heap.size, 0, none⟩)) true ty).run Try.prog (w.iter s k) = .ok (.tuple #[.bool true, .int .i64 k, .int .i32 (bt s k)]) (w.iter s (k + 1)) := fun ty => by
                rw [run_next_any w s k ty hlt, decode_ascii s k hlt ha, ← hb k hlt]
              cases h1 : smallB (bt s k)
              · cases h2 : digB (bt s k)
                · by_cases h3 : bt s k = 45
                  · have HS := Lib.hid (show ∀ j, j < k + 1 → chB (bt s j) = true from fun j hj => by rcases Nat.lt_succ_iff_lt_or_eq.1 hj with h | rfl; exact HO.out j h; simp [chB, h3])
                    have h3b : (bt s k == 45) = true := beq_iff_eq.2 h3
                    have h3c : (bt s k != 45) = false := by rw [bne_eq_false_iff_eq]; exact h3
                    have H1 := Lib.hid h1
                    have H2 := Lib.hid h2
                    clear h1 h2 h3 ha
                    go_wp2_with (first | (go_at_call 62; refine (implSmall H1.out _).mono ?_; rintro e w' ⟨rfl, rfl⟩) | (go_at_call 63; refine (implDigit H2.out _).mono ?_; rintro e w' ⟨rfl, rfl⟩))
                    go_roundw
                    case rel => exact ⟨k + 1, by omega, rfl, HS⟩
                    case measure => simp; omega
                  · have HN := Lib.hid (name_ch hlt (show chB (bt s k) = false by simp [chB, h1, h2, h3]))
                    have h3b : (bt s k == 45) = false := beq_eq_false_iff_ne.2 h3
                    have h3c : (bt s k != 45) = true := bne_iff_ne.2 h3
                    have H1 := Lib.hid h1
                    have H2 := Lib.hid h2
                    clear h1 h2 h3 ha
                    go_wp2_with (first | (go_at_call 62; refine (implSmall H1.out _).mono ?_; rintro e w' ⟨rfl, rfl⟩) | (go_at_call 63; refine (implDigit H2.out _).mono ?_; rintro e w' ⟨rfl, rfl⟩))
                    go_ret
                    exact ⟨ret_bool HN.out.symm, (Below.refl _ _).alloc (Nat.le_refl _) _⟩
                · have HS := Lib.hid (show ∀ j, j < k + 1 → chB (bt s j) = true from fun j hj => by rcases Nat.lt_succ_iff_lt_or_eq.1 hj with h | rfl; exact HO.out j h; simp [chB, h2])
                  have H1 := Lib.hid h1
                  have H2 := Lib.hid h2
                  clear h1 h2 ha
                  go_wp2_with (first | (go_at_call 62; refine (implSmall H1.out _).mono ?_; rintro e w' ⟨rfl, rfl⟩) | (go_at_call 63; refine (implDigit H2.out _).mono ?_; rintro e w' ⟨rfl, rfl⟩))
                  go_roundw
                  case rel => exact ⟨k + 1, by omega, rfl, HS⟩
                  case measure => simp; omega
              · have HS := Lib.hid (show ∀ j, j < k + 1 → chB (bt s j) = true from fun j hj => by rcases Nat.lt_succ_iff_lt_or_eq.1 hj with h | rfl; exact HO.out j h; simp [chB, h1])
                have H1 := Lib.hid h1
                clear h1 ha
                go_wp2_with (go_at_call 62; refine (implSmall H1.out _).mono ?_; rintro e w' ⟨rfl, rfl⟩)
                go_roundw
                case rel => exact ⟨k + 1, by omega, rfl, HS⟩
                case measure => simp; omega
            · have hhi := (decode_high s k hlt (by omega)).1
              have HN := Lib.hid (name_ch hlt (small_high (by rw [← hb k hlt]; omega)))
              have hnx : ∀ ty, (Instr.next (.pointer (some ⟨w.heap.size, 0, none⟩)) true ty).run Try.prog (w.iter s k) = .ok (.tuple #[.bool true, .int .i64 k, .int .i32 ((Utf8.decode s k).1 : Nat)]) (w.iter s (k + (Utf8.decode s k).2)) := fun ty => run_next_any w s k ty hlt
              generalize (Utf8.decode s k).1 = R at *
              generalize (Utf8.decode s k).2 = D at *
              have H1 := Lib.hid (show smallB (R : Int) = false from decide_eq_false (by omega))
              have H2 := Lib.hid (show digB (R : Int) = false from decide_eq_false (by omega))
              have h3b : ((R : Int) == 45) = false := beq_eq_false_iff_ne.2 (by omega)
              have h3c : ((R : Int) != 45) = true := bne_iff_ne.2 (by omega)
              clear ha hb
              go_wp2_with (first | (go_at_call 62; refine (implSmall H1.out _).mono ?_; rintro e w' ⟨rfl, rfl⟩) | (go_at_call 63; refine (implDigit H2.out _).mono ?_; rintro e w' ⟨rfl, rfl⟩))
              go_ret
              exact ⟨ret_bool HN.out.symm, (Below.refl _ _).alloc (Nat.le_refl _) _⟩
          · have HN := Lib.hid (name_yes ⟨by omega, h12⟩ HF.out (fun i hi => HO.out i (by omega)))
            have hnx := fun ty => run_next_end (P := Try.prog) w s k ty hlt
            go_wp2
            go_ret
            exact ⟨ret_bool HN.out.symm, (Below.refl _ _).alloc (Nat.le_refl _) _⟩
    · have HN := Lib.hid (name_len (s := s) (by omega))
      clear h0 hb hb1 hb2
      go_enter Try.func25, Try.ntmps25
      go_wp2
      go_ret
      exact ⟨ret_bool HN.out.symm, Below.refl _ _⟩
end Go.Proofs.Ytgiialmeihkoiaa.Base
