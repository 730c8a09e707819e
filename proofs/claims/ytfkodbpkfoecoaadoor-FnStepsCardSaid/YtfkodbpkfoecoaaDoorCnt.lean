/-
  CountBreaks, spec's and the program's.
-/
import Derived.Test.YtfkodbpkfoecoaaDoorPanB
import Derived.Test.YtfkodbpkfoecoaaDoorPtB
namespace Go.Proofs.YtfkodbpkfoecoaaDoor.Base
open Go.RowKit
set_option linter.unusedVariables false

/-- how many of the first k are of a kind -/
def cntK (z : Int) (f : Nat → Int) : Nat → Int
  | 0 => 0
  | k + 1 => cntK z f k + (if f k = z then 1 else 0)
theorem cntK_bd (z : Int) (f : Nat → Int) (k : Nat) : 0 ≤ cntK z f k ∧ cntK z f k ≤ k := by
  induction k with
  | zero => simp [cntK]
  | succ k ih => simp only [cntK]; split <;> omega
def cntC (W H : Int) (n : Nat) (f : Nat → Int) (z : Int) : Int := if validB W H n f then (if inB z 0 2 then 0 else 2) else 1
def cntP (W H : Int) (n : Nat) (f : Nat → Int) (z : Int) : Int := if cntC W H n f z = 0 then cntK z f n else 0

theorem kind_any (z : Int) (w : World) : Calls Tryd.prog 90 #[.int .i64 z] w fun e w' => e = .returned (.bool (inB z 0 2)) ∧ w = w' := by
  go_enter Tryd.func90, Tryd.ntmps90
  go_wp2_with (go_at_call 96; refine (in_any _ _ _ _).mono ?_; rintro e w' ⟨rfl, rfl⟩)
  go_ret
  exact ⟨rfl, rfl⟩
theorem kind_is {z : Int} {v : Bool} (h : inB z 0 2 = v) (w : World) : Calls Tryd.prog 90 #[.int .i64 z] w fun e w' => e = .returned (.bool v) ∧ w = w' := by rw [← h]; exact kind_any z w
theorem isBreak_is {z : Int} {v : Bool} (h : inB z 0 2 = v) (w : World) : Calls Tryd.prog 161 #[.int .i64 z] w fun e w' => e = .returned (.bool v) ∧ w = w' := by rw [← h]; exact isBreak_any z w

theorem spec_countBreaks (w : World) (W H : Int) (A : Option Addr) (n c : Nat) (f : Nat → Int) (z : Int) (hr : Row .i64 w A n c f) :
    Calls Tryd.prog 33 #[.agg #[.int .i64 W, .int .i64 H, .slice A n c], .int .i64 z] w (Gives (.tuple #[.int .i64 (cntP W H n f z), .int .i64 (cntC W H n f z)]) w) := by
  have HR := Lib.hid hr
  clear hr
  have hbel : Below w.heap.size w (w.alloc (.cells #[.int .i64 W, .int .i64 H, .slice A n c] 26)) := by go_grown
  have HL := Lib.hid hbel
  have HX := Lib.hid (Box.new w 26 W H A n c)
  clear hbel
  cases hv : validB W H n f
  · have e1 : cntC W H n f z = 1 := by simp [cntC, hv]
    have e2 : cntP W H n f z = 0 := by simp [cntP, e1]
    rw [e1, e2]
    have HV := Lib.hid hv
    clear hv e1 e2
    go_enter Tryd.func33, Tryd.ntmps33
    go_wp2_with fail
    refine (specOk_is HV.out HX.out (HR.out.below HL.out (Nat.le_refl _))).mono ?_
    rintro e w1 ⟨m, rfl, rfl⟩
    go_wp2
    go_ret2
    exact ⟨rfl, below_drewN HL.out m⟩
  · have HV := Lib.hid hv
    cases hk : inB z 0 2
    · have e1 : cntC W H n f z = 2 := by simp [cntC, hv, hk]
      have e2 : cntP W H n f z = 0 := by simp [cntP, e1]
      rw [e1, e2]
      have HK := Lib.hid hk
      clear hv hk e1 e2
      go_enter Tryd.func33, Tryd.ntmps33
      go_wp2_with fail
      refine (specOk_is HV.out HX.out (HR.out.below HL.out (Nat.le_refl _))).mono ?_
      rintro e w1 ⟨m, rfl, rfl⟩
      go_wp2_with fail
      refine (kind_is HK.out _).mono ?_
      rintro e w1 ⟨rfl, rfl⟩
      go_wp2
      go_ret2
      exact ⟨rfl, below_drewN HL.out m⟩
    · have e1 : cntC W H n f z = 0 := by simp [cntC, hv, hk]
      have e2 : cntP W H n f z = cntK z f n := by simp [cntP, e1]
      rw [e1, e2]
      have HK := Lib.hid hk
      have hcm := HR.out.2.1
      have hnc := HR.out.1
      unfold maxLen at hcm
      clear hv hk e1 e2
      go_enter Tryd.func33, Tryd.ntmps33
      go_wp2_with fail
      refine (specOk_is HV.out HX.out (HR.out.below HL.out (Nat.le_refl _))).mono ?_
      rintro e w1 ⟨m, rfl, rfl⟩
      go_wp2_with fail
      refine (kind_is HK.out _).mono ?_
      rintro e w1 ⟨rfl, rfl⟩
      have hB := below_drewN HL.out m
      obtain ⟨-, -, -, hcell⟩ := HR.out.below hB (Nat.le_refl _)
      obtain ⟨-, -, -, k2⟩ := HX.out.below (below_of_drew (m := m) rfl) HX.out.1
      generalize (w.alloc (.cells #[.int .i64 W, .int .i64 H, .slice A n c] 26)).drewN m = w2 at *
      go_wp2
      go_loop [6, 7] (fun s i => ∃ (k : Nat) (r : Int), k ≤ n ∧ 0 ≤ r ∧ r ≤ k ∧ i = .int .i64 k ∧ s = .int .i64 r ∧ Hid (r = cntK z f k)) (fun _ i => n - (intOf i).toNat)
      case atStart => exact ⟨0, 0, Nat.zero_le _, by omega, by omega, rfl, rfl, Lib.hid rfl⟩
      case round =>
        obtain ⟨k, r, hk, hr1, hr2, rfl, rfl, HC⟩ := hrel
        by_cases hlt : k < n
        · obtain ⟨b, o, rfl, hbl, hc⟩ := hcell (by omega)
          have hck := hc k hlt
          clear hc hcell
          by_cases hz : f k = z
          · have hzb : (f k == z) = true := beq_iff_eq.2 hz
            have HS := Lib.hid (show r + 1 = cntK z f (k + 1) by simp [cntK, hz, HC.out])
            clear hz
            go_wp2
            go_round
            case rel => exact ⟨k + 1, r + 1, by omega, by omega, by omega, by go_num, rfl, HS⟩
            case measure => simp [intOf]; omega
          · have hzb : (f k == z) = false := beq_eq_false_iff_ne.2 hz
            have HS := Lib.hid (show r = cntK z f (k + 1) by simp [cntK, hz, HC.out])
            clear hz
            go_wp2
            go_round
            case rel => exact ⟨k + 1, r, by omega, by omega, by omega, by go_num, rfl, HS⟩
            case measure => simp [intOf]; omega
        · have e : k = n := by omega
          have HS := Lib.hid (show r = cntK z f n by rw [HC.out, e])
          clear hcell e
          go_wp2
          go_ret2
          exact ⟨ret_ints HS.out rfl, hB⟩

end Go.Proofs.YtfkodbpkfoecoaaDoor.Base
