/-
  The program's own test whether a panel is valid.
-/
import Derived.Test.YtfkodbpkfoecoaaDoorPan
import Derived.Deep.RegionHeld3
namespace Go.Proofs.YtfkodbpkfoecoaaDoor.Base
open Go.RowKit
set_option linter.unusedVariables false

theorem sizeOf_any (w : World) (W H : Int) (A : Option Addr) (n c : Nat) :
    Calls Tryd.prog 87 #[.agg #[.int .i64 W, .int .i64 H, .slice A n c]] w (Gives (.agg #[.int .i64 W, .int .i64 H]) w) := by
  go_enter Tryd.func87, Tryd.ntmps87
  go_wp2
  go_returns
  exact ⟨rfl, by go_grown⟩

def kindB (z : Int) : Bool := inB z 0 2
theorem isBreak_any (z : Int) (w : World) : Calls Tryd.prog 161 #[.int .i64 z] w fun e w' => e = .returned (.bool (inB z 0 2)) ∧ w = w' := by
  by_cases h1 : 0 ≤ z
  · by_cases h2 : z ≤ 2
    · have E := Lib.hid (show inB z 0 2 = true from decide_eq_true ⟨h1, h2⟩)
      go_enter Tryd.func161, Tryd.ntmps161
      go_wp2
      go_ret
      exact ⟨ret_bool E.out.symm, rfl⟩
    · have E := Lib.hid (show inB z 0 2 = false from decide_eq_false (by omega))
      go_enter Tryd.func161, Tryd.ntmps161
      go_wp2
      go_ret
      exact ⟨ret_bool E.out.symm, rfl⟩
  · have E := Lib.hid (show inB z 0 2 = false from decide_eq_false (by omega))
    go_enter Tryd.func161, Tryd.ntmps161
    go_wp2
    go_ret
    exact ⟨ret_bool E.out.symm, rfl⟩

/-- what go_region_held3 keeps: three cells, and that nothing older has changed -/
theorem keep3 {w w1 w2 : World} {p q r : Addr} {u v x : Value} (h : w1.cell? p = some u ∧ w1.cell? q = some v ∧ w1.cell? r = some x ∧ Below w.heap.size w w1) (b : Below w1.heap.size w1 w2) :
    w2.cell? p = some u ∧ w2.cell? q = some v ∧ w2.cell? r = some x ∧ Below w.heap.size w w2 :=
  ⟨(b.cell (World.block_lt_of_cell? _ _ h.1)).trans h.1, (b.cell (World.block_lt_of_cell? _ _ h.2.1)).trans h.2.1, (b.cell (World.block_lt_of_cell? _ _ h.2.2.1)).trans h.2.2.1, h.2.2.2.trans (b.mono h.2.2.2.size)⟩
theorem keep3d {w w1 : World} {p q r : Addr} {u v x : Value} (h : w1.cell? p = some u ∧ w1.cell? q = some v ∧ w1.cell? r = some x ∧ Below w.heap.size w w1) :
    w1.drew.cell? p = some u ∧ w1.drew.cell? q = some v ∧ w1.drew.cell? r = some x ∧ Below w.heap.size w w1.drew := ⟨h.1, h.2.1, h.2.2.1, h.2.2.2.drew⟩

theorem implOk_size (w : World) (W H : Int) (A : Option Addr) (n c : Nat) (h : sideB W = false ∨ sideB H = false) :
    Calls Tryd.prog 117 #[.agg #[.int .i64 W, .int .i64 H, .slice A n c]] w (Gives (.bool false) w) := by
  go_enter Tryd.func117, Tryd.ntmps117
  go_wp2_with fail
  refine (sizeOf_any _ W H A n c).mono ?_
  rintro e w1 ⟨rfl, b1⟩
  obtain ⟨hc1, hf1⟩ := bcell b1
  have hz1 : w.heap.size < w1.heap.size := by have := b1.size; simp at this; omega
  have B1 : Below w.heap.size w w1 := ((Below.refl _ _).alloc (Nat.le_refl _) _).trans (b1.mono (by simp))
  have hcc : w1.cell? ⟨w.heap.size, 2, none⟩ = some (.slice A n c) := by rw [hc1 _ _ (by simp)]; simp [go_sem]
  go_wp2_with fail
  first | (go_region_with (go_at_call 159; refine (valid_no _ _ _ h).mono ?_; rintro e w2 ⟨rfl, b2⟩)) | fail
  all_goals
    go_wp2
    go_ret
    refine ⟨rfl, Below.trans ?_ (b2.mono ?_)⟩
    · exact (B1.alloc (Nat.le_of_lt hz1) _).drew
    · simp; omega
theorem implOk_more (w : World) (W H : Int) (A : Option Addr) (n c : Nat) (f : Nat → Int) (hr : Row .i64 w A n c f) (h1 : sideB W = true) (h2 : sideB H = true) (v : Bool)
    (hv : ((n : Int) ≠ inner W H ∧ v = false) ∨ ((n : Int) = inner W H ∧ v = kindsB n f)) :
    Calls Tryd.prog 117 #[.agg #[.int .i64 W, .int .i64 H, .slice A n c]] w (Gives (.bool v) w) := by
  have hcm := hr.2.1
  unfold maxLen at hcm
  have hnc := hr.1
  have HR := Lib.hid hr
  clear hr
  have HV := Lib.hid hv
  clear hv
  go_enter Tryd.func117, Tryd.ntmps117
  go_wp2_with fail
  refine (sizeOf_any _ W H A n c).mono ?_
  rintro e w1 ⟨rfl, b1⟩
  obtain ⟨hc1, hf1⟩ := bcell b1
  have hz1 : w.heap.size < w1.heap.size := by have := b1.size; simp at this; omega
  have B1 : Below w.heap.size w w1 := ((Below.refl _ _).alloc (Nat.le_refl _) _).trans (b1.mono (by simp))
  have hcc : w1.cell? ⟨w.heap.size, 2, none⟩ = some (.slice A n c) := by rw [hc1 _ _ (by simp)]; simp [go_sem]
  go_wp2_with fail
  have st : (w1.alloc (.cells #[.int .i64 W, .int .i64 H] 120)).cell? ⟨w1.heap.size, 0, none⟩ = some (.int .i64 W) ∧
      (w1.alloc (.cells #[.int .i64 W, .int .i64 H] 120)).cell? ⟨w1.heap.size, 1, none⟩ = some (.int .i64 H) ∧
      (w1.alloc (.cells #[.int .i64 W, .int .i64 H] 120)).cell? ⟨w.heap.size, 2, none⟩ = some (.slice A n c) ∧
      Below w.heap.size w (w1.alloc (.cells #[.int .i64 W, .int .i64 H] 120)) :=
    ⟨by simp [go_sem], by simp [go_sem], by rw [World.cell?_alloc_lt _ _ _ hz1]; exact hcc, B1.alloc (by omega) _⟩
  have ST := Lib.hid (keep3d st)
  clear st hcc hc1 hf1 b1
  rcases HV.out with ⟨h3, hv⟩ | ⟨h3, hv⟩
  · have hn : ((n : Int) == inner W H) = false := beq_eq_false_iff_ne.2 h3
    have hn' : ((n : Int) != inner W H) = true := bne_iff_ne.2 h3
    subst hv
    clear h3
    go_region_held3 (fun w' => w'.cell? ⟨w1.heap.size, 0, none⟩ = some (.int .i64 W) ∧ w'.cell? ⟨w1.heap.size, 1, none⟩ = some (.int .i64 H) ∧ w'.cell? ⟨w.heap.size, 2, none⟩ = some (.slice A n c) ∧ Below w.heap.size w w')
      (first | exact ST.out | exact keep3 (by assumption) (by assumption))
      (first | (go_at_call 159; refine (valid_yes _ _ _ h1 h2).mono ?_; rintro e w2 ⟨rfl, b2⟩) | (go_at_call 160; refine (innerPts_any _ _ h1 h2 _).mono ?_; rintro e w2 ⟨rfl, b2⟩))
    rename_i hS
    obtain ⟨g0, g1, g2, gB⟩ := hS
    go_wp2
    go_ret
    exact ⟨rfl, gB⟩
  · have hn : ((n : Int) == inner W H) = true := beq_iff_eq.2 h3
    have hn' : ((n : Int) != inner W H) = false := by rw [bne_eq_false_iff_eq]; exact h3
    subst hv
    clear h3
    go_region_held3 (fun w' => w'.cell? ⟨w1.heap.size, 0, none⟩ = some (.int .i64 W) ∧ w'.cell? ⟨w1.heap.size, 1, none⟩ = some (.int .i64 H) ∧ w'.cell? ⟨w.heap.size, 2, none⟩ = some (.slice A n c) ∧ Below w.heap.size w w')
      (first | exact ST.out | exact keep3 (by assumption) (by assumption))
      (first | (go_at_call 159; refine (valid_yes _ _ _ h1 h2).mono ?_; rintro e w2 ⟨rfl, b2⟩) | (go_at_call 160; refine (innerPts_any _ _ h1 h2 _).mono ?_; rintro e w2 ⟨rfl, b2⟩))
    clear hn hn'
    rename_i hS
    obtain ⟨g0, g1, g2, gB⟩ := hS
    obtain ⟨_, _, _, hcell⟩ := HR.out.below gB (Nat.le_refl _)
    clear g0 g1 ST HV
    go_wp2
    go_loop [22] (fun i => ∃ k : Nat, k ≤ n ∧ i = .int .i64 k ∧ ∀ j, j < k → 0 ≤ f j ∧ f j ≤ 2) (fun i => n - (intOf i).toNat)
    case atStart => exact ⟨0, Nat.zero_le _, rfl, fun j hj => absurd hj (Nat.not_lt_zero _)⟩
    case round =>
      obtain ⟨k, hk, rfl, hok⟩ := hrel
      have HOK := Lib.hid hok
      clear hok
      by_cases hlt : k < n
      · obtain ⟨b, o, rfl, hbl, hc⟩ := hcell (by omega)
        have hck := hc k hlt
        clear hc hcell
        by_cases hin : inB (f k) 0 2 = true
        · have hin' : 0 ≤ f k ∧ f k ≤ 2 := of_decide_eq_true hin
          have HI := Lib.hid hin'
          clear hin'
          go_wp2_with (go_at_call 161; refine (isBreak_any _ _).mono ?_; rintro e w' ⟨rfl, rfl⟩)
          go_round
          case rel => exact ⟨k + 1, by omega, by go_num, fun j hj => by rcases Nat.lt_succ_iff_lt_or_eq.1 hj with h | rfl; exact HOK.out j h; exact HI.out⟩
          case measure => simp [intOf]; omega
        · have hin : inB (f k) 0 2 = false := by simpa using hin
          have hz : kindsB n f = false := kinds_no hlt (of_decide_eq_false hin)
          have HZ := Lib.hid hz
          clear hz
          go_wp2_with (go_at_call 161; refine (isBreak_any _ _).mono ?_; rintro e w' ⟨rfl, rfl⟩)
          go_ret
          exact ⟨ret_bool HZ.out.symm, gB⟩
      · have hz : kindsB n f = true := kinds_iff.2 fun j hj => HOK.out j (by omega)
        have HZ := Lib.hid hz
        clear hz hcell
        go_wp2
        go_ret
        exact ⟨ret_bool HZ.out.symm, gB⟩

theorem impl_validPanel (w : World) (W H : Int) (A : Option Addr) (n c : Nat) (f : Nat → Int) (hr : Row .i64 w A n c f) :
    Calls Tryd.prog 117 #[.agg #[.int .i64 W, .int .i64 H, .slice A n c]] w (Gives (.bool (validB W H n f)) w) := by
  rcases validB_cases W H n f with ⟨h, e⟩ | ⟨h1, h2, h3, e⟩
  · rw [e]
    rcases h with h | h | ⟨h1, h2, h3⟩
    · exact implOk_size w W H A n c (.inl h)
    · exact implOk_size w W H A n c (.inr h)
    · exact implOk_more w W H A n c f hr h1 h2 false (.inl ⟨h3, rfl⟩)
  · rw [e]; exact implOk_more w W H A n c f hr h1 h2 _ (.inr ⟨h3, rfl⟩)
end Go.Proofs.YtfkodbpkfoecoaaDoor.Base
