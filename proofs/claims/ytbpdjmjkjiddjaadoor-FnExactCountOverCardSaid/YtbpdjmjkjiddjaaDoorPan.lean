/-
  Panels: spec's and the program's test whether a panel is valid; copies; equality.
-/
import Derived.Test.YtbpdjmjkjiddjaaDoorBase
import Derived.Deep.RegionHeld3
namespace Go.Proofs.YtbpdjmjkjiddjaaDoor.Base
open Go.RowKit
set_option linter.unusedVariables false

def kindsB (n : Nat) (f : Nat → Int) : Bool := (List.range n).all fun j => decide (0 ≤ f j ∧ f j ≤ 2)
theorem kinds_iff {n : Nat} {f : Nat → Int} : kindsB n f = true ↔ ∀ j, j < n → 0 ≤ f j ∧ f j ≤ 2 := by simp [kindsB]
theorem kinds_no {n : Nat} {f : Nat → Int} {k : Nat} (hk : k < n) (h : ¬ (0 ≤ f k ∧ f k ≤ 2)) : kindsB n f = false := by
  cases e : kindsB n f
  · rfl
  · exact absurd (kinds_iff.1 e k hk) h
def validB (W H : Int) (n : Nat) (f : Nat → Int) : Bool := sideB W && sideB H && decide ((n : Int) = inner W H) && kindsB n f

theorem quiet_left {P : Program} {f : FuncId} {args : Array Value} {w : World} {n : Nat} {v : Value}
    (h : Calls P f args (w.drewN n) fun e w' => e = .returned v ∧ w.drewN n = w') : Calls P f args (w.drewN n) fun e w' => e = .returned v ∧ ∃ m, w' = w.drewN m :=
  h.mono fun _ _ ⟨he, hm⟩ => ⟨he, n, hm.symm⟩

/-- the three cells of a panel behind a pointer -/
def Box (w : World) (p : Nat) (W H : Int) (A : Option Addr) (n c : Nat) : Prop :=
  p < w.heap.size ∧ w.cell? ⟨p, 0, none⟩ = some (.int .i64 W) ∧ w.cell? ⟨p, 1, none⟩ = some (.int .i64 H) ∧ w.cell? ⟨p, 2, none⟩ = some (.slice A n c)

/-- the post of a function that only reads -/
def Drew (v : Value) (w : World) (e : Ending) (w' : World) : Prop := ∃ m, e = .returned v ∧ w' = w.drewN m

theorem specOk_size (w : World) (p : Nat) (W H : Int) (A : Option Addr) (n c : Nat) (hb : Box w p W H A n c) (h : sideB W = false ∨ sideB H = false ∨ (sideB W = true ∧ sideB H = true ∧ (n : Int) ≠ inner W H)) :
    Calls Tryd.prog 71 #[.pointer (some ⟨p, 0, none⟩)] w (Drew (.bool false) w) := by
  obtain ⟨hp, c0, c1, c2⟩ := hb
  rcases h with h | h | ⟨h1, h2, h3⟩
  · go_enter Tryd.func71, Tryd.ntmps71
    go_wp2
    go_quiet ((go_at_call 114; exact quiet_left (side_any _ _)))
    go_wp2
    go_ret
    exact ⟨_, rfl, rfl⟩
  · by_cases h1 : sideB W = true
    · go_enter Tryd.func71, Tryd.ntmps71
      go_wp2
      go_quiet ((go_at_call 114; exact quiet_left (side_any _ _)))
      go_wp2
      go_ret
      exact ⟨_, rfl, rfl⟩
    · have h1 : sideB W = false := by simpa using h1
      go_enter Tryd.func71, Tryd.ntmps71
      go_wp2
      go_quiet ((go_at_call 114; exact quiet_left (side_any _ _)))
      go_wp2
      go_ret
      exact ⟨_, rfl, rfl⟩
  · have hn : ((n : Int) == inner W H) = false := beq_eq_false_iff_ne.2 h3
    have hn' : ((n : Int) != inner W H) = true := bne_iff_ne.2 h3
    clear h3
    go_enter Tryd.func71, Tryd.ntmps71
    go_wp2
    go_quiet (first | (go_at_call 114; exact quiet_left (side_any _ _)) | (go_at_call 115; exact quiet_left (inner_any _ _ h1 h2 _)))
    go_wp2
    go_ret
    exact ⟨_, rfl, rfl⟩
theorem specOk_loop (w : World) (p : Nat) (W H : Int) (A : Option Addr) (n c : Nat) (f : Nat → Int) (hb : Box w p W H A n c) (hr : Row .i64 w A n c f)
    (h1 : sideB W = true) (h2 : sideB H = true) (h3 : (n : Int) = inner W H) :
    Calls Tryd.prog 71 #[.pointer (some ⟨p, 0, none⟩)] w (Drew (.bool (kindsB n f)) w) := by
  obtain ⟨hp, c0, c1, c2⟩ := hb
  obtain ⟨hnc, hcm, _, hcell⟩ := hr
  unfold maxLen at hcm
  have hn : ((n : Int) == inner W H) = true := beq_iff_eq.2 h3
  have hn' : ((n : Int) != inner W H) = false := by rw [bne_eq_false_iff_eq]; exact h3
  clear h3
  go_enter Tryd.func71, Tryd.ntmps71
  go_wp2
  go_quiet (first | (go_at_call 114; exact quiet_left (side_any _ _)) | (go_at_call 115; exact quiet_left (inner_any _ _ h1 h2 _)))
  clear hn hn' h1 h2
  go_wp2
  go_loop [3] (fun i => ∃ k : Nat, k ≤ n ∧ i = .int .i64 k ∧ ∀ j, j < k → 0 ≤ f j ∧ f j ≤ 2) (fun i => n - (intOf i).toNat)
  case atStart => exact ⟨0, Nat.zero_le _, rfl, fun j hj => absurd hj (Nat.not_lt_zero _)⟩
  case round =>
    obtain ⟨k, hk, rfl, hok⟩ := hrel
    have HOK := Lib.hid hok
    clear hok
    by_cases hlt : k < n
    · obtain ⟨b, o, rfl, hbl, hc⟩ := hcell (by omega)
      have hck := hc k hlt
      clear hc hcell
      by_cases hin : inB (f k) 0 2 = true
      · have hin' : 0 ≤ f k ∧ f k ≤ 2 := of_decide_eq_true hin
        have HI := Lib.hid hin'
        clear hin'
        go_wp2_with (go_at_call 78; refine (in_any _ _ _ _).mono ?_; rintro e w' ⟨rfl, rfl⟩)
        go_round
        case rel => exact ⟨k + 1, by omega, by go_num, fun j hj => by rcases Nat.lt_succ_iff_lt_or_eq.1 hj with h | rfl; exact HOK.out j h; exact HI.out⟩
        case measure => simp [intOf]; omega
      · have hin : inB (f k) 0 2 = false := by simpa using hin
        have hz : kindsB n f = false := kinds_no hlt (of_decide_eq_false hin)
        have HZ := Lib.hid hz
        clear hz
        go_wp2_with (go_at_call 78; refine (in_any _ _ _ _).mono ?_; rintro e w' ⟨rfl, rfl⟩)
        go_ret
        exact ⟨_, ret_bool HZ.out.symm, rfl⟩
    · have hz : kindsB n f = true := kinds_iff.2 fun j hj => HOK.out j (by omega)
      have HZ := Lib.hid hz
      clear hz hcell
      go_wp2
      go_ret
      exact ⟨_, ret_bool HZ.out.symm, rfl⟩

theorem validB_yes {W H : Int} {n : Nat} {f : Nat → Int} (h : validB W H n f = true) : sideB W = true ∧ sideB H = true ∧ (n : Int) = inner W H ∧ kindsB n f = true := by
  simp [validB] at h
  exact ⟨h.1.1.1, h.1.1.2, h.1.2, h.2⟩
theorem validB_cases (W H : Int) (n : Nat) (f : Nat → Int) :
    ((sideB W = false ∨ sideB H = false ∨ (sideB W = true ∧ sideB H = true ∧ (n : Int) ≠ inner W H)) ∧ validB W H n f = false) ∨
    (sideB W = true ∧ sideB H = true ∧ (n : Int) = inner W H ∧ validB W H n f = kindsB n f) := by
  cases h1 : sideB W
  · exact .inl ⟨.inl rfl, by simp [validB, h1]⟩
  · cases h2 : sideB H
    · exact .inl ⟨.inr (.inl rfl), by simp [validB, h2]⟩
    · by_cases h3 : (n : Int) = inner W H
      · exact .inr ⟨rfl, rfl, h3, by simp [validB, h1, h2, h3]⟩
      · exact .inl ⟨.inr (.inr ⟨rfl, rfl, h3⟩), by simp [validB, h3]⟩
theorem specOk (w : World) (p : Nat) (W H : Int) (A : Option Addr) (n c : Nat) (f : Nat → Int) (hb : Box w p W H A n c) (hr : Row .i64 w A n c f) :
    Calls Tryd.prog 71 #[.pointer (some ⟨p, 0, none⟩)] w (Drew (.bool (validB W H n f)) w) := by
  rcases validB_cases W H n f with ⟨h, e⟩ | ⟨h1, h2, h3, e⟩
  · rw [e]; exact specOk_size w p W H A n c hb h
  · rw [e]; exact specOk_loop w p W H A n c f hb hr h1 h2 h3

/-- what a function returns, and no old memory has changed -/
def Gives (v : Value) (w : World) (e : Ending) (w' : World) : Prop := e = .returned v ∧ Below w.heap.size w w'

theorem below_drewN {B : Nat} {a w : World} (h : Below B a w) (n : Nat) : Below B a (w.drewN n) := ⟨h.os, h.tape, h.output, h.size, h.block⟩

end Go.Proofs.YtbpdjmjkjiddjaaDoor.Base

namespace Go.Proofs.YtbpdjmjkjiddjaaDoor.Base
open Go.RowKit
set_option linter.unusedVariables false

theorem sizeOf_any (w : World) (W H : Int) (A : Option Addr) (n c : Nat) :
    Calls Tryd.prog 70 #[.agg #[.int .i64 W, .int .i64 H, .slice A n c]] w (Gives (.agg #[.int .i64 W, .int .i64 H]) w) := by
  go_enter Tryd.func70, Tryd.ntmps70
  go_wp2
  go_returns
  exact ⟨rfl, by go_grown⟩

def kindB (z : Int) : Bool := inB z 0 2
theorem isBreak_any (z : Int) (w : World) : Calls Tryd.prog 113 #[.int .i64 z] w fun e w' => e = .returned (.bool (inB z 0 2)) ∧ w = w' := by
  by_cases h1 : 0 ≤ z
  · by_cases h2 : z ≤ 2
    · have E := Lib.hid (show inB z 0 2 = true from decide_eq_true ⟨h1, h2⟩)
      go_enter Tryd.func113, Tryd.ntmps113
      go_wp2
      go_ret
      exact ⟨ret_bool E.out.symm, rfl⟩
    · have E := Lib.hid (show inB z 0 2 = false from decide_eq_false (by omega))
      go_enter Tryd.func113, Tryd.ntmps113
      go_wp2
      go_ret
      exact ⟨ret_bool E.out.symm, rfl⟩
  · have E := Lib.hid (show inB z 0 2 = false from decide_eq_false (by omega))
    go_enter Tryd.func113, Tryd.ntmps113
    go_wp2
    go_ret
    exact ⟨ret_bool E.out.symm, rfl⟩

/-- what go_region_held3 keeps: three cells, and that nothing older has changed -/
theorem keep3 {w w1 w2 : World} {p q r : Addr} {u v x : Value} (h : w1.cell? p = some u ∧ w1.cell? q = some v ∧ w1.cell? r = some x ∧ Below w.heap.size w w1) (b : Below w1.heap.size w1 w2) :
    w2.cell? p = some u ∧ w2.cell? q = some v ∧ w2.cell? r = some x ∧ Below w.heap.size w w2 :=
  ⟨(b.cell (World.block_lt_of_cell? _ _ h.1)).trans h.1, (b.cell (World.block_lt_of_cell? _ _ h.2.1)).trans h.2.1, (b.cell (World.block_lt_of_cell? _ _ h.2.2.1)).trans h.2.2.1, h.2.2.2.trans (b.mono h.2.2.2.size)⟩
theorem keep3d {w w1 : World} {p q r : Addr} {u v x : Value} (h : w1.cell? p = some u ∧ w1.cell? q = some v ∧ w1.cell? r = some x ∧ Below w.heap.size w w1) :
    w1.drew.cell? p = some u ∧ w1.drew.cell? q = some v ∧ w1.drew.cell? r = some x ∧ Below w.heap.size w w1.drew := ⟨h.1, h.2.1, h.2.2.1, h.2.2.2.drew⟩

theorem implOk_size (w : World) (W H : Int) (A : Option Addr) (n c : Nat) (h : sideB W = false ∨ sideB H = false) :
    Calls Tryd.prog 69 #[.agg #[.int .i64 W, .int .i64 H, .slice A n c]] w (Gives (.bool false) w) := by
  go_enter Tryd.func69, Tryd.ntmps69
  go_wp2_with fail
  refine (sizeOf_any _ W H A n c).mono ?_
  rintro e w1 ⟨rfl, b1⟩
  obtain ⟨hc1, hf1⟩ := bcell b1
  have hz1 : w.heap.size < w1.heap.size := by have := b1.size; simp at this; omega
  have B1 : Below w.heap.size w w1 := ((Below.refl _ _).alloc (Nat.le_refl _) _).trans (b1.mono (by simp))
  have hcc : w1.cell? ⟨w.heap.size, 2, none⟩ = some (.slice A n c) := by rw [hc1 _ _ (by simp)]; simp [go_sem]
  go_wp2_with fail
  first | (go_region_with (go_at_call 112; refine (valid_no _ _ _ h).mono ?_; rintro e w2 ⟨rfl, b2⟩)) | fail
  all_goals
    go_wp2
    go_ret
    refine ⟨rfl, Below.trans ?_ (b2.mono ?_)⟩
    · exact (B1.alloc (Nat.le_of_lt hz1) _).drew
    · simp; omega
theorem implOk_more (w : World) (W H : Int) (A : Option Addr) (n c : Nat) (f : Nat → Int) (hr : Row .i64 w A n c f) (h1 : sideB W = true) (h2 : sideB H = true) (v : Bool)
    (hv : ((n : Int) ≠ inner W H ∧ v = false) ∨ ((n : Int) = inner W H ∧ v = kindsB n f)) :
    Calls Tryd.prog 69 #[.agg #[.int .i64 W, .int .i64 H, .slice A n c]] w (Gives (.bool v) w) := by
  have hcm := hr.2.1
  unfold maxLen at hcm
  have hnc := hr.1
  have HR := Lib.hid hr
  clear hr
  have HV := Lib.hid hv
  clear hv
  go_enter Tryd.func69, Tryd.ntmps69
  go_wp2_with fail
  refine (sizeOf_any _ W H A n c).mono ?_
  rintro e w1 ⟨rfl, b1⟩
  obtain ⟨hc1, hf1⟩ := bcell b1
  have hz1 : w.heap.size < w1.heap.size := by have := b1.size; simp at this; omega
  have B1 : Below w.heap.size w w1 := ((Below.refl _ _).alloc (Nat.le_refl _) _).trans (b1.mono (by simp))
  have hcc : w1.cell? ⟨w.heap.size, 2, none⟩ = some (.slice A n c) := by rw [hc1 _ _ (by simp)]; simp [go_sem]
  go_wp2_with fail
  have st : (w1.alloc (.cells #[.int .i64 W, .int .i64 H] 99)).cell? ⟨w1.heap.size, 0, none⟩ = some (.int .i64 W) ∧
      (w1.alloc (.cells #[.int .i64 W, .int .i64 H] 99)).cell? ⟨w1.heap.size, 1, none⟩ = some (.int .i64 H) ∧
      (w1.alloc (.cells #[.int .i64 W, .int .i64 H] 99)).cell? ⟨w.heap.size, 2, none⟩ = some (.slice A n c) ∧
      Below w.heap.size w (w1.alloc (.cells #[.int .i64 W, .int .i64 H] 99)) :=
    ⟨by simp [go_sem], by simp [go_sem], by rw [World.cell?_alloc_lt _ _ _ hz1]; exact hcc, B1.alloc (by omega) _⟩
  have ST := Lib.hid (keep3d st)
  clear st hcc hc1 hf1 b1
  rcases HV.out with ⟨h3, hv⟩ | ⟨h3, hv⟩
  · have hn : ((n : Int) == inner W H) = false := beq_eq_false_iff_ne.2 h3
    have hn' : ((n : Int) != inner W H) = true := bne_iff_ne.2 h3
    subst hv
    clear h3
    go_region_held3 (fun w' => w'.cell? ⟨w1.heap.size, 0, none⟩ = some (.int .i64 W) ∧ w'.cell? ⟨w1.heap.size, 1, none⟩ = some (.int .i64 H) ∧ w'.cell? ⟨w.heap.size, 2, none⟩ = some (.slice A n c) ∧ Below w.heap.size w w')
      (first | exact ST.out | exact keep3 (by assumption) (by assumption))
      (first | (go_at_call 112; refine (valid_yes _ _ _ h1 h2).mono ?_; rintro e w2 ⟨rfl, b2⟩) | (go_at_call 104; refine (innerPts_any _ _ h1 h2 _).mono ?_; rintro e w2 ⟨rfl, b2⟩))
    rename_i hS
    obtain ⟨g0, g1, g2, gB⟩ := hS
    go_wp2
    go_ret
    exact ⟨rfl, gB⟩
  · have hn : ((n : Int) == inner W H) = true := beq_iff_eq.2 h3
    have hn' : ((n : Int) != inner W H) = false := by rw [bne_eq_false_iff_eq]; exact h3
    subst hv
    clear h3
    go_region_held3 (fun w' => w'.cell? ⟨w1.heap.size, 0, none⟩ = some (.int .i64 W) ∧ w'.cell? ⟨w1.heap.size, 1, none⟩ = some (.int .i64 H) ∧ w'.cell? ⟨w.heap.size, 2, none⟩ = some (.slice A n c) ∧ Below w.heap.size w w')
      (first | exact ST.out | exact keep3 (by assumption) (by assumption))
      (first | (go_at_call 112; refine (valid_yes _ _ _ h1 h2).mono ?_; rintro e w2 ⟨rfl, b2⟩) | (go_at_call 104; refine (innerPts_any _ _ h1 h2 _).mono ?_; rintro e w2 ⟨rfl, b2⟩))
    clear hn hn'
    rename_i hS
    obtain ⟨g0, g1, g2, gB⟩ := hS
    obtain ⟨_, _, _, hcell⟩ := HR.out.below gB (Nat.le_refl _)
    clear g0 g1 ST HV
    go_wp2
    go_loop [22] (fun i => ∃ k : Nat, k ≤ n ∧ i = .int .i64 k ∧ ∀ j, j < k → 0 ≤ f j ∧ f j ≤ 2) (fun i => n - (intOf i).toNat)
    case atStart => exact ⟨0, Nat.zero_le _, rfl, fun j hj => absurd hj (Nat.not_lt_zero _)⟩
    case round =>
      obtain ⟨k, hk, rfl, hok⟩ := hrel
      have HOK := Lib.hid hok
      clear hok
      by_cases hlt : k < n
      · obtain ⟨b, o, rfl, hbl, hc⟩ := hcell (by omega)
        have hck := hc k hlt
        clear hc hcell
        by_cases hin : inB (f k) 0 2 = true
        · have hin' : 0 ≤ f k ∧ f k ≤ 2 := of_decide_eq_true hin
          have HI := Lib.hid hin'
          clear hin'
          go_wp2_with (go_at_call 113; refine (isBreak_any _ _).mono ?_; rintro e w' ⟨rfl, rfl⟩)
          go_round
          case rel => exact ⟨k + 1, by omega, by go_num, fun j hj => by rcases Nat.lt_succ_iff_lt_or_eq.1 hj with h | rfl; exact HOK.out j h; exact HI.out⟩
          case measure => simp [intOf]; omega
        · have hin : inB (f k) 0 2 = false := by simpa using hin
          have hz : kindsB n f = false := kinds_no hlt (of_decide_eq_false hin)
          have HZ := Lib.hid hz
          clear hz
          go_wp2_with (go_at_call 113; refine (isBreak_any _ _).mono ?_; rintro e w' ⟨rfl, rfl⟩)
          go_ret
          exact ⟨ret_bool HZ.out.symm, gB⟩
      · have hz : kindsB n f = true := kinds_iff.2 fun j hj => HOK.out j (by omega)
        have HZ := Lib.hid hz
        clear hz hcell
        go_wp2
        go_ret
        exact ⟨ret_bool HZ.out.symm, gB⟩

theorem impl_validPanel (w : World) (W H : Int) (A : Option Addr) (n c : Nat) (f : Nat → Int) (hr : Row .i64 w A n c f) :
    Calls Tryd.prog 69 #[.agg #[.int .i64 W, .int .i64 H, .slice A n c]] w (Gives (.bool (validB W H n f)) w) := by
  rcases validB_cases W H n f with ⟨h, e⟩ | ⟨h1, h2, h3, e⟩
  · rw [e]
    rcases h with h | h | ⟨h1, h2, h3⟩
    · exact implOk_size w W H A n c (.inl h)
    · exact implOk_size w W H A n c (.inr h)
    · exact implOk_more w W H A n c f hr h1 h2 false (.inl ⟨h3, rfl⟩)
  · rw [e]; exact implOk_more w W H A n c f hr h1 h2 _ (.inr ⟨h3, rfl⟩)
end Go.Proofs.YtbpdjmjkjiddjaaDoor.Base

namespace Go.Proofs.YtbpdjmjkjiddjaaDoor.Base
open Go.RowKit
set_option linter.unusedVariables false

theorem toPanel_any (w : World) (W H : Int) (A : Option Addr) (n c : Nat) (f : Nat → Int) (hr : Row .i64 w A n c f) (hn : n ≤ 1048576) :
    Calls Tryd.prog 16 #[.agg #[.int .i64 W, .int .i64 H, .slice A n c]] w (MadePanel 2 W H n f w) := by
  have HR := Lib.hid hr
  clear hr
  go_enter Tryd.func16, Tryd.ntmps16
  go_wp2_with fail
  refine (toInts_any _ A n c f (HR.out.below (by go_grown) (Nat.le_refl _)) hn).mono ?_
  rintro e w1 ⟨b, rfl, hb, hrow, b1⟩
  obtain ⟨hc1, hf1⟩ := bcell b1
  have hz1 := b1.size
  simp at hz1 hb
  have p0 : w1.cell? ⟨w.heap.size + 1, 0, none⟩ = some (.int .i64 0) := by rw [hc1 _ _ (by simp)]; simp [go_sem]
  have p1 : w1.cell? ⟨w.heap.size + 1, 1, none⟩ = some (.int .i64 0) := by rw [hc1 _ _ (by simp)]; simp [go_sem]
  have p2 : w1.cell? ⟨w.heap.size + 1, 2, none⟩ = some (.slice none 0 0) := by rw [hc1 _ _ (by simp)]; simp [go_sem]
  have q0 : w1.cell? ⟨w.heap.size + 1 + 1, 0, none⟩ = some (.int .i64 W) := by rw [hc1 _ _ (by simp)]; simp [go_sem]
  have q1 : w1.cell? ⟨w.heap.size + 1 + 1, 1, none⟩ = some (.int .i64 H) := by rw [hc1 _ _ (by simp)]; simp [go_sem]
  have q2 : w1.cell? ⟨w.heap.size + 1 + 1, 2, none⟩ = some (.slice none 0 0) := by rw [hc1 _ _ (by simp)]; simp [go_sem]
  have HROW := Lib.hid hrow
  have HB := Lib.hid b1
  clear hrow b1
  go_wp2
  refine bodyPost_ret (v := .agg #[.int .i64 W, .int .i64 H, .slice (some ⟨b, 0, none⟩) n n]) (by simp [results, Tryd.results16, go_sem, p0, p1, p2]) rfl ⟨b, rfl, by omega, ?_, ?_⟩
  · exact (((HROW.out.setOther (by simp; omega) _).setOther (by simp; omega) _).setOther (by simp; omega) _).setOther (by simp; omega) _
  · exact (((((((Below.refl _ _).alloc (Nat.le_refl _) _).alloc (by simp) _).alloc (by simp; omega) _).trans (HB.out.mono (by simp; omega))).setCell (by simp; omega) _).setCell (by simp) _).setCell (by simp) _ |>.setCell (by simp) _

/-- what is left of 'left' behind a panel of n breaks -/
theorem szPanel_any (w : World) (W H : Int) (A : Option Addr) (n c : Nat) (l : Int) (hl : 0 ≤ l) (hl' : l ≤ 1048576) (hn : n ≤ 9223372036854775807) :
    Calls Tryd.prog 14 #[.agg #[.int .i64 W, .int .i64 H, .slice A n c], .int .i64 l] w (Gives (.int .i64 (if (n : Int) ≤ l then l - n else -1)) w) := by
  by_cases h : (n : Int) ≤ l
  · rw [if_pos h]
    go_enter Tryd.func14, Tryd.ntmps14
    go_wp2
    go_ret
    exact ⟨rfl, by go_grown⟩
  · rw [if_neg h]
    go_enter Tryd.func14, Tryd.ntmps14
    go_wp2
    go_ret
    exact ⟨rfl, by go_grown⟩

/-- two slices that hold the same -/
theorem eqInts_same (w : World) (A A' : Option Addr) (n c c' : Nat) (f : Nat → Int) (hr : Row .i64 w A n c f) (hr' : Row .i64 w A' n c' f) :
    Calls Tryd.prog 59 #[.slice A n c, .slice A' n c'] w (Drew (.bool true) w) := by
  obtain ⟨hnc, hcm, _, hcell⟩ := hr
  obtain ⟨hnc', hcm', _, hcell'⟩ := hr'
  unfold maxLen at hcm hcm'
  have hn : ((n : Int) == (n : Int)) = true := beq_self_eq_true _
  go_enter Tryd.func59, Tryd.ntmps59
  go_wp2
  go_loopw [5] (fun i wr => ∃ k m : Nat, k ≤ n ∧ i = .int .i64 k ∧ wr = w.drewN m) (fun i _ => n - (intOf i).toNat)
  case atStart => exact ⟨0, 0, Nat.zero_le _, rfl, rfl⟩
  case round =>
    obtain ⟨k, m, hk, rfl, rfl⟩ := hrel
    by_cases hlt : k < n
    · obtain ⟨b, o, rfl, hbl, hc⟩ := hcell (by omega)
      obtain ⟨b', o', rfl, hbl', hc'⟩ := hcell' (by omega)
      have hck := hc k hlt
      have hck' := hc' k hlt
      have heq : (f k == f k) = true := beq_self_eq_true _
      clear hc hc' hcell hcell'
      go_wp2
      go_quiet (fail)
      go_wp2
      go_roundw
      case rel => exact ⟨k + 1, _, by omega, by go_num, rfl⟩
      case measure => simp [intOf]; omega
    · go_wp2
      go_ret
      exact ⟨m, rfl, rfl⟩

theorem eqPanel_same (w : World) (W H : Int) (A A' : Option Addr) (n c c' : Nat) (f : Nat → Int) (hr : Row .i64 w A n c f) (hr' : Row .i64 w A' n c' f) :
    Calls Tryd.prog 18 #[.agg #[.int .i64 W, .int .i64 H, .slice A n c], .agg #[.int .i64 W, .int .i64 H, .slice A' n c']] w (Gives (.bool true) w) := by
  have HR := Lib.hid hr
  have HR' := Lib.hid hr'
  clear hr hr'
  have e1 : (W == W) = true := beq_self_eq_true _
  have e2 : (H == H) = true := beq_self_eq_true _
  go_enter Tryd.func18, Tryd.ntmps18
  go_wp2_with fail
  refine (eqInts_same _ A A' n c c' f (HR.out.below (by go_grown) (Nat.le_refl _)) (HR'.out.below (by go_grown) (Nat.le_refl _))).mono ?_
  rintro e w1 ⟨m, rfl, rfl⟩
  go_wp2
  go_ret
  exact ⟨rfl, below_drewN (by go_grown) m⟩
theorem sz_yes (w : World) (W H : Int) (A : Option Addr) (n c : Nat) (l : Int) (hl : 0 ≤ l) (hl' : l ≤ 1048576) (hn : (n : Int) ≤ l) :
    Calls Tryd.prog 14 #[.agg #[.int .i64 W, .int .i64 H, .slice A n c], .int .i64 l] w (Gives (.int .i64 (l - n)) w) := by
  have h := szPanel_any w W H A n c l hl hl' (by omega)
  rwa [if_pos hn] at h
theorem sz_no (w : World) (W H : Int) (A : Option Addr) (n c : Nat) (l : Int) (hl : 0 ≤ l) (hl' : l ≤ 1048576) (hn : n ≤ 9223372036854775807) (h' : l < (n : Int)) :
    Calls Tryd.prog 14 #[.agg #[.int .i64 W, .int .i64 H, .slice A n c], .int .i64 l] w (Gives (.int .i64 (-1)) w) := by
  have h := szPanel_any w W H A n c l hl hl' hn
  rwa [if_neg (by omega)] at h

theorem Box.below {w w' : World} {p B : Nat} {W H : Int} {A : Option Addr} {n c : Nat} (h : Box w p W H A n c) (hb : Below B w w') (hB : p < B) : Box w' p W H A n c :=
  ⟨Nat.lt_of_lt_of_le h.1 hb.size, (hb.cell (p := ⟨p, 0, none⟩) hB).trans h.2.1, (hb.cell (p := ⟨p, 1, none⟩) hB).trans h.2.2.1, (hb.cell (p := ⟨p, 2, none⟩) hB).trans h.2.2.2⟩
theorem Box.new (w : World) (t : TypeId) (W H : Int) (A : Option Addr) (n c : Nat) : Box (w.alloc (.cells #[.int .i64 W, .int .i64 H, .slice A n c] t)) w.heap.size W H A n c :=
  ⟨by simp, by simp [go_sem], by simp [go_sem], by simp [go_sem]⟩
/-- two boxes and what lies below: what go_region_held3 keeps -/
theorem keep6 {w w1 w2 : World} {p q r p' q' r' : Addr} {u v x u' v' x' : Value} (h : w1.cell? p = some u ∧ w1.cell? q = some v ∧ w1.cell? r = some x ∧ w1.cell? p' = some u' ∧ w1.cell? q' = some v' ∧ w1.cell? r' = some x' ∧ Below w.heap.size w w1)
    (b : Below w1.heap.size w1 w2) :
    w2.cell? p = some u ∧ w2.cell? q = some v ∧ w2.cell? r = some x ∧ w2.cell? p' = some u' ∧ w2.cell? q' = some v' ∧ w2.cell? r' = some x' ∧ Below w.heap.size w w2 :=
  ⟨(b.cell (World.block_lt_of_cell? _ _ h.1)).trans h.1, (b.cell (World.block_lt_of_cell? _ _ h.2.1)).trans h.2.1, (b.cell (World.block_lt_of_cell? _ _ h.2.2.1)).trans h.2.2.1,
    (b.cell (World.block_lt_of_cell? _ _ h.2.2.2.1)).trans h.2.2.2.1, (b.cell (World.block_lt_of_cell? _ _ h.2.2.2.2.1)).trans h.2.2.2.2.1, (b.cell (World.block_lt_of_cell? _ _ h.2.2.2.2.2.1)).trans h.2.2.2.2.2.1,
    h.2.2.2.2.2.2.trans (b.mono h.2.2.2.2.2.2.size)⟩
theorem row_keep6 {k : IntKind} {A : Option Addr} {n c : Nat} {f : Nat → Int} {w w1 : World} {p q r p' q' r' : Addr} {u v x u' v' x' : Value} (h : w1.cell? p = some u ∧ w1.cell? q = some v ∧ w1.cell? r = some x ∧ w1.cell? p' = some u' ∧ w1.cell? q' = some v' ∧ w1.cell? r' = some x' ∧ Below w.heap.size w w1)
    (R : Row k w A n c f) : Row k w1 A n c f := R.below h.2.2.2.2.2.2 (Nat.le_refl _)
theorem keep6d {w w1 : World} {p q : Nat} {W H W' H' : Int} {A A' : Option Addr} {n c n' c' : Nat} (h : Box w1 p W H A n c) (h' : Box w1 q W' H' A' n' c') (b : Below w.heap.size w w1) :
    w1.drew.cell? ⟨p, 0, none⟩ = some (.int .i64 W) ∧ w1.drew.cell? ⟨p, 1, none⟩ = some (.int .i64 H) ∧ w1.drew.cell? ⟨p, 2, none⟩ = some (.slice A n c) ∧
    w1.drew.cell? ⟨q, 0, none⟩ = some (.int .i64 W') ∧ w1.drew.cell? ⟨q, 1, none⟩ = some (.int .i64 H') ∧ w1.drew.cell? ⟨q, 2, none⟩ = some (.slice A' n' c') ∧ Below w.heap.size w w1.drew :=
  ⟨h.2.1, h.2.2.1, h.2.2.2, h'.2.1, h'.2.2.1, h'.2.2.2, b.drew⟩
end Go.Proofs.YtbpdjmjkjiddjaaDoor.Base

namespace Go.Proofs.YtbpdjmjkjiddjaaDoor.Base
open Go.RowKit
set_option linter.unusedVariables false

def hasB (W H x y : Int) : Bool := inB x 0 (2 * W) && inB y 0 (2 * H) && decide ((x + y) % 2 = 1)
def edgeB (W H x y : Int) : Bool := decide (x = 0 ∨ y = 0 ∨ x = 2 * W ∨ y = 2 * H)
theorem in_yes {n a b : Int} (h : inB n a b = true) : a ≤ n ∧ n ≤ b := of_decide_eq_true h
theorem in_no {n a b : Int} (h : inB n a b = false) : ¬ (a ≤ n ∧ n ≤ b) := of_decide_eq_false h
theorem has_yes {W H x y : Int} (h : hasB W H x y = true) : 0 ≤ x ∧ x ≤ 2 * W ∧ 0 ≤ y ∧ y ≤ 2 * H ∧ (x + y) % 2 = 1 := by
  simp [hasB] at h
  obtain ⟨⟨h1, h2⟩, h3⟩ := h
  exact ⟨(in_yes h1).1, (in_yes h1).2, (in_yes h2).1, (in_yes h2).2, h3⟩

theorem in_is {n a b : Int} {v : Bool} (h : inB n a b = v) (w : World) : Calls Tryd.prog 78 #[.int .i64 n, .int .i64 a, .int .i64 b] w fun e w' => e = .returned (.bool v) ∧ w = w' := by
  rw [← h]; exact in_any n a b w

theorem specEdge (w : World) (p : Nat) (W H : Int) (A : Option Addr) (n c : Nat) (x y : Int) (hb : Box w p W H A n c) (hW : sideB W = true) (hH : sideB H = true) :
    Calls Tryd.prog 170 #[.pointer (some ⟨p, 0, none⟩), .agg #[.int .i64 x, .int .i64 y]] w (Gives (.bool (edgeB W H x y)) w) := by
  obtain ⟨hp, k0, k1, k2⟩ := hb
  obtain ⟨a1, a2⟩ := side_mk hW
  obtain ⟨b1, b2⟩ := side_mk hH
  clear hW hH
  by_cases hx0 : x = 0
  · have hx0b : (x == 0) = true := beq_iff_eq.2 hx0
    have e : edgeB W H x y = true := by simp [edgeB, hx0]
    rw [e]
    clear e hx0
    go_enter Tryd.func170, Tryd.ntmps170
    go_wp2
    go_quiet (fail)
    go_wp2
    go_ret
    exact ⟨rfl, below_drewN (by go_grown) _⟩
  · have hx0b : (x == 0) = false := beq_eq_false_iff_ne.2 hx0
    by_cases hy0 : y = 0
    · have hy0b : (y == 0) = true := beq_iff_eq.2 hy0
      have e : edgeB W H x y = true := by simp [edgeB, hy0]
      rw [e]
      clear e hy0
      go_enter Tryd.func170, Tryd.ntmps170
      go_wp2
      go_quiet (fail)
      go_wp2
      go_ret
      exact ⟨rfl, below_drewN (by go_grown) _⟩
    · have hy0b : (y == 0) = false := beq_eq_false_iff_ne.2 hy0
      by_cases hxw : x = 2 * W
      · have hxwb : (x == 2 * W) = true := beq_iff_eq.2 hxw
        have e : edgeB W H x y = true := by simp [edgeB, hxw]
        rw [e]
        clear e hxw
        go_enter Tryd.func170, Tryd.ntmps170
        go_wp2
        go_quiet (fail)
        go_wp2
        go_ret
        exact ⟨rfl, below_drewN (by go_grown) _⟩
      · have hxwb : (x == 2 * W) = false := beq_eq_false_iff_ne.2 hxw
        by_cases hyh : y = 2 * H
        · have hyhb : (y == 2 * H) = true := beq_iff_eq.2 hyh
          have e : edgeB W H x y = true := by simp [edgeB, hyh]
          rw [e]
          clear e hyh
          go_enter Tryd.func170, Tryd.ntmps170
          go_wp2
          go_quiet (fail)
          go_wp2
          go_ret
          exact ⟨rfl, below_drewN (by go_grown) _⟩
        · have hyhb : (y == 2 * H) = false := beq_eq_false_iff_ne.2 hyh
          have e : edgeB W H x y = false := by simp [edgeB, hx0, hy0, hxw, hyh]
          rw [e]
          clear e hx0 hy0 hxw hyh
          go_enter Tryd.func170, Tryd.ntmps170
          go_wp2
          go_quiet (fail)
          go_wp2
          go_ret
          exact ⟨rfl, below_drewN (by go_grown) _⟩

theorem onBorder_any (w : World) (W H x y : Int) (hW : sideB W = true) (hH : sideB H = true) :
    Calls Tryd.prog 155 #[.agg #[.int .i64 W, .int .i64 H], .agg #[.int .i64 x, .int .i64 y]] w (Gives (.bool (edgeB W H x y)) w) := by
  obtain ⟨a1, a2⟩ := side_mk hW
  obtain ⟨b1, b2⟩ := side_mk hH
  clear hW hH
  by_cases hx0 : x = 0
  · have hx0b : (x == 0) = true := beq_iff_eq.2 hx0
    have e : edgeB W H x y = true := by simp [edgeB, hx0]
    rw [e]
    clear e hx0
    go_enter Tryd.func155, Tryd.ntmps155
    go_wp2
    go_ret
    exact ⟨rfl, by go_grown⟩
  · have hx0b : (x == 0) = false := beq_eq_false_iff_ne.2 hx0
    by_cases hxw : x = 2 * W
    · have hxwb : (x == 2 * W) = true := beq_iff_eq.2 hxw
      have e : edgeB W H x y = true := by simp [edgeB, hxw]
      rw [e]
      clear e hxw
      go_enter Tryd.func155, Tryd.ntmps155
      go_wp2
      go_ret
      exact ⟨rfl, by go_grown⟩
    · have hxwb : (x == 2 * W) = false := beq_eq_false_iff_ne.2 hxw
      by_cases hy0 : y = 0
      · have hy0b : (y == 0) = true := beq_iff_eq.2 hy0
        have e : edgeB W H x y = true := by simp [edgeB, hy0]
        rw [e]
        clear e hy0
        go_enter Tryd.func155, Tryd.ntmps155
        go_wp2
        go_ret
        exact ⟨rfl, by go_grown⟩
      · have hy0b : (y == 0) = false := beq_eq_false_iff_ne.2 hy0
        by_cases hyh : y = 2 * H
        · have hyhb : (y == 2 * H) = true := beq_iff_eq.2 hyh
          have e : edgeB W H x y = true := by simp [edgeB, hyh]
          rw [e]
          clear e hyh
          go_enter Tryd.func155, Tryd.ntmps155
          go_wp2
          go_ret
          exact ⟨rfl, by go_grown⟩
        · have hyhb : (y == 2 * H) = false := beq_eq_false_iff_ne.2 hyh
          have e : edgeB W H x y = false := by simp [edgeB, hx0, hy0, hxw, hyh]
          rw [e]
          clear e hx0 hy0 hxw hyh
          go_enter Tryd.func155, Tryd.ntmps155
          go_wp2
          go_ret
          exact ⟨rfl, by go_grown⟩

theorem hasPoint_anyG (w : World) (W H x y : Int) (hW : bigB W = true) (hH : bigB H = true) :
    Calls Tryd.prog 176 #[.agg #[.int .i64 W, .int .i64 H], .agg #[.int .i64 x, .int .i64 y]] w (Gives (.bool (hasB W H x y)) w) := by
  obtain ⟨a1, a2⟩ := big_mk hW
  obtain ⟨b1, b2⟩ := big_mk hH
  clear hW hH
  by_cases x1 : 0 ≤ x
  · by_cases x2 : x ≤ 2 * W
    · by_cases y1 : 0 ≤ y
      · by_cases y2 : y ≤ 2 * H
        · by_cases hm : (x + y) % 2 = 1
          · have e : hasB W H x y = true := by simp [hasB, inB, x1, x2, y1, y2, hm]
            rw [e]
            have hmb : ((x + y) % 2 == 1) = true := beq_iff_eq.2 hm
            clear e hm
            go_enter Tryd.func176, Tryd.ntmps176
            go_wp2
            go_ret
            exact ⟨rfl, by go_grown⟩
          · have e : hasB W H x y = false := by simp [hasB, hm]
            rw [e]
            have hmb : ((x + y) % 2 == 1) = false := beq_eq_false_iff_ne.2 hm
            clear e hm
            go_enter Tryd.func176, Tryd.ntmps176
            go_wp2
            go_ret
            exact ⟨rfl, by go_grown⟩
        · have e : hasB W H x y = false := by simp [hasB, inB, y2]
          rw [e]
          clear e
          go_enter Tryd.func176, Tryd.ntmps176
          go_wp2
          go_ret
          exact ⟨rfl, by go_grown⟩
      · have e : hasB W H x y = false := by simp [hasB, inB, y1]
        rw [e]
        clear e
        go_enter Tryd.func176, Tryd.ntmps176
        go_wp2
        go_ret
        exact ⟨rfl, by go_grown⟩
    · have e : hasB W H x y = false := by simp [hasB, inB, x2]
      rw [e]
      clear e
      go_enter Tryd.func176, Tryd.ntmps176
      go_wp2
      go_ret
      exact ⟨rfl, by go_grown⟩
  · have e : hasB W H x y = false := by simp [hasB, inB, x1]
    rw [e]
    clear e
    go_enter Tryd.func176, Tryd.ntmps176
    go_wp2
    go_ret
    exact ⟨rfl, by go_grown⟩
theorem hasPoint_any (w : World) (W H x y : Int) (hW : sideB W = true) (hH : sideB H = true) :
    Calls Tryd.prog 176 #[.agg #[.int .i64 W, .int .i64 H], .agg #[.int .i64 x, .int .i64 y]] w (Gives (.bool (hasB W H x y)) w) := hasPoint_anyG w W H x y (big_side hW) (big_side hH)
end Go.Proofs.YtbpdjmjkjiddjaaDoor.Base

namespace Go.Proofs.YtbpdjmjkjiddjaaDoor.Base
open Go.RowKit
set_option linter.unusedVariables false

def pointB (W H : Int) (n : Nat) (f : Nat → Int) (x y : Int) : Bool := validB W H n f && hasB W H x y
def borderB (W H : Int) (n : Nat) (f : Nat → Int) (x y : Int) : Bool := validB W H n f && hasB W H x y && edgeB W H x y

theorem specOk_is {w : World} {p : Nat} {W H : Int} {A : Option Addr} {n c : Nat} {f : Nat → Int} {v : Bool} (h : validB W H n f = v) (hb : Box w p W H A n c) (hr : Row .i64 w A n c f) :
    Calls Tryd.prog 71 #[.pointer (some ⟨p, 0, none⟩)] w (Drew (.bool v) w) := by rw [← h]; exact specOk w p W H A n c f hb hr
theorem specEdge_is {w : World} {p : Nat} {W H : Int} {A : Option Addr} {n c : Nat} {x y : Int} {v : Bool} (h : edgeB W H x y = v) (hb : Box w p W H A n c) (hW : sideB W = true) (hH : sideB H = true) :
    Calls Tryd.prog 170 #[.pointer (some ⟨p, 0, none⟩), .agg #[.int .i64 x, .int .i64 y]] w (Gives (.bool v) w) := by rw [← h]; exact specEdge w p W H A n c x y hb hW hH
theorem implOk_is {w : World} {W H : Int} {A : Option Addr} {n c : Nat} {f : Nat → Int} {v : Bool} (h : validB W H n f = v) (hr : Row .i64 w A n c f) :
    Calls Tryd.prog 69 #[.agg #[.int .i64 W, .int .i64 H, .slice A n c]] w (Gives (.bool v) w) := by rw [← h]; exact impl_validPanel w W H A n c f hr
theorem hasPoint_is {w : World} {W H x y : Int} {v : Bool} (h : hasB W H x y = v) (hW : sideB W = true) (hH : sideB H = true) :
    Calls Tryd.prog 176 #[.agg #[.int .i64 W, .int .i64 H], .agg #[.int .i64 x, .int .i64 y]] w (Gives (.bool v) w) := by rw [← h]; exact hasPoint_any w W H x y hW hH
theorem hasPointG_is {w : World} {W H x y : Int} {v : Bool} (h : hasB W H x y = v) (hW : bigB W = true) (hH : bigB H = true) :
    Calls Tryd.prog 176 #[.agg #[.int .i64 W, .int .i64 H], .agg #[.int .i64 x, .int .i64 y]] w (Gives (.bool v) w) := by rw [← h]; exact hasPoint_anyG w W H x y hW hH
theorem onBorder_is {w : World} {W H x y : Int} {v : Bool} (h : edgeB W H x y = v) (hW : sideB W = true) (hH : sideB H = true) :
    Calls Tryd.prog 155 #[.agg #[.int .i64 W, .int .i64 H], .agg #[.int .i64 x, .int .i64 y]] w (Gives (.bool v) w) := by rw [← h]; exact onBorder_any w W H x y hW hH

/-- a panel's box and a point's box, made one after the other -/
theorem two_boxes (w : World) (t u : TypeId) (W H : Int) (A : Option Addr) (n c : Nat) (x y : Int) :
    Box ((w.alloc (.cells #[.int .i64 W, .int .i64 H, .slice A n c] t)).alloc (.cells #[.int .i64 x, .int .i64 y] u)) w.heap.size W H A n c :=
  (Box.new w t W H A n c).below ((Below.refl _ _).alloc (Nat.le_refl _) _) (by simp)
/-- a point in its box -/
def Dot (w : World) (p : Nat) (x y : Int) : Prop := p < w.heap.size ∧ w.cell? ⟨p, 0, none⟩ = some (.int .i64 x) ∧ w.cell? ⟨p, 1, none⟩ = some (.int .i64 y)
theorem Dot.below {w w' : World} {p B : Nat} {x y : Int} (h : Dot w p x y) (hb : Below B w w') (hB : p < B) : Dot w' p x y :=
  ⟨Nat.lt_of_lt_of_le h.1 hb.size, (hb.cell (p := ⟨p, 0, none⟩) hB).trans h.2.1, (hb.cell (p := ⟨p, 1, none⟩) hB).trans h.2.2⟩
theorem Dot.new (w : World) (t : TypeId) (x y : Int) : Dot (w.alloc (.cells #[.int .i64 x, .int .i64 y] t)) w.heap.size x y := ⟨by simp, by simp [go_sem], by simp [go_sem]⟩
theorem below_of_drew {w w' : World} {m : Nat} (h : w' = w.drewN m) : Below w.heap.size w w' := by rw [h]; exact below_drewN (Below.refl _ _) m

theorem keep5 {w w1 w2 : World} {p q r p' q' : Addr} {u v x u' v' : Value} (h : w1.cell? p = some u ∧ w1.cell? q = some v ∧ w1.cell? r = some x ∧ w1.cell? p' = some u' ∧ w1.cell? q' = some v' ∧ Below w.heap.size w w1)
    (b : Below w1.heap.size w1 w2) : w2.cell? p = some u ∧ w2.cell? q = some v ∧ w2.cell? r = some x ∧ w2.cell? p' = some u' ∧ w2.cell? q' = some v' ∧ Below w.heap.size w w2 :=
  ⟨(b.cell (World.block_lt_of_cell? _ _ h.1)).trans h.1, (b.cell (World.block_lt_of_cell? _ _ h.2.1)).trans h.2.1, (b.cell (World.block_lt_of_cell? _ _ h.2.2.1)).trans h.2.2.1, (b.cell (World.block_lt_of_cell? _ _ h.2.2.2.1)).trans h.2.2.2.1, (b.cell (World.block_lt_of_cell? _ _ h.2.2.2.2.1)).trans h.2.2.2.2.1, h.2.2.2.2.2.trans (b.mono h.2.2.2.2.2.size)⟩
theorem row_keep5 {k : IntKind} {A : Option Addr} {n c : Nat} {f : Nat → Int} {w w1 : World} {p q r p' q' : Addr} {u v x u' v' : Value} (h : w1.cell? p = some u ∧ w1.cell? q = some v ∧ w1.cell? r = some x ∧ w1.cell? p' = some u' ∧ w1.cell? q' = some v' ∧ Below w.heap.size w w1)
    (R : Row k w A n c f) : Row k w1 A n c f := R.below h.2.2.2.2.2 (Nat.le_refl _)
theorem keep5d {w w1 : World} {p q : Nat} {W H x y : Int} {A : Option Addr} {n c : Nat} (h : Box w1 p W H A n c) (h' : Dot w1 q x y) (b : Below w.heap.size w w1) :
    w1.drew.cell? ⟨p, 0, none⟩ = some (.int .i64 W) ∧ w1.drew.cell? ⟨p, 1, none⟩ = some (.int .i64 H) ∧ w1.drew.cell? ⟨p, 2, none⟩ = some (.slice A n c) ∧
    w1.drew.cell? ⟨q, 0, none⟩ = some (.int .i64 x) ∧ w1.drew.cell? ⟨q, 1, none⟩ = some (.int .i64 y) ∧ Below w.heap.size w w1.drew :=
  ⟨h.2.1, h.2.2.1, h.2.2.2, h'.2.1, h'.2.2, b.drew⟩

end Go.Proofs.YtbpdjmjkjiddjaaDoor.Base
