/-
  Panels: spec's and the program's test whether a panel is valid; copies; equality.
-/
import Derived.Test.YtfkodbpkfoecoaaDoorBase
namespace Go.Proofs.YtfkodbpkfoecoaaDoor.Base
open Go.RowKit
set_option linter.unusedVariables false

def kindsB (n : Nat) (f : Nat → Int) : Bool := (List.range n).all fun j => decide (0 ≤ f j ∧ f j ≤ 2)
theorem kinds_iff {n : Nat} {f : Nat → Int} : kindsB n f = true ↔ ∀ j, j < n → 0 ≤ f j ∧ f j ≤ 2 := by simp [kindsB]
theorem kinds_no {n : Nat} {f : Nat → Int} {k : Nat} (hk : k < n) (h : ¬ (0 ≤ f k ∧ f k ≤ 2)) : kindsB n f = false := by
  cases e : kindsB n f
  · rfl
  · exact absurd (kinds_iff.1 e k hk) h
def validB (W H : Int) (n : Nat) (f : Nat → Int) : Bool := sideB W && sideB H && decide ((n : Int) = inner W H) && kindsB n f

theorem quiet_left {P : Program} {f : FuncId} {args : Array Value} {w : World} {n : Nat} {v : Value}
    (h : Calls P f args (w.drewN n) fun e w' => e = .returned v ∧ w.drewN n = w') : Calls P f args (w.drewN n) fun e w' => e = .returned v ∧ ∃ m, w' = w.drewN m :=
  h.mono fun _ _ ⟨he, hm⟩ => ⟨he, n, hm.symm⟩

/-- the three cells of a panel behind a pointer -/
def Box (w : World) (p : Nat) (W H : Int) (A : Option Addr) (n c : Nat) : Prop :=
  p < w.heap.size ∧ w.cell? ⟨p, 0, none⟩ = some (.int .i64 W) ∧ w.cell? ⟨p, 1, none⟩ = some (.int .i64 H) ∧ w.cell? ⟨p, 2, none⟩ = some (.slice A n c)

/-- the post of a function that only reads -/
def Drew (v : Value) (w : World) (e : Ending) (w' : World) : Prop := ∃ m, e = .returned v ∧ w' = w.drewN m

theorem specOk_size (w : World) (p : Nat) (W H : Int) (A : Option Addr) (n c : Nat) (hb : Box w p W H A n c) (h : sideB W = false ∨ sideB H = false ∨ (sideB W = true ∧ sideB H = true ∧ (n : Int) ≠ inner W H)) :
    Calls Tryd.prog 71 #[.pointer (some ⟨p, 0, none⟩)] w (Drew (.bool false) w) := by
  obtain ⟨hp, c0, c1, c2⟩ := hb
  rcases h with h | h | ⟨h1, h2, h3⟩
  · go_enter Tryd.func71, Tryd.ntmps71
    go_wp2
    go_quiet ((go_at_call 121; exact quiet_left (side_any _ _)))
    go_wp2
    go_ret
    exact ⟨_, rfl, rfl⟩
  · by_cases h1 : sideB W = true
    · go_enter Tryd.func71, Tryd.ntmps71
      go_wp2
      go_quiet ((go_at_call 121; exact quiet_left (side_any _ _)))
      go_wp2
      go_ret
      exact ⟨_, rfl, rfl⟩
    · have h1 : sideB W = false := by simpa using h1
      go_enter Tryd.func71, Tryd.ntmps71
      go_wp2
      go_quiet ((go_at_call 121; exact quiet_left (side_any _ _)))
      go_wp2
      go_ret
      exact ⟨_, rfl, rfl⟩
  · have hn : ((n : Int) == inner W H) = false := beq_eq_false_iff_ne.2 h3
    have hn' : ((n : Int) != inner W H) = true := bne_iff_ne.2 h3
    clear h3
    go_enter Tryd.func71, Tryd.ntmps71
    go_wp2
    go_quiet (first | (go_at_call 121; exact quiet_left (side_any _ _)) | (go_at_call 122; exact quiet_left (inner_any _ _ h1 h2 _)))
    go_wp2
    go_ret
    exact ⟨_, rfl, rfl⟩
theorem specOk_loop (w : World) (p : Nat) (W H : Int) (A : Option Addr) (n c : Nat) (f : Nat → Int) (hb : Box w p W H A n c) (hr : Row .i64 w A n c f)
    (h1 : sideB W = true) (h2 : sideB H = true) (h3 : (n : Int) = inner W H) :
    Calls Tryd.prog 71 #[.pointer (some ⟨p, 0, none⟩)] w (Drew (.bool (kindsB n f)) w) := by
  obtain ⟨hp, c0, c1, c2⟩ := hb
  obtain ⟨hnc, hcm, _, hcell⟩ := hr
  unfold maxLen at hcm
  have hn : ((n : Int) == inner W H) = true := beq_iff_eq.2 h3
  have hn' : ((n : Int) != inner W H) = false := by rw [bne_eq_false_iff_eq]; exact h3
  clear h3
  go_enter Tryd.func71, Tryd.ntmps71
  go_wp2
  go_quiet (first | (go_at_call 121; exact quiet_left (side_any _ _)) | (go_at_call 122; exact quiet_left (inner_any _ _ h1 h2 _)))
  clear hn hn' h1 h2
  go_wp2
  go_loop [3] (fun i => ∃ k : Nat, k ≤ n ∧ i = .int .i64 k ∧ ∀ j, j < k → 0 ≤ f j ∧ f j ≤ 2) (fun i => n - (intOf i).toNat)
  case atStart => exact ⟨0, Nat.zero_le _, rfl, fun j hj => absurd hj (Nat.not_lt_zero _)⟩
  case round =>
    obtain ⟨k, hk, rfl, hok⟩ := hrel
    have HOK := Lib.hid hok
    clear hok
    by_cases hlt : k < n
    · obtain ⟨b, o, rfl, hbl, hc⟩ := hcell (by omega)
      have hck := hc k hlt
      clear hc hcell
      by_cases hin : inB (f k) 0 2 = true
      · have hin' : 0 ≤ f k ∧ f k ≤ 2 := of_decide_eq_true hin
        have HI := Lib.hid hin'
        clear hin'
        go_wp2_with (go_at_call 96; refine (in_any _ _ _ _).mono ?_; rintro e w' ⟨rfl, rfl⟩)
        go_round
        case rel => exact ⟨k + 1, by omega, by go_num, fun j hj => by rcases Nat.lt_succ_iff_lt_or_eq.1 hj with h | rfl; exact HOK.out j h; exact HI.out⟩
        case measure => simp [intOf]; omega
      · have hin : inB (f k) 0 2 = false := by simpa using hin
        have hz : kindsB n f = false := kinds_no hlt (of_decide_eq_false hin)
        have HZ := Lib.hid hz
        clear hz
        go_wp2_with (go_at_call 96; refine (in_any _ _ _ _).mono ?_; rintro e w' ⟨rfl, rfl⟩)
        go_ret
        exact ⟨_, ret_bool HZ.out.symm, rfl⟩
    · have hz : kindsB n f = true := kinds_iff.2 fun j hj => HOK.out j (by omega)
      have HZ := Lib.hid hz
      clear hz hcell
      go_wp2
      go_ret
      exact ⟨_, ret_bool HZ.out.symm, rfl⟩

theorem validB_yes {W H : Int} {n : Nat} {f : Nat → Int} (h : validB W H n f = true) : sideB W = true ∧ sideB H = true ∧ (n : Int) = inner W H ∧ kindsB n f = true := by
  simp [validB] at h
  exact ⟨h.1.1.1, h.1.1.2, h.1.2, h.2⟩
theorem validB_cases (W H : Int) (n : Nat) (f : Nat → Int) :
    ((sideB W = false ∨ sideB H = false ∨ (sideB W = true ∧ sideB H = true ∧ (n : Int) ≠ inner W H)) ∧ validB W H n f = false) ∨
    (sideB W = true ∧ sideB H = true ∧ (n : Int) = inner W H ∧ validB W H n f = kindsB n f) := by
  cases h1 : sideB W
  · exact .inl ⟨.inl rfl, by simp [validB, h1]⟩
  · cases h2 : sideB H
    · exact .inl ⟨.inr (.inl rfl), by simp [validB, h2]⟩
    · by_cases h3 : (n : Int) = inner W H
      · exact .inr ⟨rfl, rfl, h3, by simp [validB, h1, h2, h3]⟩
      · exact .inl ⟨.inr (.inr ⟨rfl, rfl, h3⟩), by simp [validB, h3]⟩
theorem specOk (w : World) (p : Nat) (W H : Int) (A : Option Addr) (n c : Nat) (f : Nat → Int) (hb : Box w p W H A n c) (hr : Row .i64 w A n c f) :
    Calls Tryd.prog 71 #[.pointer (some ⟨p, 0, none⟩)] w (Drew (.bool (validB W H n f)) w) := by
  rcases validB_cases W H n f with ⟨h, e⟩ | ⟨h1, h2, h3, e⟩
  · rw [e]; exact specOk_size w p W H A n c hb h
  · rw [e]; exact specOk_loop w p W H A n c f hb hr h1 h2 h3

/-- what a function returns, and no old memory has changed -/
def Gives (v : Value) (w : World) (e : Ending) (w' : World) : Prop := e = .returned v ∧ Below w.heap.size w w'

theorem below_drewN {B : Nat} {a w : World} (h : Below B a w) (n : Nat) : Below B a (w.drewN n) := ⟨h.os, h.tape, h.output, h.size, h.block⟩

end Go.Proofs.YtfkodbpkfoecoaaDoor.Base
