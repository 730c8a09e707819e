/-
  SamePanel, spec's and the program's.
-/
import Derived.Test.YtneknajeecgnoaaPan
import Derived.Laws.StructEq
namespace Go.Proofs.Ytneknajeecgnoaa.Base
open Go.RowKit
set_option linter.unusedVariables false

def eqRows (n : Nat) (f : Nat → Int) (n' : Nat) (f' : Nat → Int) : Bool := decide (n = n') && (List.range n).all fun j => f j == f' j
theorem eqRows_len {n n' : Nat} {f f' : Nat → Int} (h : n ≠ n') : eqRows n f n' f' = false := by simp [eqRows, h]
theorem eqRows_no {n : Nat} {f f' : Nat → Int} {k : Nat} (hk : k < n) (h : f k ≠ f' k) : eqRows n f n f' = false := by
  cases e : eqRows n f n f'
  · rfl
  · simp [eqRows] at e
    exact absurd (e k hk) h
theorem eqRows_yes {n : Nat} {f f' : Nat → Int} (h : ∀ j, j < n → f j = f' j) : eqRows n f n f' = true := by
  simp [eqRows]
  exact h
def sameB (W H : Int) (n : Nat) (f : Nat → Int) (W' H' : Int) (n' : Nat) (f' : Nat → Int) : Bool := decide (W = W') && decide (H = H') && eqRows n f n' f'

theorem drewB (w : World) (m : Nat) : Below w.heap.size w (w.drewN m) := below_drewN (Below.refl _ _) m
theorem quiet_drew {P : Program} {f : FuncId} {args : Array Value} {w : World} {n : Nat} {v : Value}
    (h : Calls P f args (w.drewN n) (Drew v (w.drewN n))) : Calls P f args (w.drewN n) fun e w' => e = .returned v ∧ ∃ m, w' = w.drewN m :=
  h.mono fun _ _ ⟨m, he, hm⟩ => ⟨he, n + m, by rw [hm, World.drewN_drewN]⟩
theorem drew_gives {v : Value} {w w' : World} {e : Ending} (h : Drew v w e w') : Gives v w e w' := by
  obtain ⟨m, h1, h2⟩ := h
  exact ⟨h1, by rw [h2]; exact below_drewN (Below.refl _ _) m⟩

theorem specSameRows (w : World) (A A' : Option Addr) (n n' c c' : Nat) (f f' : Nat → Int) (hr : Row .i64 w A n c f) (hr' : Row .i64 w A' n' c' f') :
    Calls Try.prog 64 #[.slice A n c, .slice A' n' c'] w (Drew (.bool (eqRows n f n' f')) w) := by
  obtain ⟨hnc, hcm, _, hcell⟩ := hr
  obtain ⟨hnc', hcm', _, hcell'⟩ := hr'
  unfold maxLen at hcm hcm'
  by_cases hl : n = n'
  · subst hl
    have hn : ((n : Int) == (n : Int)) = true := beq_self_eq_true _
    go_enter Try.func64, Try.ntmps64
    go_wp2
    go_loopw [5] (fun i wr => ∃ k m : Nat, k ≤ n ∧ i = .int .i64 k ∧ wr = w.drewN m ∧ Hid (∀ j, j < k → f j = f' j)) (fun i _ => n - (intOf i).toNat)
    case atStart => exact ⟨0, 0, Nat.zero_le _, rfl, rfl, Lib.hid (fun j hj => absurd hj (Nat.not_lt_zero _))⟩
    case round =>
      obtain ⟨k, m, hk, rfl, rfl, HE⟩ := hrel
      by_cases hlt : k < n
      · obtain ⟨b, o, rfl, hbl, hc⟩ := hcell (by omega)
        obtain ⟨b', o', rfl, hbl', hc'⟩ := hcell' (by omega)
        have hck := hc k hlt
        have hck' := hc' k hlt
        clear hc hc' hcell hcell'
        by_cases he : f k = f' k
        · have heb : (f k == f' k) = true := beq_iff_eq.2 he
          have heb' : (f k != f' k) = false := by rw [bne_eq_false_iff_eq]; exact he
          have HS := Lib.hid (show ∀ j, j < k + 1 → f j = f' j from fun j hj => by rcases Nat.lt_succ_iff_lt_or_eq.1 hj with h | rfl; exact HE.out j h; exact he)
          clear he
          go_wp2
          go_quiet (fail)
          go_wp2
          go_roundw
          case rel => exact ⟨k + 1, _, by omega, by go_num, rfl, HS⟩
          case measure => simp [intOf]; omega
        · have heb : (f k == f' k) = false := beq_eq_false_iff_ne.2 he
          have heb' : (f k != f' k) = true := bne_iff_ne.2 he
          have HS := Lib.hid (eqRows_no hlt he)
          clear he
          go_wp2
          go_quiet (fail)
          go_wp2
          go_ret
          exact ⟨_, ret_bool HS.out.symm, World.drewN_drewN _ _ _⟩
      · have HS := Lib.hid (eqRows_yes (fun j (hj : j < n) => HE.out j (by omega)))
        clear hcell hcell'
        go_wp2
        go_ret
        exact ⟨m, ret_bool HS.out.symm, rfl⟩
  · have hn : ((n : Int) == (n' : Int)) = false := beq_eq_false_iff_ne.2 (by omega)
    have hn' : ((n : Int) != (n' : Int)) = true := bne_iff_ne.2 (by omega)
    have HS := Lib.hid (eqRows_len (f := f) (f' := f') hl)
    clear hl hcell hcell'
    go_enter Try.func64, Try.ntmps64
    go_wp2
    go_ret
    exact ⟨0, ret_bool HS.out.symm, rfl⟩

theorem box_two (w : World) (t : TypeId) (W H W' H' : Int) (A A' : Option Addr) (n c n' c' : Nat) :
    Box ((w.alloc (.cells #[.int .i64 W, .int .i64 H, .slice A n c] t)).alloc (.cells #[.int .i64 W', .int .i64 H', .slice A' n' c'] t)) w.heap.size W H A n c ∧
    Box ((w.alloc (.cells #[.int .i64 W, .int .i64 H, .slice A n c] t)).alloc (.cells #[.int .i64 W', .int .i64 H', .slice A' n' c'] t)) (w.heap.size + 1) W' H' A' n' c' := by
  refine ⟨(Box.new w t W H A n c).below ((Below.refl _ _).alloc (Nat.le_refl _) _) (by simp), ?_⟩
  have h := Box.new (w.alloc (.cells #[.int .i64 W, .int .i64 H, .slice A n c] t)) t W' H' A' n' c'
  rwa [World.size_alloc] at h

end Go.Proofs.Ytneknajeecgnoaa.Base
