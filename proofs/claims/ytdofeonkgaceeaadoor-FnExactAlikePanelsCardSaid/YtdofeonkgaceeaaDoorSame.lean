/-
  SamePanel, spec's and the program's.
-/
import Derived.Test.YtdofeonkgaceeaaDoorPan
import Derived.Laws.StructEq
namespace Go.Proofs.YtdofeonkgaceeaaDoor.Base
open Go.RowKit
set_option linter.unusedVariables false

def eqRows (n : Nat) (f : Nat → Int) (n' : Nat) (f' : Nat → Int) : Bool := decide (n = n') && (List.range n).all fun j => f j == f' j
theorem eqRows_len {n n' : Nat} {f f' : Nat → Int} (h : n ≠ n') : eqRows n f n' f' = false := by simp [eqRows, h]
theorem eqRows_no {n : Nat} {f f' : Nat → Int} {k : Nat} (hk : k < n) (h : f k ≠ f' k) : eqRows n f n f' = false := by
  cases e : eqRows n f n f'
  · rfl
  · simp [eqRows] at e
    exact absurd (e k hk) h
theorem eqRows_yes {n : Nat} {f f' : Nat → Int} (h : ∀ j, j < n → f j = f' j) : eqRows n f n f' = true := by
  simp [eqRows]
  exact h
def sameB (W H : Int) (n : Nat) (f : Nat → Int) (W' H' : Int) (n' : Nat) (f' : Nat → Int) : Bool := decide (W = W') && decide (H = H') && eqRows n f n' f'

theorem drewB (w : World) (m : Nat) : Below w.heap.size w (w.drewN m) := below_drewN (Below.refl _ _) m
theorem quiet_drew {P : Program} {f : FuncId} {args : Array Value} {w : World} {n : Nat} {v : Value}
    (h : Calls P f args (w.drewN n) (Drew v (w.drewN n))) : Calls P f args (w.drewN n) fun e w' => e = .returned v ∧ ∃ m, w' = w.drewN m :=
  h.mono fun _ _ ⟨m, he, hm⟩ => ⟨he, n + m, by rw [hm, World.drewN_drewN]⟩
theorem drew_gives {v : Value} {w w' : World} {e : Ending} (h : Drew v w e w') : Gives v w e w' := by
  obtain ⟨m, h1, h2⟩ := h
  exact ⟨h1, by rw [h2]; exact below_drewN (Below.refl _ _) m⟩

theorem specSameRows (w : World) (A A' : Option Addr) (n n' c c' : Nat) (f f' : Nat → Int) (hr : Row .i64 w A n c f) (hr' : Row .i64 w A' n' c' f') :
    Calls Tryd.prog 110 #[.slice A n c, .slice A' n' c'] w (Drew (.bool (eqRows n f n' f')) w) := by
  obtain ⟨hnc, hcm, _, hcell⟩ := hr
  obtain ⟨hnc', hcm', _, hcell'⟩ := hr'
  unfold maxLen at hcm hcm'
  by_cases hl : n = n'
  · subst hl
    have hn : ((n : Int) == (n : Int)) = true := beq_self_eq_true _
    go_enter Tryd.func110, Tryd.ntmps110
    go_wp2
    go_loopw [5] (fun i wr => ∃ k m : Nat, k ≤ n ∧ i = .int .i64 k ∧ wr = w.drewN m ∧ Hid (∀ j, j < k → f j = f' j)) (fun i _ => n - (intOf i).toNat)
    case atStart => exact ⟨0, 0, Nat.zero_le _, rfl, rfl, Lib.hid (fun j hj => absurd hj (Nat.not_lt_zero _))⟩
    case round =>
      obtain ⟨k, m, hk, rfl, rfl, HE⟩ := hrel
      by_cases hlt : k < n
      · obtain ⟨b, o, rfl, hbl, hc⟩ := hcell (by omega)
        obtain ⟨b', o', rfl, hbl', hc'⟩ := hcell' (by omega)
        have hck := hc k hlt
        have hck' := hc' k hlt
        clear hc hc' hcell hcell'
        by_cases he : f k = f' k
        · have heb : (f k == f' k) = true := beq_iff_eq.2 he
          have heb' : (f k != f' k) = false := by rw [bne_eq_false_iff_eq]; exact he
          have HS := Lib.hid (show ∀ j, j < k + 1 → f j = f' j from fun j hj => by rcases Nat.lt_succ_iff_lt_or_eq.1 hj with h | rfl; exact HE.out j h; exact he)
          clear he
          go_wp2
          go_quiet (fail)
          go_wp2
          go_roundw
          case rel => exact ⟨k + 1, _, by omega, by go_num, rfl, HS⟩
          case measure => simp [intOf]; omega
        · have heb : (f k == f' k) = false := beq_eq_false_iff_ne.2 he
          have heb' : (f k != f' k) = true := bne_iff_ne.2 he
          have HS := Lib.hid (eqRows_no hlt he)
          clear he
          go_wp2
          go_quiet (fail)
          go_wp2
          go_ret
          exact ⟨_, ret_bool HS.out.symm, World.drewN_drewN _ _ _⟩
      · have HS := Lib.hid (eqRows_yes (fun j (hj : j < n) => HE.out j (by omega)))
        clear hcell hcell'
        go_wp2
        go_ret
        exact ⟨m, ret_bool HS.out.symm, rfl⟩
  · have hn : ((n : Int) == (n' : Int)) = false := beq_eq_false_iff_ne.2 (by omega)
    have hn' : ((n : Int) != (n' : Int)) = true := bne_iff_ne.2 (by omega)
    have HS := Lib.hid (eqRows_len (f := f) (f' := f') hl)
    clear hl hcell hcell'
    go_enter Tryd.func110, Tryd.ntmps110
    go_wp2
    go_ret
    exact ⟨0, ret_bool HS.out.symm, rfl⟩

theorem slicesEqual (w : World) (A A' : Option Addr) (n n' c c' : Nat) (f f' : Nat → Int) (hr : Row .i64 w A n c f) (hr' : Row .i64 w A' n' c' f') :
    Calls Tryd.prog 102 #[.slice A n c, .slice A' n' c'] w (Drew (.bool (eqRows n f n' f')) w) := by
  obtain ⟨hnc, hcm, _, hcell⟩ := hr
  obtain ⟨hnc', hcm', _, hcell'⟩ := hr'
  unfold maxLen at hcm hcm'
  by_cases hl : n = n'
  · subst hl
    have hn : ((n : Int) == (n : Int)) = true := beq_self_eq_true _
    go_enter Tryd.func102, Tryd.ntmps102
    go_wp2
    go_loopw [13] (fun i wr => ∃ k m : Nat, k ≤ n ∧ i = .int .i64 k ∧ wr = w.drewN m ∧ Hid (∀ j, j < k → f j = f' j)) (fun i _ => n - (intOf i).toNat)
    case atStart => exact ⟨0, 0, Nat.zero_le _, rfl, rfl, Lib.hid (fun j hj => absurd hj (Nat.not_lt_zero _))⟩
    case round =>
      obtain ⟨k, m, hk, rfl, rfl, HE⟩ := hrel
      by_cases hlt : k < n
      · obtain ⟨b, o, rfl, hbl, hc⟩ := hcell (by omega)
        obtain ⟨b', o', rfl, hbl', hc'⟩ := hcell' (by omega)
        have hck := hc k hlt
        have hck' := hc' k hlt
        clear hc hc' hcell hcell'
        by_cases he : f k = f' k
        · have heb : (f k == f' k) = true := beq_iff_eq.2 he
          have heb' : (f k != f' k) = false := by rw [bne_eq_false_iff_eq]; exact he
          have HS := Lib.hid (show ∀ j, j < k + 1 → f j = f' j from fun j hj => by rcases Nat.lt_succ_iff_lt_or_eq.1 hj with h | rfl; exact HE.out j h; exact he)
          clear he
          go_wp2
          go_quiet (fail)
          go_wp2
          go_roundw
          case rel => exact ⟨k + 1, _, by omega, by go_num, rfl, HS⟩
          case measure => simp [intOf]; omega
        · have heb : (f k == f' k) = false := beq_eq_false_iff_ne.2 he
          have heb' : (f k != f' k) = true := bne_iff_ne.2 he
          have HS := Lib.hid (eqRows_no hlt he)
          clear he
          go_wp2
          go_quiet (fail)
          go_wp2
          go_ret
          exact ⟨_, ret_bool HS.out.symm, World.drewN_drewN _ _ _⟩
      · have HS := Lib.hid (eqRows_yes (fun j (hj : j < n) => HE.out j (by omega)))
        clear hcell hcell'
        go_wp2
        go_ret
        exact ⟨m, ret_bool HS.out.symm, rfl⟩
  · have hn : ((n : Int) == (n' : Int)) = false := beq_eq_false_iff_ne.2 (by omega)
    have hn' : ((n : Int) != (n' : Int)) = true := bne_iff_ne.2 (by omega)
    have HS := Lib.hid (eqRows_len (f := f) (f' := f') hl)
    clear hl hcell hcell'
    go_enter Tryd.func102, Tryd.ntmps102
    go_wp2
    go_ret
    exact ⟨0, ret_bool HS.out.symm, rfl⟩

theorem specSame (w : World) (p q : Nat) (W H W' H' : Int) (A A' : Option Addr) (n c n' c' : Nat) (f f' : Nat → Int) (hb : Box w p W H A n c) (hb' : Box w q W' H' A' n' c') (hr : Row .i64 w A n c f) (hr' : Row .i64 w A' n' c' f') :
    Calls Tryd.prog 71 #[.pointer (some ⟨p, 0, none⟩), .pointer (some ⟨q, 0, none⟩)] w (Drew (.bool (sameB W H n f W' H' n' f')) w) := by
  have HR := Lib.hid hr
  have HR' := Lib.hid hr'
  obtain ⟨hp, k0, k1, k2⟩ := hb
  obtain ⟨hq, l0, l1, l2⟩ := hb'
  clear hr hr'
  by_cases h1 : W = W'
  · have h1b : (W == W') = true := beq_iff_eq.2 h1
    by_cases h2 : H = H'
    · have h2b : (H == H') = true := beq_iff_eq.2 h2
      have e : sameB W H n f W' H' n' f' = eqRows n f n' f' := by simp [sameB, h1, h2]
      rw [e]
      clear e h1 h2
      go_enter Tryd.func71, Tryd.ntmps71
      go_wp2
      go_quiet ((go_at_call 110; exact quiet_drew (specSameRows _ A A' n n' c c' f f' (HR.out.below (drewB _ _) (Nat.le_refl _)) (HR'.out.below (drewB _ _) (Nat.le_refl _)))))
      go_wp2
      go_ret
      exact ⟨_, rfl, rfl⟩
    · have h2b : (H == H') = false := beq_eq_false_iff_ne.2 h2
      have e : sameB W H n f W' H' n' f' = false := by simp [sameB, h2]
      rw [e]
      clear e h1 h2
      go_enter Tryd.func71, Tryd.ntmps71
      go_wp2
      go_quiet (fail)
      go_wp2
      go_ret
      exact ⟨_, rfl, rfl⟩
  · have h1b : (W == W') = false := beq_eq_false_iff_ne.2 h1
    have e : sameB W H n f W' H' n' f' = false := by simp [sameB, h1]
    rw [e]
    clear e h1
    go_enter Tryd.func71, Tryd.ntmps71
    go_wp2
    go_quiet (fail)
    go_wp2
    go_ret
    exact ⟨_, rfl, rfl⟩

theorem box_two (w : World) (t : TypeId) (W H W' H' : Int) (A A' : Option Addr) (n c n' c' : Nat) :
    Box ((w.alloc (.cells #[.int .i64 W, .int .i64 H, .slice A n c] t)).alloc (.cells #[.int .i64 W', .int .i64 H', .slice A' n' c'] t)) w.heap.size W H A n c ∧
    Box ((w.alloc (.cells #[.int .i64 W, .int .i64 H, .slice A n c] t)).alloc (.cells #[.int .i64 W', .int .i64 H', .slice A' n' c'] t)) (w.heap.size + 1) W' H' A' n' c' := by
  refine ⟨(Box.new w t W H A n c).below ((Below.refl _ _).alloc (Nat.le_refl _) _) (by simp), ?_⟩
  have h := Box.new (w.alloc (.cells #[.int .i64 W, .int .i64 H, .slice A n c] t)) t W' H' A' n' c'
  rwa [World.size_alloc] at h

theorem spec_samePanel (w : World) (W H W' H' : Int) (A A' : Option Addr) (n c n' c' : Nat) (f f' : Nat → Int) (hr : Row .i64 w A n c f) (hr' : Row .i64 w A' n' c' f') :
    Calls Tryd.prog 40 #[.agg #[.int .i64 W, .int .i64 H, .slice A n c], .agg #[.int .i64 W', .int .i64 H', .slice A' n' c']] w (Gives (.bool (sameB W H n f W' H' n' f')) w) := by
  have HR := Lib.hid hr
  have HR' := Lib.hid hr'
  clear hr hr'
  have hbel : Below w.heap.size w ((w.alloc (.cells #[.int .i64 W, .int .i64 H, .slice A n c] 26)).alloc (.cells #[.int .i64 W', .int .i64 H', .slice A' n' c'] 26)) := by go_grown
  have HL := Lib.hid hbel
  have HX := Lib.hid (box_two w 26 W H W' H' A A' n c n' c')
  clear hbel
  go_enter Tryd.func40, Tryd.ntmps40
  go_wp2_with fail
  refine (specSame _ _ _ W H W' H' A A' n c n' c' f f' HX.out.1 HX.out.2 (HR.out.below HL.out (Nat.le_refl _)) (HR'.out.below HL.out (Nat.le_refl _))).mono ?_
  rintro e w1 ⟨m, rfl, rfl⟩
  go_wp2
  go_ret
  exact ⟨rfl, below_drewN HL.out m⟩

theorem slicesEqual_g {w : World} {A A' : Option Addr} {n n' c c' : Nat} {f f' : Nat → Int} (hr : Row .i64 w A n c f) (hr' : Row .i64 w A' n' c' f') :
    Calls Tryd.prog 102 #[.slice A n c, .slice A' n' c'] w (Gives (.bool (eqRows n f n' f')) w) :=
  (slicesEqual w A A' n n' c c' f f' hr hr').mono fun _ _ h => drew_gives h

set_option maxHeartbeats 1000000 in
theorem impl_samePanel (w : World) (W H W' H' : Int) (A A' : Option Addr) (n c n' c' : Nat) (f f' : Nat → Int) (hr : Row .i64 w A n c f) (hr' : Row .i64 w A' n' c' f') :
    Calls Tryd.prog 57 #[.agg #[.int .i64 W, .int .i64 H, .slice A n c], .agg #[.int .i64 W', .int .i64 H', .slice A' n' c']] w (Gives (.bool (sameB W H n f W' H' n' f')) w) := by
  have HR := Lib.hid hr
  have HR' := Lib.hid hr'
  clear hr hr'
  have hbel : Below w.heap.size w ((w.alloc (.cells #[.int .i64 W, .int .i64 H, .slice A n c] 26)).alloc (.cells #[.int .i64 W', .int .i64 H', .slice A' n' c'] 26)) := by go_grown
  have hx := box_two w 26 W H W' H' A A' n c n' c'
  have ST := Lib.hid (keep6d hx.1 hx.2 hbel)
  clear hbel hx
  by_cases h1 : W = W' ∧ H = H'
  · obtain ⟨rfl, rfl⟩ := h1
    have h1b : (W == W) = true := beq_self_eq_true _
    have h2b : (H == H) = true := beq_self_eq_true _
    have e : sameB W H n f W H n' f' = eqRows n f n' f' := by simp [sameB]
    rw [e]
    clear e
    go_enter Tryd.func57, Tryd.ntmps57
    go_wp2
    go_region_held3 (fun w' => w'.cell? ⟨w.heap.size, 0, none⟩ = some (.int .i64 W) ∧ w'.cell? ⟨w.heap.size, 1, none⟩ = some (.int .i64 H) ∧ w'.cell? ⟨w.heap.size, 2, none⟩ = some (.slice A n c) ∧
        w'.cell? ⟨w.heap.size + 1, 0, none⟩ = some (.int .i64 W) ∧ w'.cell? ⟨w.heap.size + 1, 1, none⟩ = some (.int .i64 H) ∧ w'.cell? ⟨w.heap.size + 1, 2, none⟩ = some (.slice A' n' c') ∧ Below w.heap.size w w')
      (first | exact ST.out | exact keep6 (by assumption) (by assumption))
      (first | (go_at_call 61; refine (sizeOf_any _ _ _ _ _ _).mono ?_; rintro e wa ⟨rfl, ba⟩) | (go_at_call 102; refine (slicesEqual_g (f := f) (f' := f') ?_ ?_).mono ?_; exact row_keep6 (by assumption) HR.out; exact row_keep6 (by assumption) HR'.out; rintro e wb ⟨rfl, bb⟩))
    rename_i hS
    have hB := hS.2.2.2.2.2.2
    clear hS
    go_wp2
    go_ret
    exact ⟨rfl, hB⟩
  · by_cases hw : W = W'
    · have hh : ¬ H = H' := fun h => h1 ⟨hw, h⟩
      have h1b : (W == W') = true := beq_iff_eq.2 hw
      have h2b : (H == H') = false := beq_eq_false_iff_ne.2 hh
      have e : sameB W H n f W' H' n' f' = false := by simp [sameB, hh]
      have HN := Lib.hid hh
      clear hh h1 hw
      rw [e]
      clear e HN
      have hst := ST.out
      go_enter Tryd.func57, Tryd.ntmps57
      go_wp2
      first | (go_region_with (go_at_call 61; refine (sizeOf_any _ _ _ _ _ _).mono ?_; rintro e wa ⟨rfl, ba⟩; have hst := keep6 (by assumption) ba)) | fail
      all_goals
        go_wp2
        go_ret
        exact ⟨rfl, hst.2.2.2.2.2.2⟩
    · have h1b : (W == W') = false := beq_eq_false_iff_ne.2 hw
      have e : sameB W H n f W' H' n' f' = false := by simp [sameB, hw]
      have HN := Lib.hid hw
      clear hw h1
      rw [e]
      clear e HN
      have hst := ST.out
      go_enter Tryd.func57, Tryd.ntmps57
      go_wp2
      first | (go_region_with (go_at_call 61; refine (sizeOf_any _ _ _ _ _ _).mono ?_; rintro e wa ⟨rfl, ba⟩; have hst := keep6 (by assumption) ba)) | fail
      all_goals
        go_wp2
        go_ret
        exact ⟨rfl, hst.2.2.2.2.2.2⟩
end Go.Proofs.YtdofeonkgaceeaaDoor.Base
