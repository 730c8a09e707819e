/-
  Panels compared: the specification's ComparePanels, the program's.
-/
import Derived.Test.YtdofeonkgaceeaaDoorCpr
import Derived.Test.YtdofeonkgaceeaaDoorPan
namespace Go.Proofs.YtdofeonkgaceeaaDoor.Base
open Go Go.RowKit
set_option linter.unusedVariables false
set_option linter.unusedSimpArgs false

theorem pair_row {w : World} {b : Nat} {W H : Int} {T : TypeId} (wW : (Lit.int .i64 W).wf = true) (wH : (Lit.int .i64 H).wf = true) (h : At w b #[.int .i64 W, .int .i64 H] T) : Row .i64 w (some ⟨b, 0, none⟩) 2 2 (pairF W H) :=
  ⟨Nat.le_refl _, by unfold maxLen; omega, fun i hi => by unfold pairF; split; exact wW; exact wH, fun _ => ⟨b, 0, rfl, h.lt, fun i hi => by
    have : i = 0 ∨ i = 1 := by omega
    rcases this with rfl | rfl
    · exact h.cellv (i := 0) rfl
    · exact h.cellv (i := 1) rfl⟩⟩
theorem pair_at0 (w : World) (cs : Array Value) (T : TypeId) (o : Obj) : At ((w.alloc (.cells cs T)).alloc o).drew w.heap.size cs T :=
  ((At.new w cs T).below ((Below.refl _ _).alloc (Nat.le_refl _) o) (by simp)).drew
theorem pair_at1 (w : World) (cs : Array Value) (T : TypeId) (o : Obj) : At ((w.alloc o).alloc (.cells cs T)).drew (w.heap.size + 1) cs T := by
  have h := At.new (w.alloc o) cs T
  rw [World.size_alloc] at h
  exact h.drew
set_option maxHeartbeats 4000000 in
theorem spec_compare (w : World) (p q : Nat) (W H W' H' : Int) (A A' : Option Addr) (n c n' c' : Nat) (f f' : Nat → Int) (hb : Box w p W H A n c) (hb' : Box w q W' H' A' n' c') (hr : Row .i64 w A n c f) (hr' : Row .i64 w A' n' c' f') (wW : (Lit.int .i64 W).wf = true) (wH : (Lit.int .i64 H).wf = true) (wW' : (Lit.int .i64 W').wf = true) (wH' : (Lit.int .i64 H').wf = true) :
    Calls Tryd.prog 85 #[.pointer (some ⟨p, 0, none⟩), .pointer (some ⟨q, 0, none⟩)] w (Gives (.int .i64 (cmpP W H n f W' H' n' f')) w) := by
  have HR := Lib.hid hr
  have HR' := Lib.hid hr'
  obtain ⟨hp, k0, k1, k2⟩ := hb
  obtain ⟨hq, l0, l1, l2⟩ := hb'
  clear hr hr'
  have OL := Lib.hid (Old.mk_ (Below.refl w.heap.size w).drew)
  go_enter Tryd.func85, Tryd.ntmps85
  go_wp2
  obtain ⟨v, hv⟩ : ∃ v, cmpR 2 (pairF W H) 2 (pairF W' H') = v := ⟨_, rfl⟩
  have HV := Lib.hid hv
  have HC := Lib.hid (cmpP_pair W H n f W' H' n' f')
  have HN : Hid (∀ (w : World) (A A' : Option Addr), Row .i64 w A 2 2 (pairF W H) → Row .i64 w A' 2 2 (pairF W' H') → Calls Tryd.prog 118 #[.slice A 2 2, .slice A' 2 2] w (Gives (.int .i64 v) w)) := Lib.hid (fun w A A' h h' => hv ▸ (spec_numbers w A A' 2 2 2 2 _ _ h h').mono fun _ _ h => drew_gives h)
  clear hv
  go_region_held3 (fun w' => (∀ b o, b < (w).heap.size → w'.cell? ⟨b, o, none⟩ = (w).cell? ⟨b, o, none⟩) ∧ Below (w).heap.size (w) w') (first | assumption | exact OL.out | exact Old.trans (by assumption) (by assumption) | exact Old.trans (by assumption) ((Below.refl _ _).alloc (Nat.le_refl _) _) | exact Old.mk_ ((((Below.refl _ _).alloc (Nat.le_refl _) _).alloc (by simp) _).drew.trans (ba.mono (by simp; omega)))) (first | (go_at_call 118; refine (HN.out _ _ _ ?_ ?_).mono ?_; (first | exact pair_row wW wH (pair_at0 _ _ _ _) | exact pair_row wW wH (pair_at1 _ _ _ _)); (first | exact pair_row wW' wH' (pair_at0 _ _ _ _) | exact pair_row wW' wH' (pair_at1 _ _ _ _)); rintro e wa ⟨rfl, ba⟩))
  all_goals
    rename_i hS
    have hB := hS.2
    have j0 : wa.cell? ⟨p, 2, none⟩ = some (.slice A n c) := (hS.1 p 2 hp).trans k2
    have j1 : wa.cell? ⟨q, 2, none⟩ = some (.slice A' n' c') := (hS.1 q 2 hq).trans l2
    have HB := Lib.hid hB
    have HRa := Lib.hid (HR.out.below hB (Nat.le_refl _))
    have HRa' := Lib.hid (HR'.out.below hB (Nat.le_refl _))
    have hpa : p < wa.heap.size := Nat.lt_of_lt_of_le hp hB.size
    have hqa : q < wa.heap.size := Nat.lt_of_lt_of_le hq hB.size
    clear hS hB OL k0 k1 k2 l0 l1 l2 HN HR HR' hp hq
    by_cases h0 : v = 0
    · subst h0
      have HE : Hid (cmpP W H n f W' H' n' f' = cmpR n f n' f') := Lib.hid (by rw [HC.out, HV.out, if_pos rfl])
      go_wp2
      go_quiet ((go_at_call 118; exact quiet_drew (spec_numbers _ A A' n n' c c' f f' (HRa.out.below (drewB _ _) (Nat.le_refl _)) (HRa'.out.below (drewB _ _) (Nat.le_refl _)))))
      go_wp2
      go_ret
      exact ⟨ret_int HE.out.symm, below_drewN HB.out _⟩
    · have HE : Hid (cmpP W H n f W' H' n' f' = v) := Lib.hid (by rw [HC.out, HV.out, if_neg h0])
      have hb : (v != 0) = true := bne_iff_ne.2 h0
      go_wp2
      go_ret
      exact ⟨ret_int HE.out.symm, HB.out⟩
theorem spec_ComparePanels (w : World) (W H W' H' : Int) (A A' : Option Addr) (n c n' c' : Nat) (f f' : Nat → Int) (hr : Row .i64 w A n c f) (hr' : Row .i64 w A' n' c' f') (wW : (Lit.int .i64 W).wf = true) (wH : (Lit.int .i64 H).wf = true) (wW' : (Lit.int .i64 W').wf = true) (wH' : (Lit.int .i64 H').wf = true) :
    Calls Tryd.prog 42 #[.agg #[.int .i64 W, .int .i64 H, .slice A n c], .agg #[.int .i64 W', .int .i64 H', .slice A' n' c']] w (Gives (.int .i64 (cmpP W H n f W' H' n' f')) w) := by
  have HR := Lib.hid hr
  have HR' := Lib.hid hr'
  clear hr hr'
  have hbel : Below w.heap.size w ((w.alloc (.cells #[.int .i64 W, .int .i64 H, .slice A n c] 26)).alloc (.cells #[.int .i64 W', .int .i64 H', .slice A' n' c'] 26)) := by go_grown
  have HL := Lib.hid hbel
  have HX := Lib.hid (box_two w 26 W H W' H' A A' n c n' c')
  clear hbel
  go_enter Tryd.func42, Tryd.ntmps42
  go_wp2_with fail
  refine (spec_compare _ _ _ W H W' H' A A' n c n' c' f f' HX.out.1 HX.out.2 (HR.out.below HL.out (Nat.le_refl _)) (HR'.out.below HL.out (Nat.le_refl _)) wW wH wW' wH').mono ?_
  rintro e w1 ⟨rfl, b1⟩
  go_wp2
  go_ret
  exact ⟨rfl, HL.out.trans (b1.mono (by simp; omega))⟩
/-- the first of three numbers that is not 0 -/
def orI (x y z : Int) : Int := if x = 0 then (if y = 0 then z else y) else x
theorem cmpP_bd (W H : Int) (n : Nat) (f : Nat → Int) (W' H' : Int) (n' : Nat) (f' : Nat → Int) : -1 ≤ cmpP W H n f W' H' n' f' ∧ cmpP W H n f W' H' n' f' ≤ 1 := by
  have hs : ∀ a b, -1 ≤ sgnI a b ∧ sgnI a b ≤ 1 := fun a b => by
    rcases sgn_cases a b with ⟨-, e⟩ | ⟨-, e⟩ | ⟨-, e⟩ <;> rw [e] <;> omega
  have hk : ∀ k i, -1 ≤ cmpK f f' i k ∧ cmpK f f' i k ≤ 1 := by
    intro k
    induction k with
    | zero => intro i; exact ⟨by show -1 ≤ (0 : Int); omega, by show (0 : Int) ≤ 1; omega⟩
    | succ k ih =>
      intro i
      unfold cmpK
      split
      · exact ih (i + 1)
      · exact hs _ _
  unfold cmpP cmpR
  repeat' split
  all_goals first | exact hs _ _ | exact hk _ _
theorem cmpP_or (W H : Int) (n : Nat) (f : Nat → Int) (W' H' : Int) (n' : Nat) (f' : Nat → Int) : cmpP W H n f W' H' n' f' = orI (sgnI W W') (sgnI H H') (cmpR n f n' f') := rfl
theorem lib_or3 (w : World) (b : Nat) (x y z : Int) (h0 : w.cell? ⟨b, 0, none⟩ = some (.int .i64 x)) (h1 : w.cell? ⟨b, 1, none⟩ = some (.int .i64 y)) (h2 : w.cell? ⟨b, 2, none⟩ = some (.int .i64 z)) :
    Calls Tryd.prog 107 #[.slice (some ⟨b, 0, none⟩) 3 3] w fun e w' => e = .returned (.int .i64 (orI x y z)) ∧ w = w' := by
  have hb := World.block_lt_of_cell? _ _ h0
  by_cases hx : x = 0
  · subst hx
    by_cases hy : y = 0
    · subst hy
      have e : orI 0 0 z = z := rfl
      rw [e]
      clear e
      by_cases hz : z = 0
      · subst hz
        go_enter Tryd.func107, Tryd.ntmps107
        go_wp2
        go_loop [8] (fun i => ∃ k : Nat, k ≤ 3 ∧ i = .int .i64 k) (fun i => 3 - (intOf i).toNat)
        case atStart => exact ⟨0, Nat.zero_le _, rfl⟩
        case round =>
          obtain ⟨k, hk, rfl⟩ := hrel
          have hk4 : k = 0 ∨ k = 1 ∨ k = 2 ∨ k = 3 := by omega
          rcases hk4 with rfl | rfl | rfl | rfl
          · go_wp2
            go_round
            case rel => exact ⟨1, by omega, rfl⟩
            case measure => simp [intOf]
          · go_wp2
            go_round
            case rel => exact ⟨2, by omega, rfl⟩
            case measure => simp [intOf]
          · go_wp2
            go_round
            case rel => exact ⟨3, by omega, rfl⟩
            case measure => simp [intOf]
          · go_wp2
            go_ret
            exact ⟨rfl, rfl⟩
      · have hb3 : (z != 0) = true := bne_iff_ne.2 hz
        clear hz
        go_enter Tryd.func107, Tryd.ntmps107
        go_wp2
        go_loop [8] (fun i => ∃ k : Nat, k ≤ 2 ∧ i = .int .i64 k) (fun i => 3 - (intOf i).toNat)
        case atStart => exact ⟨0, Nat.zero_le _, rfl⟩
        case round =>
          obtain ⟨k, hk, rfl⟩ := hrel
          have hk4 : k = 0 ∨ k = 1 ∨ k = 2 := by omega
          rcases hk4 with rfl | rfl | rfl
          · go_wp2
            go_round
            case rel => exact ⟨1, by omega, rfl⟩
            case measure => simp [intOf]
          · go_wp2
            go_round
            case rel => exact ⟨2, by omega, rfl⟩
            case measure => simp [intOf]
          · go_wp2
            go_ret
            exact ⟨rfl, rfl⟩
    · have e : orI 0 y z = y := by unfold orI; rw [if_pos rfl, if_neg hy]
      rw [e]
      have hb2 : (y != 0) = true := bne_iff_ne.2 hy
      clear e hy
      go_enter Tryd.func107, Tryd.ntmps107
      go_wp2
      go_loop [8] (fun i => ∃ k : Nat, k ≤ 1 ∧ i = .int .i64 k) (fun i => 3 - (intOf i).toNat)
      case atStart => exact ⟨0, Nat.zero_le _, rfl⟩
      case round =>
        obtain ⟨k, hk, rfl⟩ := hrel
        have hk4 : k = 0 ∨ k = 1 := by omega
        rcases hk4 with rfl | rfl
        · go_wp2
          go_round
          case rel => exact ⟨1, by omega, rfl⟩
          case measure => simp [intOf]
        · go_wp2
          go_ret
          exact ⟨rfl, rfl⟩
  · have e : orI x y z = x := by unfold orI; rw [if_neg hx]
    rw [e]
    have hb1 : (x != 0) = true := bne_iff_ne.2 hx
    clear e hx
    go_enter Tryd.func107, Tryd.ntmps107
    go_wp2
    go_loop [8] (fun i => i = .int .i64 0) (fun i => 3 - (intOf i).toNat)
    case atStart => rfl
    case round =>
      subst hrel
      go_wp2
      go_ret
      exact ⟨rfl, rfl⟩
set_option maxHeartbeats 4000000 in
theorem impl_cmp (w : World) (W H W' H' : Int) (A A' : Option Addr) (n c n' c' : Nat) (f f' : Nat → Int) (hr : Row .i64 w A n c f) (hr' : Row .i64 w A' n' c' f') :
    Calls Tryd.prog 70 #[.agg #[.int .i64 W, .int .i64 H, .slice A n c], .agg #[.int .i64 W', .int .i64 H', .slice A' n' c']] w (Gives (.int .i64 (cmpP W H n f W' H' n' f')) w) := by
  have HR := Lib.hid hr
  have HR' := Lib.hid hr'
  clear hr hr'
  have hbel : Below w.heap.size w ((w.alloc (.cells #[.int .i64 W, .int .i64 H, .slice A n c] 26)).alloc (.cells #[.int .i64 W', .int .i64 H', .slice A' n' c'] 26)).drew := by go_grown
  have hx := box_two w 26 W H W' H' A A' n c n' c'
  rw [cmpP_or]
  have HC1 := Lib.hid (fun w => lib_compare W W' w)
  have HC2 := Lib.hid (fun w => lib_compare H H' w)
  have HC3 : Hid (∀ w : World, Row .i64 w A n c f → Row .i64 w A' n' c' f' → Calls Tryd.prog 109 #[.slice A n c, .slice A' n' c'] w (Gives (.int .i64 (cmpR n f n' f')) w)) := Lib.hid (fun w h h' => (lib_compareRows w A A' n n' c c' f f' h h').mono fun _ _ h => drew_gives h)
  generalize sgnI W W' = s1 at *
  generalize sgnI H H' = s2 at *
  generalize cmpR n f n' f' = s3 at *
  have HL := Lib.hid hbel
  have HX := Lib.hid hx
  clear hbel hx
  go_enter Tryd.func70, Tryd.ntmps70
  go_wp2
  obtain ⟨⟨hp, k0, k1, k2⟩, ⟨hq, l0, l1, l2⟩⟩ := id HX.out
  have HB := Lib.hid (show Below w.heap.size w ((w.alloc (.cells #[.int .i64 W, .int .i64 H, .slice A n c] 26)).alloc (.cells #[.int .i64 W', .int .i64 H', .slice A' n' c'] 26)) from ((Below.refl _ _).alloc (Nat.le_refl _) _).alloc (by simp) _)
  have HR2 := Lib.hid (HR.out.below HB.out (Nat.le_refl _))
  have HR2' := Lib.hid (HR'.out.below HB.out (Nat.le_refl _))
  clear HL HX HR HR'
  generalize ((w.alloc (.cells #[.int .i64 W, .int .i64 H, .slice A n c] 26)).alloc (.cells #[.int .i64 W', .int .i64 H', .slice A' n' c'] 26)) = w2 at *
  have OL := Lib.hid (Old.mk_ (Below.refl w2.heap.size w2).drew)
  go_region_held3 (fun w' => (∀ b o, b < (w2).heap.size → w'.cell? ⟨b, o, none⟩ = (w2).cell? ⟨b, o, none⟩) ∧ Below (w2).heap.size (w2) w') (first | assumption | exact OL.out | exact Old.trans (by assumption) (by assumption) | exact Old.trans (by assumption) ((Below.refl _ _).alloc (Nat.le_refl _) _))
    (first
      | (go_at_call 108; (with_reducible refine (HC1.out _).mono ?_); rintro e wa ⟨rfl, rfl⟩)
      | (go_at_call 108; (with_reducible refine (HC2.out _).mono ?_); rintro e wa ⟨rfl, rfl⟩)
      | (go_at_call 109; refine (HC3.out _ ?_ ?_).mono ?_; exact HR2.out.old (by assumption); exact HR2'.out.old (by assumption); rintro e wb ⟨rfl, bb⟩)
      | (go_at_call 107; refine (lib_or3 _ _ s1 s2 s3 (by simp [go_sem]) (by simp [go_sem]) (by simp [go_sem])).mono ?_; rintro e wc ⟨rfl, rfl⟩))
  all_goals
    rename_i hS
    have hB := hS.2
    clear hS
    go_wp2
    go_ret
    exact ⟨rfl, HB.out.trans (hB.mono HB.out.size)⟩
theorem impl_ComparePanels (w : World) (W H W' H' : Int) (A A' : Option Addr) (n c n' c' : Nat) (f f' : Nat → Int) (hr : Row .i64 w A n c f) (hr' : Row .i64 w A' n' c' f') :
    Calls Tryd.prog 41 #[.agg #[.int .i64 W, .int .i64 H, .slice A n c], .agg #[.int .i64 W', .int .i64 H', .slice A' n' c']] w (Gives (.int .i64 (cmpP W H n f W' H' n' f')) w) := by
  have HC := Lib.hid (fun w h h' => impl_cmp w W H W' H' A A' n c n' c' f f' h h')
  have HR := Lib.hid hr
  have HR' := Lib.hid hr'
  have hbd : -1 ≤ cmpP W H n f W' H' n' f' ∧ cmpP W H n f W' H' n' f' ≤ 1 := cmpP_bd W H n f W' H' n' f'
  generalize cmpP W H n f W' H' n' f' = v at *
  clear hr hr'
  go_enter Tryd.func41, Tryd.ntmps41
  go_wp2_with fail
  refine (HC.out _ ?_ ?_).mono ?_
  · first | exact HR.out | exact HR.out.below (by go_grown) (Nat.le_refl _)
  · first | exact HR'.out | exact HR'.out.below (by go_grown) (Nat.le_refl _)
  rintro e w1 ⟨rfl, b1⟩
  go_wp2
  go_ret
  first | exact ⟨rfl, b1⟩ | exact ⟨rfl, (show Below w.heap.size w _ from by go_grown).trans (b1.mono (by simp; omega))⟩
end Go.Proofs.YtdofeonkgaceeaaDoor.Base
