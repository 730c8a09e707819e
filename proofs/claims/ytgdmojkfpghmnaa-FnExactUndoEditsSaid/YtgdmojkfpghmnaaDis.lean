/-
  The number of inner points at which two panels differ: the specification's DistanceOf, the program's.
-/
import Derived.Test.YtgdmojkfpghmnaaSame
import Derived.Test.YtgdmojkfpghmnaaPan
import Derived.BigQuiet
namespace Go.Proofs.Ytgdmojkfpghmnaa.Base
open Go Go.RowKit
set_option linter.unusedVariables false
set_option linter.unusedSimpArgs false

/-- of the first k points, at how many two rows differ -/
def difN (f f' : Nat → Int) : Nat → Nat
  | 0 => 0
  | k + 1 => difN f f' k + (if f k = f' k then 0 else 1)
theorem difN_le (f f' : Nat → Int) : ∀ k, difN f f' k ≤ k
  | 0 => Nat.le_refl _
  | k + 1 => by
    have := difN_le f f' k
    show difN f f' k + (if f k = f' k then 0 else 1) ≤ k + 1
    split <;> omega
theorem dif_same {f f' : Nat → Int} {k : Nat} (h : f k = f' k) : difN f f' (k + 1) = difN f f' k := by
  show difN f f' k + (if f k = f' k then 0 else 1) = _
  rw [if_pos h]; rfl
theorem dif_other {f f' : Nat → Int} {k : Nat} (h : f k ≠ f' k) : difN f f' (k + 1) = difN f f' k + 1 := by
  show difN f f' k + (if f k = f' k then 0 else 1) = _
  rw [if_neg h]
def dsC (W H : Int) (n : Nat) (f : Nat → Int) (W' H' : Int) (n' : Nat) (f' : Nat → Int) : Int := if validB W H n f && validB W' H' n' f' then (if W = W' ∧ H = H' then 0 else 6) else 1
def dsV (W H : Int) (n : Nat) (f : Nat → Int) (W' H' : Int) (n' : Nat) (f' : Nat → Int) : Int := if dsC W H n f W' H' n' f' = 0 then difN f f' n else 0
theorem ds_bad {W H W' H' : Int} {n n' : Nat} {f f' : Nat → Int} (h : (validB W H n f && validB W' H' n' f') = false) : dsC W H n f W' H' n' f' = 1 ∧ dsV W H n f W' H' n' f' = 0 := by simp [dsV, dsC, h]
theorem ds_size {W H W' H' : Int} {n n' : Nat} {f f' : Nat → Int} (h1 : validB W H n f = true) (h2 : validB W' H' n' f' = true) (h : ¬ (W = W' ∧ H = H')) : dsC W H n f W' H' n' f' = 6 ∧ dsV W H n f W' H' n' f' = 0 := by simp [dsV, dsC, h1, h2, h]
theorem ds_ok {W H : Int} {n n' : Nat} {f f' : Nat → Int} (h1 : validB W H n f = true) (h2 : validB W H n' f' = true) : dsC W H n f W H n' f' = 0 ∧ dsV W H n f W H n' f' = difN f f' n := by simp [dsV, dsC, h1, h2]
set_option maxHeartbeats 2000000 in
theorem impl_distance (w : World) (W H W' H' : Int) (A A' : Option Addr) (n c n' c' : Nat) (f f' : Nat → Int) (hr : Row .i64 w A n c f) (hr' : Row .i64 w A' n' c' f') :
    Calls Try.prog 41 #[.agg #[.int .i64 W, .int .i64 H, .slice A n c], .agg #[.int .i64 W', .int .i64 H', .slice A' n' c']] w (Gives (.tuple #[.int .i64 (dsV W H n f W' H' n' f'), .int .i64 (dsC W H n f W' H' n' f')]) w) := by
  have hbel : Below w.heap.size w ((w.alloc (.cells #[.int .i64 W, .int .i64 H, .slice A n c] 29)).alloc (.cells #[.int .i64 W', .int .i64 H', .slice A' n' c'] 29)) := by go_grown
  have hx := box_two w 29 W H W' H' A A' n c n' c'
  have HR := Lib.hid (hr.below hbel (Nat.le_refl _))
  have HR' := Lib.hid (hr'.below hbel (Nat.le_refl _))
  have HX := Lib.hid hx.1
  have HY := Lib.hid hx.2
  have HL := Lib.hid hbel
  have hcm := hr.2.1
  have hnc := hr.1
  unfold maxLen at hcm
  clear hr hr' hbel hx
  cases hv : validB W H n f
  · obtain ⟨e1, e2⟩ := ds_bad (W := W) (H := H) (W' := W') (H' := H') (n := n) (n' := n') (f := f) (f' := f') (by rw [hv]; rfl)
    rw [e1, e2]
    have HV := Lib.hid hv
    clear e1 e2 hv
    go_enter Try.func41, Try.ntmps41
    go_wp2_with fail
    refine (implOk_is HV.out HR.out).mono ?_
    rintro e w1 ⟨rfl, b1⟩
    go_wp2
    go_ret2
    exact ⟨rfl, HL.out.trans (b1.mono HL.out.size)⟩
  · cases hv' : validB W' H' n' f'
    · obtain ⟨e1, e2⟩ := ds_bad (W := W) (H := H) (W' := W') (H' := H') (n := n) (n' := n') (f := f) (f' := f') (by rw [hv, hv']; rfl)
      rw [e1, e2]
      have HV := Lib.hid hv
      have HV' := Lib.hid hv'
      clear e1 e2 hv hv'
      go_enter Try.func41, Try.ntmps41
      go_wp2_with fail
      refine (implOk_is HV.out HR.out).mono ?_
      rintro e w1 ⟨rfl, b1⟩
      have HR1 := Lib.hid (HR'.out.below b1 (Nat.le_refl _))
      have HB1 := Lib.hid (HL.out.trans (b1.mono HL.out.size))
      obtain ⟨hq, l0, l1, l2⟩ := HY.out.below b1 HY.out.1
      clear b1
      go_wp2_with fail
      refine (implOk_is HV'.out HR1.out).mono ?_
      rintro e w2 ⟨rfl, b2⟩
      go_wp2
      go_ret2
      exact ⟨rfl, HB1.out.trans (b2.mono HB1.out.size)⟩
    · have HV := Lib.hid hv
      have HV' := Lib.hid hv'
      have hnn : (n : Int) = inner W H := (validB_yes hv).2.2.1
      have hnn' : (n' : Int) = inner W' H' := (validB_yes hv').2.2.1
      by_cases hs : W = W' ∧ H = H'
      · obtain ⟨rfl, rfl⟩ := hs
        obtain rfl : n = n' := by omega
        obtain ⟨e1, e2⟩ := ds_ok hv hv'
        rw [e1, e2]
        clear e1 e2 hv hv' hnn hnn'
        go_enter Try.func41, Try.ntmps41
        go_wp2_with fail
        refine (implOk_is HV.out HR.out).mono ?_
        rintro e w1 ⟨rfl, b1⟩
        have HR1 := Lib.hid (HR.out.below b1 (Nat.le_refl _))
        have HR1' := Lib.hid (HR'.out.below b1 (Nat.le_refl _))
        have HX1 := Lib.hid (HX.out.below b1 HX.out.1)
        have HY1 := Lib.hid (HY.out.below b1 HY.out.1)
        have HB1 := Lib.hid (HL.out.trans (b1.mono HL.out.size))
        obtain ⟨hq, l0, l1, l2⟩ := id HY1.out
        clear b1
        go_wp2_with fail
        refine (implOk_is HV'.out HR1'.out).mono ?_
        rintro e w2 ⟨rfl, b2⟩
        have HR2 := Lib.hid (HR1.out.below b2 (Nat.le_refl _))
        have HR2' := Lib.hid (HR1'.out.below b2 (Nat.le_refl _))
        have HX2 := Lib.hid (HX1.out.below b2 HX1.out.1)
        have HY2 := Lib.hid (HY1.out.below b2 HY1.out.1)
        have HL2 := Lib.hid (HB1.out.trans (b2.mono HB1.out.size))
        clear b2 hq l0 l1 l2 HR1 HR1' HX1 HY1 HB1 HR HR' HX HY HL
        have ST := Lib.hid (keep6d HX2.out HY2.out (Below.refl w2.heap.size w2))
        obtain ⟨hp, k0, k1, k2⟩ := id HX2.out
        obtain ⟨hq, l0, l1, l2⟩ := id HY2.out
        have h1b : (W == W) = true := beq_self_eq_true _
        have h2b : (H == H) = true := beq_self_eq_true _
        go_wp2_with fail
        go_region_held3 (fun w' => w'.cell? ⟨w.heap.size, 0, none⟩ = some (.int .i64 W) ∧ w'.cell? ⟨w.heap.size, 1, none⟩ = some (.int .i64 H) ∧ w'.cell? ⟨w.heap.size, 2, none⟩ = some (.slice A n c) ∧
            w'.cell? ⟨w.heap.size + 1, 0, none⟩ = some (.int .i64 W) ∧ w'.cell? ⟨w.heap.size + 1, 1, none⟩ = some (.int .i64 H) ∧ w'.cell? ⟨w.heap.size + 1, 2, none⟩ = some (.slice A' n c') ∧ Below w2.heap.size w2 w')
          (first | exact ST.out | exact keep6 (by assumption) (by assumption))
          (first | (go_at_call 31; refine (sizeOf_any _ _ _ _ _ _).mono ?_; rintro e wa ⟨rfl, ba⟩))
        all_goals
          rename_i hS
          have hB := hS.2.2.2.2.2.2
          clear hS ST k0 k1 k2 l0 l1 l2
          have HB3 := Lib.hid hB
          have HL3 := Lib.hid (HL2.out.trans (HB3.out.mono HL2.out.size))
          have HR3 := Lib.hid (HR2.out.below HB3.out (Nat.le_refl _))
          have HR3' := Lib.hid (HR2'.out.below HB3.out (Nat.le_refl _))
          have HX3 := Lib.hid (HX2.out.below HB3.out hp)
          have HY3 := Lib.hid (HY2.out.below HB3.out hq)
          clear hB HB3 HL2 HR2 HR2' HX2 HY2 hp hq
          obtain ⟨hp, k0, k1, k2⟩ := id HX3.out
          obtain ⟨hq, l0, l1, l2⟩ := id HY3.out
          go_wp2_with fail
          clear k0 k1 k2 l0 l1 l2
          go_loopw [6, 25] (fun s kv wr => ∃ k : Nat, k ≤ n ∧ kv = .int .i64 k ∧ s = .int .i64 (difN f f' k : Int) ∧ Hid (Below wa.heap.size wa wr)) (fun _ kv _ => n - (intOf kv).toNat)
          case atStart => exact ⟨0, Nat.zero_le _, rfl, rfl, Lib.hid (Below.refl _ _)⟩
          case round =>
            obtain ⟨k, hk, rfl, rfl, HB⟩ := hrel
            obtain ⟨hp', k0, k1, k2⟩ := HX3.out.below HB.out hp
            obtain ⟨hq', l0, l1, l2⟩ := HY3.out.below HB.out hq
            have hdl := difN_le f f' k
            by_cases hlt : k < n
            · obtain ⟨b, o, rfl, hbl, hc⟩ := (HR3.out.below HB.out (Nat.le_refl _)).2.2.2 (by omega)
              obtain ⟨b', o', rfl, hbl', hc'⟩ := (HR3'.out.below HB.out (Nat.le_refl _)).2.2.2 (by omega)
              have hck := hc k hlt
              have hck' := hc' k hlt
              clear hc hc'
              by_cases hd : f k = f' k
              · have hb : (f' k != f k) = false := by simp [hd]
                have HD := Lib.hid (dif_same hd)
                clear hd
                go_wp2_with fail
                go_roundw
                case rel => exact ⟨k + 1, by omega, by go_num, by rw [HD.out], HB⟩
                case measure => simp [intOf]; omega
              · have hb : (f' k != f k) = true := by simpa using fun h => hd h.symm
                have HD := Lib.hid (dif_other hd)
                clear hd
                go_wp2_with fail
                go_roundw
                case rel => exact ⟨k + 1, by omega, by go_num, by rw [HD.out]; first | rfl | go_num | (simp; done), HB⟩
                case measure => simp [intOf]; omega
            · obtain rfl : k = n := by omega
              go_wp2
              go_ret2
              exact ⟨rfl, HL3.out.trans (HB.out.mono HL3.out.size)⟩
      · obtain ⟨e1, e2⟩ := ds_size hv hv' hs
        rw [e1, e2]
        clear e1 e2 hv hv' hnn hnn'
        go_enter Try.func41, Try.ntmps41
        go_wp2_with fail
        refine (implOk_is HV.out HR.out).mono ?_
        rintro e w1 ⟨rfl, b1⟩
        have HR1' := Lib.hid (HR'.out.below b1 (Nat.le_refl _))
        have HX1 := Lib.hid (HX.out.below b1 HX.out.1)
        have HY1 := Lib.hid (HY.out.below b1 HY.out.1)
        have HB1 := Lib.hid (HL.out.trans (b1.mono HL.out.size))
        obtain ⟨hq, l0, l1, l2⟩ := id HY1.out
        clear b1
        go_wp2_with fail
        refine (implOk_is HV'.out HR1'.out).mono ?_
        rintro e w2 ⟨rfl, b2⟩
        have HX2 := Lib.hid (HX1.out.below b2 HX1.out.1)
        have HY2 := Lib.hid (HY1.out.below b2 HY1.out.1)
        have HL2 := Lib.hid (HB1.out.trans (b2.mono HB1.out.size))
        clear b2 hq l0 l1 l2 HR1' HX1 HY1 HB1 HR HR' HX HY HL
        have hst := keep6d HX2.out HY2.out (Below.refl w2.heap.size w2)
        obtain ⟨hp, k0, k1, k2⟩ := id HX2.out
        obtain ⟨hq, l0, l1, l2⟩ := id HY2.out
        by_cases hw : W = W'
        · have h1b : (W == W') = true := by simp [hw]
          have h2b : (H == H') = false := by simpa using fun h => hs ⟨hw, h⟩
          clear hw hs k0 k1 k2 l0 l1 l2
          go_wp2_with fail
          first | (go_region_with (go_at_call 31; refine (sizeOf_any _ _ _ _ _ _).mono ?_; rintro e wa ⟨rfl, ba⟩; have hst := keep6 (by assumption) ba)) | fail
          all_goals
            go_wp2
            go_ret2
            exact ⟨rfl, HL2.out.trans (hst.2.2.2.2.2.2.mono HL2.out.size)⟩
        · have h1b : (W == W') = false := by simpa using hw
          clear hw hs k0 k1 k2 l0 l1 l2
          go_wp2_with fail
          first | (go_region_with (go_at_call 31; refine (sizeOf_any _ _ _ _ _ _).mono ?_; rintro e wa ⟨rfl, ba⟩; have hst := keep6 (by assumption) ba)) | fail
          all_goals
            go_wp2
            go_ret2
            exact ⟨rfl, HL2.out.trans (hst.2.2.2.2.2.2.mono HL2.out.size)⟩
end Go.Proofs.Ytgdmojkfpghmnaa.Base
