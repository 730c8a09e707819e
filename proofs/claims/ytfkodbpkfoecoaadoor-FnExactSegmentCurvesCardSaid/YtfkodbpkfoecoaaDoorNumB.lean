/-
  NumberOf, spec's and the program's.
-/
import Derived.Test.YtfkodbpkfoecoaaDoorNum
namespace Go.Proofs.YtfkodbpkfoecoaaDoor.Base
open Go.RowKit
set_option linter.unusedVariables false

/-- the code of a panel and an inner point -/
def codeP (W H : Int) (n : Nat) (f : Nat → Int) (x y : Int) : Int := if validB W H n f then (if hasB W H x y then (if edgeB W H x y then 6 else 0) else 2) else 1
def numP (W H : Int) (n : Nat) (f : Nat → Int) (x y : Int) : Int := if codeP W H n f x y = 0 then numN W x y else 0
theorem code_1 {W H : Int} {n : Nat} {f : Nat → Int} {x y : Int} (h : validB W H n f = false) : codeP W H n f x y = 1 ∧ numP W H n f x y = 0 := by simp [numP, codeP, h]
theorem code_2 {W H : Int} {n : Nat} {f : Nat → Int} {x y : Int} (h : validB W H n f = true) (h2 : hasB W H x y = false) : codeP W H n f x y = 2 ∧ numP W H n f x y = 0 := by simp [numP, codeP, h, h2]
theorem code_6 {W H : Int} {n : Nat} {f : Nat → Int} {x y : Int} (h : validB W H n f = true) (h2 : hasB W H x y = true) (h3 : edgeB W H x y = true) : codeP W H n f x y = 6 ∧ numP W H n f x y = 0 := by simp [numP, codeP, h, h2, h3]
theorem code_0 {W H : Int} {n : Nat} {f : Nat → Int} {x y : Int} (h : validB W H n f = true) (h2 : hasB W H x y = true) (h3 : edgeB W H x y = false) : codeP W H n f x y = 0 ∧ numP W H n f x y = numN W x y := by simp [numP, codeP, h, h2, h3]
theorem edge_no {W H x y : Int} (h : edgeB W H x y = false) : x ≠ 0 ∧ y ≠ 0 ∧ x ≠ 2 * W ∧ y ≠ 2 * H := by
  simp [edgeB] at h; exact h
theorem inside {W H x y : Int} (hW : sideB W = true) (hH : sideB H = true) (h2 : hasB W H x y = true) (h3 : edgeB W H x y = false) : 1 ≤ x ∧ x ≤ 16 ∧ 1 ≤ y ∧ y ≤ 16 := by
  obtain ⟨a1, a2⟩ := side_mk hW
  obtain ⟨b1, b2⟩ := side_mk hH
  obtain ⟨x1, x2, y1, y2, _⟩ := has_yes h2
  obtain ⟨e1, e2, e3, e4⟩ := edge_no h3
  omega

theorem rowN_mono {W : Int} (a1 : 1 ≤ W) (k : Int) (hk : 1 ≤ k) (d : Nat) : rowN W k ≤ rowN W (k + d) := by
  induction d with
  | zero => simp
  | succ d ih =>
    have := rowN_succ W (k + d) (by omega)
    rw [show k + ((d + 1 : Nat) : Int) = k + (d : Int) + 1 by omega, this]
    split <;> omega
theorem rowN_end (W H : Int) : rowN W (2 * H) = inner W H := by
  unfold rowN inner
  have e1 : (2 * H - 1) * W = H * W + H * W - W := by rw [Int.sub_mul, Int.one_mul, Int.mul_assoc]; omega
  have e2 : W * (H - 1) = H * W - W := by rw [Int.mul_sub, Int.mul_one, Int.mul_comm]
  have e3 : H * (W - 1) = H * W - H := by rw [Int.mul_sub, Int.mul_one]
  omega
theorem num_lt {W H x y : Int} (hW : sideB W = true) (hH : sideB H = true) (h2 : hasB W H x y = true) (h3 : edgeB W H x y = false) : 0 ≤ numN W x y ∧ numN W x y < inner W H := by
  obtain ⟨a1, a2⟩ := side_mk hW
  obtain ⟨b1, b2⟩ := side_mk hH
  obtain ⟨x1, x2, y1, y2, hp⟩ := has_yes h2
  obtain ⟨e1, e2, e3, e4⟩ := edge_no h3
  refine ⟨(numN_bd (H := H) a1 a2 (by omega) (by omega) (by omega) (by omega)).1, ?_⟩
  have hs := rowN_succ W y (by omega)
  have hm := rowN_mono a1 (y + 1) (by omega) (2 * H - (y + 1)).toNat
  rw [show y + 1 + ((2 * H - (y + 1)).toNat : Int) = 2 * H by omega, rowN_end] at hm
  unfold numN
  split at hs <;> omega

theorem keep5d' {w w1 : World} {p q r p' q' : Addr} {u v x u' v' : Value} (h : w1.cell? p = some u ∧ w1.cell? q = some v ∧ w1.cell? r = some x ∧ w1.cell? p' = some u' ∧ w1.cell? q' = some v' ∧ Below w.heap.size w w1) :
    w1.drew.cell? p = some u ∧ w1.drew.cell? q = some v ∧ w1.drew.cell? r = some x ∧ w1.drew.cell? p' = some u' ∧ w1.drew.cell? q' = some v' ∧ Below w.heap.size w w1.drew := ⟨h.1, h.2.1, h.2.2.1, h.2.2.2.1, h.2.2.2.2.1, h.2.2.2.2.2.drew⟩

theorem impl_numberOf (w : World) (W H : Int) (A : Option Addr) (n c : Nat) (f : Nat → Int) (x y : Int) (hr : Row .i64 w A n c f) :
    Calls Tryd.prog 98 #[.agg #[.int .i64 W, .int .i64 H, .slice A n c], .agg #[.int .i64 x, .int .i64 y]] w (Gives (.tuple #[.int .i64 (numP W H n f x y), .int .i64 (codeP W H n f x y)]) w) := by
  have HR := Lib.hid hr
  clear hr
  have hbel : Below w.heap.size w ((w.alloc (.cells #[.int .i64 W, .int .i64 H, .slice A n c] 26)).alloc (.cells #[.int .i64 x, .int .i64 y] 28)) := by go_grown
  have HL := Lib.hid hbel
  have HX := Lib.hid (two_boxes w 26 28 W H A n c x y)
  have D0 := Dot.new (w.alloc (.cells #[.int .i64 W, .int .i64 H, .slice A n c] 26)) 28 x y
  simp only [World.size_alloc] at D0
  have HD := Lib.hid D0
  clear hbel D0
  cases hv : validB W H n f
  · rw [(code_1 hv).1, (code_1 hv).2]
    have HV := Lib.hid hv
    clear hv
    go_enter Tryd.func98, Tryd.ntmps98
    go_wp2_with fail
    refine (implOk_is HV.out (HR.out.below HL.out (Nat.le_refl _))).mono ?_
    rintro e w1 ⟨rfl, b1⟩
    go_wp2
    go_ret2
    exact ⟨rfl, HL.out.trans (b1.mono (by simp; omega))⟩
  · obtain ⟨hW, hH, -, -⟩ := validB_yes hv
    have HV := Lib.hid hv
    cases hh : hasB W H x y
    · rw [(code_2 hv hh).1, (code_2 hv hh).2]
      have HH := Lib.hid hh
      clear hv hh
      go_enter Tryd.func98, Tryd.ntmps98
      go_wp2_with fail
      refine (implOk_is HV.out (HR.out.below HL.out (Nat.le_refl _))).mono ?_
      rintro e w1 ⟨rfl, b1⟩
      have ST := Lib.hid (keep5d (HX.out.below b1 HX.out.1) (HD.out.below b1 HD.out.1) (HL.out.trans (b1.mono (by simp; omega))))
      clear b1
      go_wp2
      go_region_held3 (fun w' => w'.cell? ⟨w.heap.size, 0, none⟩ = some (.int .i64 W) ∧ w'.cell? ⟨w.heap.size, 1, none⟩ = some (.int .i64 H) ∧ w'.cell? ⟨w.heap.size, 2, none⟩ = some (.slice A n c) ∧
          w'.cell? ⟨w.heap.size + 1, 0, none⟩ = some (.int .i64 x) ∧ w'.cell? ⟨w.heap.size + 1, 1, none⟩ = some (.int .i64 y) ∧ Below w.heap.size w w')
          (first | exact ST.out | exact keep5 (by assumption) (by assumption))
          (first | (go_at_call 87; refine (sizeOf_any _ W H A n c).mono ?_; rintro e wa ⟨rfl, ba⟩) | (go_at_call 119; refine (hasPoint_is HH.out hW hH).mono ?_; rintro e wb ⟨rfl, bb⟩))
      rename_i hS
      have ST1 := Lib.hid (keep5d' hS)
      obtain ⟨k0, k1, k2, k3, k4, hB⟩ := hS
      go_wp2
      go_ret2
      exact ⟨rfl, hB⟩
    · cases he : edgeB W H x y
      · rw [(code_0 hv hh he).1, (code_0 hv hh he).2]
        obtain ⟨x1, x2, y1, y2⟩ := inside hW hH hh he
        have HH := Lib.hid hh
        have HE := Lib.hid he
        clear hv hh he
        go_enter Tryd.func98, Tryd.ntmps98
        go_wp2_with fail
        refine (implOk_is HV.out (HR.out.below HL.out (Nat.le_refl _))).mono ?_
        rintro e w1 ⟨rfl, b1⟩
        have ST := Lib.hid (keep5d (HX.out.below b1 HX.out.1) (HD.out.below b1 HD.out.1) (HL.out.trans (b1.mono (by simp; omega))))
        clear b1
        go_wp2
        go_region_held3 (fun w' => w'.cell? ⟨w.heap.size, 0, none⟩ = some (.int .i64 W) ∧ w'.cell? ⟨w.heap.size, 1, none⟩ = some (.int .i64 H) ∧ w'.cell? ⟨w.heap.size, 2, none⟩ = some (.slice A n c) ∧
            w'.cell? ⟨w.heap.size + 1, 0, none⟩ = some (.int .i64 x) ∧ w'.cell? ⟨w.heap.size + 1, 1, none⟩ = some (.int .i64 y) ∧ Below w.heap.size w w')
            (first | exact ST.out | exact keep5 (by assumption) (by assumption))
            (first | (go_at_call 87; refine (sizeOf_any _ W H A n c).mono ?_; rintro e wa ⟨rfl, ba⟩) | (go_at_call 119; refine (hasPoint_is HH.out hW hH).mono ?_; rintro e wb ⟨rfl, bb⟩))
        rename_i hS
        have ST1 := Lib.hid (keep5d' hS)
        obtain ⟨k0, k1, k2, k3, k4, hB⟩ := hS
        go_wp2
        clear k0 k1 k2 k3 k4
        go_region_held3 (fun w' => w'.cell? ⟨w.heap.size, 0, none⟩ = some (.int .i64 W) ∧ w'.cell? ⟨w.heap.size, 1, none⟩ = some (.int .i64 H) ∧ w'.cell? ⟨w.heap.size, 2, none⟩ = some (.slice A n c) ∧
            w'.cell? ⟨w.heap.size + 1, 0, none⟩ = some (.int .i64 x) ∧ w'.cell? ⟨w.heap.size + 1, 1, none⟩ = some (.int .i64 y) ∧ Below w.heap.size w w')
            (first | exact ST1.out | exact keep5 (by assumption) (by assumption))
            (first | (go_at_call 87; refine (sizeOf_any _ W H A n c).mono ?_; rintro e wa ⟨rfl, ba⟩) | (go_at_call 88; refine (onBorder_is HE.out hW hH).mono ?_; rintro e wb ⟨rfl, bb⟩))
        rename_i hS
        have ST2 := Lib.hid (keep5d' hS)
        obtain ⟨k0, k1, k2, k3, k4, hB⟩ := hS
        go_wp2
        clear k0 k1 k2 k3 k4
        go_region_held3 (fun w' => w'.cell? ⟨w.heap.size, 0, none⟩ = some (.int .i64 W) ∧ w'.cell? ⟨w.heap.size, 1, none⟩ = some (.int .i64 H) ∧ w'.cell? ⟨w.heap.size, 2, none⟩ = some (.slice A n c) ∧
            w'.cell? ⟨w.heap.size + 1, 0, none⟩ = some (.int .i64 x) ∧ w'.cell? ⟨w.heap.size + 1, 1, none⟩ = some (.int .i64 y) ∧ Below w.heap.size w w')
            (first | exact ST2.out | exact keep5 (by assumption) (by assumption))
            (first | (go_at_call 87; refine (sizeOf_any _ W H A n c).mono ?_; rintro e wa ⟨rfl, ba⟩) | (go_at_call 120; refine (numberOf_any _ W H x y hW x1 x2 y1 y2).mono ?_; rintro e wb ⟨rfl, bb⟩))
        rename_i hS
        have ST3 := Lib.hid (keep5d' hS)
        obtain ⟨k0, k1, k2, k3, k4, hB⟩ := hS
        go_wp2
        go_ret2
        exact ⟨rfl, hB⟩
      · rw [(code_6 hv hh he).1, (code_6 hv hh he).2]
        have HH := Lib.hid hh
        have HE := Lib.hid he
        clear hv hh he
        go_enter Tryd.func98, Tryd.ntmps98
        go_wp2_with fail
        refine (implOk_is HV.out (HR.out.below HL.out (Nat.le_refl _))).mono ?_
        rintro e w1 ⟨rfl, b1⟩
        have ST := Lib.hid (keep5d (HX.out.below b1 HX.out.1) (HD.out.below b1 HD.out.1) (HL.out.trans (b1.mono (by simp; omega))))
        clear b1
        go_wp2
        go_region_held3 (fun w' => w'.cell? ⟨w.heap.size, 0, none⟩ = some (.int .i64 W) ∧ w'.cell? ⟨w.heap.size, 1, none⟩ = some (.int .i64 H) ∧ w'.cell? ⟨w.heap.size, 2, none⟩ = some (.slice A n c) ∧
            w'.cell? ⟨w.heap.size + 1, 0, none⟩ = some (.int .i64 x) ∧ w'.cell? ⟨w.heap.size + 1, 1, none⟩ = some (.int .i64 y) ∧ Below w.heap.size w w')
            (first | exact ST.out | exact keep5 (by assumption) (by assumption))
            (first | (go_at_call 87; refine (sizeOf_any _ W H A n c).mono ?_; rintro e wa ⟨rfl, ba⟩) | (go_at_call 119; refine (hasPoint_is HH.out hW hH).mono ?_; rintro e wb ⟨rfl, bb⟩))
        rename_i hS
        have ST1 := Lib.hid (keep5d' hS)
        obtain ⟨k0, k1, k2, k3, k4, hB⟩ := hS
        go_wp2
        clear k0 k1 k2 k3 k4
        go_region_held3 (fun w' => w'.cell? ⟨w.heap.size, 0, none⟩ = some (.int .i64 W) ∧ w'.cell? ⟨w.heap.size, 1, none⟩ = some (.int .i64 H) ∧ w'.cell? ⟨w.heap.size, 2, none⟩ = some (.slice A n c) ∧
            w'.cell? ⟨w.heap.size + 1, 0, none⟩ = some (.int .i64 x) ∧ w'.cell? ⟨w.heap.size + 1, 1, none⟩ = some (.int .i64 y) ∧ Below w.heap.size w w')
            (first | exact ST1.out | exact keep5 (by assumption) (by assumption))
            (first | (go_at_call 87; refine (sizeOf_any _ W H A n c).mono ?_; rintro e wa ⟨rfl, ba⟩) | (go_at_call 88; refine (onBorder_is HE.out hW hH).mono ?_; rintro e wb ⟨rfl, bb⟩))
        rename_i hS
        have ST2 := Lib.hid (keep5d' hS)
        obtain ⟨k0, k1, k2, k3, k4, hB⟩ := hS
        go_wp2
        go_ret2
        exact ⟨rfl, hB⟩
end Go.Proofs.YtfkodbpkfoecoaaDoor.Base
