/-
  PanelPicture: the program's.
-/
import Derived.Test.YtocnocchliihhaaPpc
import Derived.Test.YtocnocchliihhaaDwp
import Derived.Test.YtocnocchliihhaaPan
import Derived.Test.YtocnocchliihhaaNum
import Derived.Test.YtocnocchliihhaaShape
namespace Go.Proofs.Ytocnocchliihhaa.Base
open Go Go.RowKit
set_option linter.unusedVariables false
set_option linter.unusedSimpArgs false

theorem sgU_at (k : Int) (h : 0 ≤ k ∧ k ≤ 2) : (k = 0 ∧ sgU k = 43) ∨ (k = 1 ∧ sgU k = 124) ∨ (k = 2 ∧ sgU k = 45) := by
  rcases (show k = 0 ∨ k = 1 ∨ k = 2 by omega) with rfl | rfl | rfl <;> simp [sgU]
theorem kinds_at {n : Nat} {f : Nat → Int} (h : kindsB n f = true) {k : Nat} (hk : k < n) : 0 ≤ f k ∧ f k ≤ 2 := kinds_iff.1 h k hk
set_option maxHeartbeats 4000000 in
theorem signAt_is (w : World) (W H : Int) (A : Option Addr) (n c : Nat) (f : Nat → Int) (x y : Nat) (hr : Row .i64 w A n c f) (hv : validB W H n f = true) :
    Calls Try.prog 24 #[.agg #[.int .i64 W, .int .i64 H, .slice A n c], .agg #[.int .i64 (x : Int), .int .i64 (y : Int)]] w (Gives (.int .u8 ((pch W H f x y).toNat : Int)) w) := by
  obtain ⟨hW, hH, hn, hK⟩ := validB_yes hv
  obtain ⟨cv, hcv⟩ : ∃ cv : Int, ((pch W H f x y).toNat : Int) = cv := ⟨_, rfl⟩
  rw [hcv]
  have HCV := Lib.hid hcv
  clear hcv
  have HL := Lib.hid (show Below w.heap.size w ((w.alloc (.cells #[.int .i64 W, .int .i64 H, .slice A n c] 29)).alloc (.cells #[.int .i64 (x : Int), .int .i64 (y : Int)] 57)) from ((Below.refl _ _).alloc (Nat.le_refl _) _).alloc (by simp) _)
  have HR := Lib.hid hr
  have HV := Lib.hid hv
  have HWs := Lib.hid hW
  have HHs := Lib.hid hH
  have HP0 := Lib.hid ((Cel.new w [.int .i64 W, .int .i64 H, .slice A n c] 29).below ((Below.refl _ (w.alloc (.cells #[.int .i64 W, .int .i64 H, .slice A n c] 29))).alloc (Nat.le_refl _) (.cells #[.int .i64 (x : Int), .int .i64 (y : Int)] 57)) (by simp))
  have HD0 := Lib.hid (Cel.new (w.alloc (.cells #[.int .i64 W, .int .i64 H, .slice A n c] 29)) [.int .i64 (x : Int), .int .i64 (y : Int)] 57)
  clear hr hv hW hH
  go_enter Try.func24, Try.ntmps24
  go_wp2_with fail
  refine (sizeOf_any _ W H A n c).mono ?_
  rintro e w1 ⟨rfl, b1⟩
  have HP1 := Lib.hid (HP0.out.below b1 HP0.out.1)
  have HD1 := Lib.hid (HD0.out.below b1 HD0.out.1)
  have HB1 := Lib.hid (HL.out.trans (b1.mono (by simp; omega)))
  rw [World.size_alloc] at HD1
  clear b1 HP0 HD0 HL
  have hz1 := HB1.out.size
  have hd1 := HD1.out.1
  have bN := (Below.refl w1.heap.size w1).alloc (Nat.le_refl _) (.cells #[.int .i64 W, .int .i64 H] 45)
  have HS2 := Lib.hid (Cel.new w1 [.int .i64 W, .int .i64 H] 45)
  have HP2 := Lib.hid (HP1.out.below bN HP1.out.1)
  have HD2 := Lib.hid (HD1.out.below bN HD1.out.1)
  have HB2 := Lib.hid (HB1.out.trans (bN.mono hz1))
  clear bN HP1 HD1 HB1
  have k0 := HS2.out.2 0 _ rfl
  have k1 := HS2.out.2 1 _ rfl
  have d0 := HD2.out.2 0 _ rfl
  have d1 := HD2.out.2 1 _ rfl
  have kz := HS2.out.1
  have dz := HD2.out.1
  go_wp2_with fail
  generalize w1.alloc (.cells #[.int .i64 W, .int .i64 H] 45) = w2 at *
  generalize w1.heap.size = s at *
  have hB2 := HB2.out.size
  cases hh : hasB W H x y
  · have HC := Lib.hid (show pch W H f x y = 32 by simp [pch, hh])
    refine (hasPoint_is hh HWs.out HHs.out).mono ?_
    rintro e w3 ⟨rfl, b3⟩
    clear hh
    go_wp2
    go_ret
    exact ⟨by rw [← HCV.out, HC.out]; rfl, HB2.out.trans (b3.mono hB2)⟩
  · refine (hasPoint_is hh HWs.out HHs.out).mono ?_
    rintro e w3 ⟨rfl, b3⟩
    have HS3 := Lib.hid (HS2.out.below b3 HS2.out.1)
    have HD3 := Lib.hid (HD2.out.below b3 HD2.out.1)
    have HP3 := Lib.hid (HP2.out.below b3 HP2.out.1)
    have HB3 := Lib.hid (HB2.out.trans (b3.mono hB2))
    clear b3 k0 k1 d0 d1 kz dz HS2 HD2 HP2 HB2 hB2
    have k0 := HS3.out.2 0 _ rfl
    have k1 := HS3.out.2 1 _ rfl
    have d0 := HD3.out.2 0 _ rfl
    have d1 := HD3.out.2 1 _ rfl
    have kz := HS3.out.1
    have dz := HD3.out.1
    have hB3 := HB3.out.size
    have HH := Lib.hid hh
    clear hh
    cases he : edgeB W H x y
    · obtain ⟨x1, x2, y1, y2⟩ := inside HWs.out HHs.out HH.out he
      have hnl := num_lt HWs.out HHs.out HH.out he
      obtain ⟨k, hk⟩ : ∃ k : Nat, numN W x y = k := ⟨(numN W x y).toNat, by omega⟩
      have hkn : k < n := by omega
      have HC := Lib.hid (show pch W H f x y = sgU (f k) by unfold pch; rw [HH.out, he, hk]; rfl)
      have HKk := Lib.hid hk
      have hfk := kinds_at hK hkn
      obtain ⟨bA, oA, rfl, hbA, hcA⟩ := HR.out.2.2.2 (by omega)
      have hnc := HR.out.1
      have hcm := HR.out.2.1
      unfold maxLen at hcm
      have HCK := Lib.hid (hcA k hkn)
      have hEd := Lib.hid he
      clear hk hcA hnl he hK hn
      go_wp2_with fail
      refine (onBorder_is hEd.out HWs.out HHs.out).mono ?_
      rintro e w4 ⟨rfl, b4⟩
      have HS4 := Lib.hid (HS3.out.below b4 HS3.out.1)
      have HD4 := Lib.hid (HD3.out.below b4 HD3.out.1)
      have HP4 := Lib.hid (HP3.out.below b4 HP3.out.1)
      have HB4 := Lib.hid (HB3.out.trans (b4.mono hB3))
      clear b4 k0 k1 d0 d1 kz dz HS3 HD3 HP3 HB3 hB3
      have k0 := HS4.out.2 0 _ rfl
      have k1 := HS4.out.2 1 _ rfl
      have d0 := HD4.out.2 0 _ rfl
      have d1 := HD4.out.2 1 _ rfl
      have p2 := HP4.out.2 2 _ rfl
      have kz := HS4.out.1
      have dz := HD4.out.1
      have pz := HP4.out.1
      have hB4 := HB4.out.size
      have hbA4 : bA < w4.heap.size := by omega
      have s3 : w4.cell? ⟨bA, oA + k, none⟩ = some (.int .i64 (f k)) := cell_be HCK.out HB4.out hbA
      have OL := Lib.hid (Old.mk_ (Below.refl w4.heap.size w4).drew)
      rcases sgU_at (f k) hfk with ⟨e1, e2⟩ | ⟨e1, e2⟩ | ⟨e1, e2⟩ <;> rw [e1] at s3 <;> have E2 := Lib.hid e2 <;> clear e1 e2 hfk <;>
      · go_wp2_with fail
        go_region_held3 (fun w' => (∀ b o, b < (w4).heap.size → w'.cell? ⟨b, o, none⟩ = (w4).cell? ⟨b, o, none⟩) ∧ Below (w4).heap.size (w4) w')
          (first | assumption | exact OL.out | exact Old.trans (by assumption) (by assumption))
          (first | (go_at_call 42; refine (HKk.out ▸ numberOf_any _ W H x y HWs.out x1 x2 y1 y2).mono ?_; rintro e wa ⟨rfl, ba⟩))
        rename_i hS
        have bx := hS.2
        clear hS OL
        go_wp2
        go_ret
        exact ⟨by rw [← HCV.out, HC.out, E2.out]; rfl, HB4.out.trans (bx.mono hB4)⟩
    · have HC := Lib.hid (show pch W H f x y = 46 by unfold pch; rw [HH.out, he]; rfl)
      have hEd := Lib.hid he
      clear he
      go_wp2_with fail
      refine (onBorder_is hEd.out HWs.out HHs.out).mono ?_
      rintro e w4 ⟨rfl, b4⟩
      go_wp2
      go_ret
      exact ⟨by rw [← HCV.out, HC.out]; rfl, HB3.out.trans (b4.mono hB3)⟩
set_option maxHeartbeats 2000000 in
theorem impl_panelPicture (w : World) (W H : Int) (A : Option Addr) (n c : Nat) (f : Nat → Int) (hr : Row .i64 w A n c f) :
    Calls Try.prog 8 #[.agg #[.int .i64 W, .int .i64 H, .slice A n c]] w (TextsC (ppN W H n f) (ppG W H f) (lpC W H n f) w.heap.size w) := by
  have HL := Lib.hid (show Below w.heap.size w (w.alloc (.cells #[.int .i64 W, .int .i64 H, .slice A n c] 29)) from (Below.refl _ _).alloc (Nat.le_refl _) _)
  have HR := Lib.hid hr
  clear hr
  cases hv : validB W H n f
  · have e1 : ppN W H n f = 0 := by simp [ppN, hv]
    have e2 : lpC W H n f = 1 := by simp [lpC, hv]
    rw [e1, e2]
    have HV := Lib.hid hv
    clear hv e1 e2
    go_enter Try.func8, Try.ntmps8
    go_wp2_with fail
    refine (implOk_is HV.out (HR.out.below HL.out (Nat.le_refl _))).mono ?_
    rintro e w1 ⟨rfl, b1⟩
    have HB := Lib.hid (HL.out.trans (b1.mono (by simp)))
    clear b1
    go_wp2
    go_ret2
    exact ⟨none, 0, rfl, ⟨Nat.le_refl _, Nat.zero_le _, fun h => absurd h (by omega)⟩, HB.out⟩
  · obtain ⟨hW, hH, -, -⟩ := validB_yes hv
    obtain ⟨a, ha⟩ : ∃ a : Nat, (2 * W + 1).toNat = a := ⟨_, rfl⟩
    obtain ⟨b, hbb⟩ : ∃ b : Nat, (2 * H + 1).toNat = b := ⟨_, rfl⟩
    have e1 : ppN W H n f = b := by simp [ppN, hv, hbb]
    have e2 : lpC W H n f = 0 := by simp [lpC, hv]
    have e3 : ppG W H f = fun i => ⟨(chr (pch W H f) i a).toArray⟩ := by funext i; unfold ppG; rw [ha]; rfl
    rw [e1, e2, e3]
    have HV := Lib.hid hv
    have HA := Lib.hid ha
    have HBb := Lib.hid hbb
    have HWs := Lib.hid hW
    have HHs := Lib.hid hH
    clear hv e1 e2 e3 hW hH ha hbb
    go_enter Try.func8, Try.ntmps8
    go_wp2_with fail
    refine (implOk_is HV.out (HR.out.below HL.out (Nat.le_refl _))).mono ?_
    rintro e w1 ⟨rfl, b3⟩
    have HX := Lib.hid ((Cel.new w [.int .i64 W, .int .i64 H, .slice A n c] 29).below b3 (by simp))
    have HB := Lib.hid (HL.out.trans (b3.mono (by simp)))
    clear b3 HL
    have hB := HB.out.size
    have k0 := HX.out.2 0 _ rfl
    have k1 := HX.out.2 1 _ rfl
    have k2 := HX.out.2 2 _ rfl
    have kz := HX.out.1
    have OL := Lib.hid (Old.mk_ (Below.refl w1.heap.size w1).drew)
    go_wp2_with fail
    go_region_held3 (fun w' => (∀ b o, b < (w1).heap.size → w'.cell? ⟨b, o, none⟩ = (w1).cell? ⟨b, o, none⟩) ∧ Below (w1).heap.size (w1) w')
      (first | assumption | exact OL.out | exact Old.trans (by assumption) (by assumption))
      (first
        | (go_at_call 22; refine (sizeOf_any _ W H A n c).mono ?_; rintro e wa ⟨rfl, ba⟩; have hza := ba.size; rw [show w1.drew.heap.size = w1.heap.size from rfl] at hza)
        | (go_at_call 23; (with_reducible refine (places_p _ W H A n c W H HWs.out HHs.out a b HA.out HBb.out (pch W H f) (Lib.hid (fun x y wr hx hy hb' => signAt_is wr W H A n c f x y (((HR.out.below HB.out (Nat.le_refl _)).old (by assumption)).below hb' (Nat.le_refl _)) HV.out))).mono ?_); rintro e wb ⟨A2, c2, rfl, hO, b4⟩; have HO := Lib.hid hO; clear hO))
    all_goals
      rename_i hS
      have bx := hS.2
      have HB2 := Lib.hid (HB.out.trans (bx.mono hB))
      clear hS OL k0 k1 k2 kz bx
      go_wp2
      go_ret2
      obtain ⟨h1, h2, h3⟩ := HO.out
      exact ⟨A2, c2, rfl, ⟨h1, h2, fun hn => by obtain ⟨b', o, e, g1, g2, g3⟩ := h3 hn; exact ⟨b', o, e, by omega, g2, g3⟩⟩, HB2.out⟩
end Go.Proofs.Ytocnocchliihhaa.Base
