/-
  impl's drawn, over the characters of a panel's picture.
-/
import Derived.Test.YtocnocchliihhaaDwb
import Derived.Test.YtocnocchliihhaaPan
import Derived.Test.YtocnocchliihhaaShape
namespace Go.Proofs.Ytocnocchliihhaa.Base
open Go Go.RowKit
set_option linter.unusedVariables false
set_option linter.unusedSimpArgs false

set_option maxRecDepth 100000 in
set_option maxHeartbeats 4000000 in
theorem drawn_p (w : World) (W H : Int) (A : Option Addr) (n c : Nat) (a b : Nat) (ha : a ≤ 17) (hb : b ≤ 17) (ch : Nat → Nat → UInt8)
    (HS : Hid (∀ (x y : Nat) (wr : World), x < a → y < b → Below w.heap.size w wr → Calls Try.prog 24 #[.agg #[.int .i64 W, .int .i64 H, .slice A n c], .agg #[.int .i64 (x : Int), .int .i64 (y : Int)]] wr (Gives (.int .u8 ((ch x y).toNat : Int)) wr))) :
    Calls Try.prog 28 #[.int .i64 a, .int .i64 b, .func (.func 24) #[.agg #[.int .i64 W, .int .i64 H, .slice A n c]] #[]] w (DrawnL ch a b w) := by
  obtain ⟨i2, hi2, hz0, hz1, hz2⟩ := info_parts infoStr
  go_enter Try.func28, Try.ntmps28
  go_wp2_with (first
    | (at_make; refine wpList_make_own _ rfl (.const (.int .i64 0)) (.tmp 11) 26 rfl w.heap.size 9 i2 _ 1 Try.underlying26 hi2 hz0 hz1 .i64 .i64 (b : Int) b (by rfl) (by rfl) (by rfl) (by rw [hz2]; omega) (by unfold maxLen; omega) (by simp) ?_; intro w4 hown4 hgrow4; have HO1 := Lib.hid hown4; have HB1 : Hid (Below w.heap.size w w4) := Lib.hid ((Below.refl w.heap.size w).grown hgrow4 (Nat.le_refl _) (fun b e => by cases e)); clear hown4 hgrow4))
  go_loopw [7, 14] (fun u yv wr => ∃ y : Nat, y ≤ b ∧ yv = .int .i64 y ∧ Hid (wr.ownsRow w.heap.size 9 1 u y (dtx ch a y)) ∧ Hid (Below w.heap.size w wr)) (fun _ yv _ => b - (intOf yv).toNat)
  case atStart => exact ⟨0, Nat.zero_le _, rfl, HO1, HB1⟩
  case round =>
    clear HO1 HB1
    generalize hwo : wr = wo at *
    clear hwo wr
    obtain ⟨y, hy, rfl, HU, HB⟩ := hrel
    obtain ⟨Ao, co, rfl⟩ := sp_slice HU.out
    have hB := HB.out.size
    by_cases hlt : y < b
    · have hdec : decide ((y : Int) < (b : Int)) = true := decide_eq_true (by omega)
      go_wp2
      clear hdec
      have HL0 := Lib.hid (Bld.new wo)
      go_loopw [18] (fun xv wx => ∃ x : Nat, x ≤ a ∧ xv = .int .i64 x ∧ Hid (Bld wo.heap.size wo.heap.size (chr ch y x) wx) ∧ Hid (Below wo.heap.size wo wx)) (fun xv _ => a - (intOf xv).toNat)
      case atStart => exact ⟨0, Nat.zero_le _, rfl, HL0, Lib.hid ((Below.refl _ _).alloc (Nat.le_refl _) _)⟩
      case round =>
        clear HL0
        obtain ⟨x, hx, rfl, HL, HI⟩ := hrel
        have hI := HI.out.size
        have hcl := chr_len ch y x
        by_cases hlx : x < a
        · have hdec : decide ((x : Int) < (a : Int)) = true := decide_eq_true (by omega)
          have HBI := Lib.hid (HB.out.trans (HI.out.mono hB))
          go_wp2_with fail
          clear hdec
          refine (HS.out x y wr hlx hlt HBI.out).mono ?_
          rintro e w1 ⟨rfl, b1⟩
          have HL1 := Lib.hid (HL.out.b b1)
          have HI1 := Lib.hid (HI.out.trans (b1.mono hI))
          have hI1 := HI1.out.size
          clear b1 HL HI
          obtain ⟨cv, hcv⟩ : ∃ cv : Int, ((ch x y).toNat : Int) = cv := ⟨_, rfl⟩
          have HCV := Lib.hid hcv
          rw [hcv]
          clear hcv
          go_wp2_with fail
          refine (bld_byte wo.heap.size wo.heap.size (chr ch y x) (ch x y) cv HCV.out w1 HL1.out (by omega) (by omega)).mono ?_
          rintro e w2 ⟨rfl, hbl, b2⟩
          have HL2 := Lib.hid hbl
          have HI2 := Lib.hid (HI1.out.trans b2)
          clear hbl b2 HL1 HI1
          go_wp2
          go_roundw
          case rel => exact ⟨x + 1, by omega, by go_num, Lib.hid (by rw [chr_succ]; exact HL2.out), HI2⟩
          case measure => simp [intOf]; omega
        · obtain rfl : x = a := by omega
          have hdec : decide ((x : Int) < (x : Int)) = false := decide_eq_false (by omega)
          go_wp2_with fail
          clear hdec
          refine (bld_text wo.heap.size wo.heap.size (chr ch y x) wr HL.out (by omega)).mono ?_
          rintro e w1 ⟨rfl, b1⟩
          have HI1 := Lib.hid (HI.out.trans b1)
          have hI1 := HI1.out.size
          have HO := Lib.hid (sp_below HU.out HI1.out)
          clear b1 HL HI
          obtain ⟨t, ht⟩ : ∃ t : ByteArray, ⟨(chr ch y x).toArray⟩ = t := ⟨_, rfl⟩
          have HT := Lib.hid ht
          rw [ht]
          clear ht
          have hXa := Lib.hid ((Below.refl w1.heap.size w1).alloc (Nat.le_refl _) (.cells #[.string t] 9))
          have hsz : (w1.alloc (.cells #[.string t] 9)).heap.size = w1.heap.size + 1 := by simp
          go_wp2_with (first
            | (at_builtin; refine wpList_append_lies _ (by rfl) _ _ _ (by rfl) w.heap.size 9 i2 _ 1 16 Try.underlying26 hi2 hz0 hz1 hz2 rfl (by omega) _ y (dtx ch x y) (by rfl) (sp_below HO.out hXa.out) ⟨w1.heap.size, 0, none⟩ 1 1 [.string t] (by rfl) (by rfl) (World.news_of_block (cs := #[.string t]) (t := 9) (fr := (0, 0)) (heap_alloc_new w1 _)) (fun u hu => by simp at hu; subst hu; rfl) (by omega) (by unfold maxLen; omega) (by omega) (by simp; omega) (w1.heap.size + 1) (by simp) ?_; intro g6 cap6 w6 hown6 hgrow6 hat6 hlt6; have HOW := Lib.hid hown6; have HGR := Lib.hid hgrow6; have HAT := Lib.hid hat6; clear hown6 hgrow6 hat6))
          go_roundw
          case rel =>
            refine ⟨y + 1, by omega, by go_num, Lib.hid ?_, Lib.hid (((HB.out.trans (HI1.out.mono hB)).trans (hXa.out.mono (by omega))).grown HGR.out (by omega) (fun b e => (HO.out.lt b e).1))⟩
            rw [dtx_succ, HT.out]
            exact HOW.out
          case measure => simp [intOf]; omega
    · obtain rfl : y = b := by omega
      have hdec : decide ((y : Int) < (y : Int)) = false := decide_eq_false (by omega)
      go_wp2
      go_ret
      exact ⟨Ao, co, rfl, drawn_own HU.out (by unfold maxLen; omega), HB.out⟩
theorem places_p (w : World) (W H : Int) (A : Option Addr) (n c : Nat) (W1 H1 : Int) (hW : sideB W1 = true) (hH : sideB H1 = true) (a b : Nat) (ha : (2 * W1 + 1).toNat = a) (hb : (2 * H1 + 1).toNat = b) (ch : Nat → Nat → UInt8)
    (HS : Hid (∀ (x y : Nat) (wr : World), x < a → y < b → Below w.heap.size w wr → Calls Try.prog 24 #[.agg #[.int .i64 W, .int .i64 H, .slice A n c], .agg #[.int .i64 (x : Int), .int .i64 (y : Int)]] wr (Gives (.int .u8 ((ch x y).toNat : Int)) wr))) :
    Calls Try.prog 23 #[.agg #[.int .i64 W1, .int .i64 H1], .func (.func 24) #[.agg #[.int .i64 W, .int .i64 H, .slice A n c]] #[]] w (DrawnL ch a b w) := by
  obtain ⟨a1, a2⟩ := side_mk hW
  obtain ⟨b1, b2⟩ := side_mk hH
  have hsz : w.heap.size ≤ (w.alloc (.cells #[.int .i64 W1, .int .i64 H1] 45)).heap.size := by simp
  have HX := Lib.hid (Cel.new w [.int .i64 W1, .int .i64 H1] 45)
  have HL := Lib.hid (show Below w.heap.size w (w.alloc (.cells #[.int .i64 W1, .int .i64 H1] 45)) from (Below.refl _ _).alloc (Nat.le_refl _) _)
  have HD := Lib.hid (drawn_p (w.alloc (.cells #[.int .i64 W1, .int .i64 H1] 45)) W H A n c a b (by omega) (by omega) ch (Lib.hid (fun x y wr hx hy hb' => HS.out x y wr hx hy (HL.out.trans (hb'.mono hsz)))))
  rw [show (a : Int) = 2 * W1 + 1 by omega, show (b : Int) = 2 * H1 + 1 by omega] at HD
  clear ha hb
  go_enter Try.func23, Try.ntmps23
  go_wp2_with fail
  refine HD.out.mono ?_
  rintro e w2 ⟨A2, c2, rfl, hO, b4⟩
  have HO := Lib.hid hO
  have HB2 := Lib.hid (HL.out.trans (b4.mono hsz))
  clear hO b4 HD
  go_wp2
  go_ret
  obtain ⟨h1, h2, h3⟩ := HO.out
  exact ⟨A2, c2, rfl, ⟨h1, h2, fun hn => by obtain ⟨b', o, e, g1, g2, g3⟩ := h3 hn; exact ⟨b', o, e, by omega, g2, g3⟩⟩, HB2.out⟩
end Go.Proofs.Ytocnocchliihhaa.Base
