/-
  TurnsOf: spec's and the program's.
-/
import Derived.Test.YtcnhgfgjmdbddaaTrn
namespace Go.Proofs.Ytcnhgfgjmdbddaa.Base
open Go.RowKit
set_option linter.unusedVariables false
set_option linter.unusedSimpArgs false

def tnB (W H : Int) (n : Nat) (f : Nat → Int) (x y dx dy : Int) : Bool := if wkB W H n f x y dx dy then decide (tkOf W H f (x + dx) (y + dy) ≠ 0) else false
theorem tnB_no {W H : Int} {n : Nat} {f : Nat → Int} {x y dx dy : Int} (h : wkB W H n f x y dx dy = false) : tnB W H n f x y dx dy = false := by simp [tnB, h]
theorem tnB_0 {W H : Int} {n : Nat} {f : Nat → Int} {x y dx dy : Int} (h : wkB W H n f x y dx dy = true) (h2 : tkOf W H f (x + dx) (y + dy) = 0) : tnB W H n f x y dx dy = false := by simp [tnB, h, h2]
theorem tnB_1 {W H : Int} {n : Nat} {f : Nat → Int} {x y dx dy : Int} (h : wkB W H n f x y dx dy = true) (h2 : tkOf W H f (x + dx) (y + dy) ≠ 0) : tnB W H n f x y dx dy = true := by simp [tnB, h, h2]
theorem tk_kind {W H : Int} {n : Nat} {f : Nat → Int} {x y : Int} (hn : (n : Int) = inner W H) (hK : kindsB n f = true) (hW : sideB W = true) (hH : sideB H = true) (h3 : hasB W H x y = true) : tkOf W H f x y = 0 ∨ tkOf W H f x y = 1 ∨ tkOf W H f x y = 2 := by
  by_cases hA : x = 0 ∨ x = 2 * W
  · exact .inr (.inl (tk_A hA))
  · by_cases hB : y = 0 ∨ y = 2 * H
    · exact .inr (.inr (tk_B hA hB))
    · rw [tk_C hA hB]
      have he := edge_mk hA hB
      obtain ⟨l1, l2⟩ := num_lt hW hH h3 he
      exact kind_of hK (by omega)
theorem goAll {W H x y dx dy : Int} {n : Nat} {f : Nat → Int} (h : wkB W H n f x y dx dy = true) : (n : Int) = inner W H ∧ kindsB n f = true := by
  obtain ⟨hv, -⟩ := wk_valid h
  obtain ⟨-, -, h3, h4⟩ := validB_yes hv
  exact ⟨h3, h4⟩

theorem spec_turnsNo (w : World) (W H : Int) (A : Option Addr) (n c : Nat) (f : Nat → Int) (x y dx dy : Int) (hr : Row .i64 w A n c f) (hw : wkB W H n f x y dx dy = false) :
    Calls Try.prog 32 #[.agg #[.int .i64 W, .int .i64 H, .slice A n c], .agg #[.int .i64 x, .int .i64 y, .int .i64 dx, .int .i64 dy]] w (Gives (.tuple #[.bool false, .int .i64 1]) w) := by
  have HL := Lib.hid (show Below w.heap.size w ((w.alloc (.cells #[.int .i64 W, .int .i64 H, .slice A n c] 28)).alloc (.cells #[.int .i64 x, .int .i64 y, .int .i64 dx, .int .i64 dy] 41)) from ((Below.refl _ _).alloc (Nat.le_refl _) _).alloc (by simp) _)
  have HR := Lib.hid hr
  have HC := Lib.hid (wkC_no hw)
  clear hr hw
  go_enter Try.func32, Try.ntmps32
  go_wp2_with fail
  refine (specC_is HC.out (panel_walker w _ _ W H A n c _ _ _ _) (HR.out.below HL.out (Nat.le_refl _))).mono ?_
  rintro e w1 ⟨rfl, b1⟩
  go_wp2
  go_ret2
  exact ⟨rfl, HL.out.trans (b1.mono (by first | (simp; done) | (simp; omega)))⟩
theorem spec_turns0 (w : World) (W H : Int) (A : Option Addr) (n c : Nat) (f : Nat → Int) (x y dx dy : Int) (hr : Row .i64 w A n c f) (hw : wkB W H n f x y dx dy = true) (ht : tkOf W H f (x + dx) (y + dy) = 0) :
    Calls Try.prog 32 #[.agg #[.int .i64 W, .int .i64 H, .slice A n c], .agg #[.int .i64 x, .int .i64 y, .int .i64 dx, .int .i64 dy]] w (Gives (.tuple #[.bool false, .int .i64 0]) w) := by
  have HL := Lib.hid (show Below w.heap.size w ((w.alloc (.cells #[.int .i64 W, .int .i64 H, .slice A n c] 28)).alloc (.cells #[.int .i64 x, .int .i64 y, .int .i64 dx, .int .i64 dy] 41)) from ((Below.refl _ _).alloc (Nat.le_refl _) _).alloc (by simp) _)
  have HR := Lib.hid hr
  have HC := Lib.hid (wkC_yes hw)
  obtain ⟨hW, hH, x1, x2, y1, y2, q1, q2⟩ := goW hw
  obtain ⟨h4, -⟩ := goNext hw
  obtain ⟨hn, hK⟩ := goAll hw
  have EX := Lib.hid (show stDX W H f x y dx dy = dx from by simp [stDX, ht])
  have EY := Lib.hid (show stDY W H f x y dx dy = dy from by simp [stDY, ht])
  have s1 := sign_yes q1
  have s2 := sign_yes q2
  have f1 : ((dx) != dx) = false := by simp
  have f2 : ((dy) != dy) = false := by simp
  have HN := Lib.hid hn
  clear hr hw ht s1 s2 hn
  go_enter Try.func32, Try.ntmps32
  go_wp2_with fail
  refine (specC_is HC.out (panel_walker w _ _ W H A n c _ _ _ _) (HR.out.below HL.out (Nat.le_refl _))).mono ?_
  rintro e w1 ⟨rfl, b1⟩
  obtain ⟨hc1, hf1⟩ := bcell b1
  have HX := Lib.hid ((panel_walker w 28 41 W H A n c x y dx dy).below b1 (by first | (simp; done) | (simp; omega)))
  have HB1 := Lib.hid (HL.out.trans (b1.mono (by first | (simp; done) | (simp; omega))))
  have hz1 : w.heap.size + 1 < w1.heap.size := by have := b1.size; simp at this; omega
  have hz0 : w.heap.size < w1.heap.size := by omega
  clear b1
  go_wp2_with fail
  refine (specStep _ w.heap.size W H A n c f x y dx dy HX.out (HR.out.below HB1.out (Nat.le_refl _)) HN.out hK hW hH x1 x2 y1 y2 q1 q2 h4).mono ?_
  rintro e w2 ⟨rfl, b2⟩
  simp only [EX.out, EY.out]
  have m2 : w1.cell? ⟨w.heap.size + 1, 2, none⟩ = some (.int .i64 dx) := by rw [hc1 _ _ (by first | (simp; done) | (simp; omega))]; simp [go_sem]
  have m3 : w1.cell? ⟨w.heap.size + 1, 3, none⟩ = some (.int .i64 dy) := by rw [hc1 _ _ (by first | (simp; done) | (simp; omega))]; simp [go_sem]
  have m2' := (b2.cell (p := ⟨w.heap.size + 1, 2, none⟩) hz1).trans m2
  have m3' := (b2.cell (p := ⟨w.heap.size + 1, 3, none⟩) hz1).trans m3
  have HB2 := Lib.hid (HB1.out.trans (b2.mono HB1.out.size))
  have hz2 : w.heap.size + 1 < w2.heap.size := Nat.lt_of_lt_of_le hz1 b2.size
  clear b2 hc1 hf1 m2 m3
  have hne : w.heap.size + 1 ≠ w2.heap.size := Nat.ne_of_lt hz2
  go_wp2
  go_ret2
  exact ⟨rfl, HB2.out.alloc HB2.out.size _⟩
theorem spec_turns1 (w : World) (W H : Int) (A : Option Addr) (n c : Nat) (f : Nat → Int) (x y dx dy : Int) (hr : Row .i64 w A n c f) (hw : wkB W H n f x y dx dy = true) (ht : tkOf W H f (x + dx) (y + dy) = 1) :
    Calls Try.prog 32 #[.agg #[.int .i64 W, .int .i64 H, .slice A n c], .agg #[.int .i64 x, .int .i64 y, .int .i64 dx, .int .i64 dy]] w (Gives (.tuple #[.bool true, .int .i64 0]) w) := by
  have HL := Lib.hid (show Below w.heap.size w ((w.alloc (.cells #[.int .i64 W, .int .i64 H, .slice A n c] 28)).alloc (.cells #[.int .i64 x, .int .i64 y, .int .i64 dx, .int .i64 dy] 41)) from ((Below.refl _ _).alloc (Nat.le_refl _) _).alloc (by simp) _)
  have HR := Lib.hid hr
  have HC := Lib.hid (wkC_yes hw)
  obtain ⟨hW, hH, x1, x2, y1, y2, q1, q2⟩ := goW hw
  obtain ⟨h4, -⟩ := goNext hw
  obtain ⟨hn, hK⟩ := goAll hw
  have EX := Lib.hid (show stDX W H f x y dx dy = (-dx) from by simp [stDX, ht])
  have EY := Lib.hid (show stDY W H f x y dx dy = dy from by simp [stDY, ht])
  have s1 := sign_yes q1
  have s2 := sign_yes q2
  have f1 : (((-dx)) != dx) = true := bne_iff_ne.2 (by omega)
  have f2 : ((dy) != dy) = false := by simp
  have HN := Lib.hid hn
  clear hr hw ht s1 s2 hn
  go_enter Try.func32, Try.ntmps32
  go_wp2_with fail
  refine (specC_is HC.out (panel_walker w _ _ W H A n c _ _ _ _) (HR.out.below HL.out (Nat.le_refl _))).mono ?_
  rintro e w1 ⟨rfl, b1⟩
  obtain ⟨hc1, hf1⟩ := bcell b1
  have HX := Lib.hid ((panel_walker w 28 41 W H A n c x y dx dy).below b1 (by first | (simp; done) | (simp; omega)))
  have HB1 := Lib.hid (HL.out.trans (b1.mono (by first | (simp; done) | (simp; omega))))
  have hz1 : w.heap.size + 1 < w1.heap.size := by have := b1.size; simp at this; omega
  have hz0 : w.heap.size < w1.heap.size := by omega
  clear b1
  go_wp2_with fail
  refine (specStep _ w.heap.size W H A n c f x y dx dy HX.out (HR.out.below HB1.out (Nat.le_refl _)) HN.out hK hW hH x1 x2 y1 y2 q1 q2 h4).mono ?_
  rintro e w2 ⟨rfl, b2⟩
  simp only [EX.out, EY.out]
  have m2 : w1.cell? ⟨w.heap.size + 1, 2, none⟩ = some (.int .i64 dx) := by rw [hc1 _ _ (by first | (simp; done) | (simp; omega))]; simp [go_sem]
  have m3 : w1.cell? ⟨w.heap.size + 1, 3, none⟩ = some (.int .i64 dy) := by rw [hc1 _ _ (by first | (simp; done) | (simp; omega))]; simp [go_sem]
  have m2' := (b2.cell (p := ⟨w.heap.size + 1, 2, none⟩) hz1).trans m2
  have m3' := (b2.cell (p := ⟨w.heap.size + 1, 3, none⟩) hz1).trans m3
  have HB2 := Lib.hid (HB1.out.trans (b2.mono HB1.out.size))
  have hz2 : w.heap.size + 1 < w2.heap.size := Nat.lt_of_lt_of_le hz1 b2.size
  clear b2 hc1 hf1 m2 m3
  have hne : w.heap.size + 1 ≠ w2.heap.size := Nat.ne_of_lt hz2
  go_wp2
  go_ret2
  exact ⟨rfl, HB2.out.alloc HB2.out.size _⟩
theorem spec_turns2 (w : World) (W H : Int) (A : Option Addr) (n c : Nat) (f : Nat → Int) (x y dx dy : Int) (hr : Row .i64 w A n c f) (hw : wkB W H n f x y dx dy = true) (ht : tkOf W H f (x + dx) (y + dy) = 2) :
    Calls Try.prog 32 #[.agg #[.int .i64 W, .int .i64 H, .slice A n c], .agg #[.int .i64 x, .int .i64 y, .int .i64 dx, .int .i64 dy]] w (Gives (.tuple #[.bool true, .int .i64 0]) w) := by
  have HL := Lib.hid (show Below w.heap.size w ((w.alloc (.cells #[.int .i64 W, .int .i64 H, .slice A n c] 28)).alloc (.cells #[.int .i64 x, .int .i64 y, .int .i64 dx, .int .i64 dy] 41)) from ((Below.refl _ _).alloc (Nat.le_refl _) _).alloc (by simp) _)
  have HR := Lib.hid hr
  have HC := Lib.hid (wkC_yes hw)
  obtain ⟨hW, hH, x1, x2, y1, y2, q1, q2⟩ := goW hw
  obtain ⟨h4, -⟩ := goNext hw
  obtain ⟨hn, hK⟩ := goAll hw
  have EX := Lib.hid (show stDX W H f x y dx dy = dx from by simp [stDX, ht])
  have EY := Lib.hid (show stDY W H f x y dx dy = (-dy) from by simp [stDY, ht])
  have s1 := sign_yes q1
  have s2 := sign_yes q2
  have f1 : ((dx) != dx) = false := by simp
  have f2 : (((-dy)) != dy) = true := bne_iff_ne.2 (by omega)
  have HN := Lib.hid hn
  clear hr hw ht s1 s2 hn
  go_enter Try.func32, Try.ntmps32
  go_wp2_with fail
  refine (specC_is HC.out (panel_walker w _ _ W H A n c _ _ _ _) (HR.out.below HL.out (Nat.le_refl _))).mono ?_
  rintro e w1 ⟨rfl, b1⟩
  obtain ⟨hc1, hf1⟩ := bcell b1
  have HX := Lib.hid ((panel_walker w 28 41 W H A n c x y dx dy).below b1 (by first | (simp; done) | (simp; omega)))
  have HB1 := Lib.hid (HL.out.trans (b1.mono (by first | (simp; done) | (simp; omega))))
  have hz1 : w.heap.size + 1 < w1.heap.size := by have := b1.size; simp at this; omega
  have hz0 : w.heap.size < w1.heap.size := by omega
  clear b1
  go_wp2_with fail
  refine (specStep _ w.heap.size W H A n c f x y dx dy HX.out (HR.out.below HB1.out (Nat.le_refl _)) HN.out hK hW hH x1 x2 y1 y2 q1 q2 h4).mono ?_
  rintro e w2 ⟨rfl, b2⟩
  simp only [EX.out, EY.out]
  have m2 : w1.cell? ⟨w.heap.size + 1, 2, none⟩ = some (.int .i64 dx) := by rw [hc1 _ _ (by first | (simp; done) | (simp; omega))]; simp [go_sem]
  have m3 : w1.cell? ⟨w.heap.size + 1, 3, none⟩ = some (.int .i64 dy) := by rw [hc1 _ _ (by first | (simp; done) | (simp; omega))]; simp [go_sem]
  have m2' := (b2.cell (p := ⟨w.heap.size + 1, 2, none⟩) hz1).trans m2
  have m3' := (b2.cell (p := ⟨w.heap.size + 1, 3, none⟩) hz1).trans m3
  have HB2 := Lib.hid (HB1.out.trans (b2.mono HB1.out.size))
  have hz2 : w.heap.size + 1 < w2.heap.size := Nat.lt_of_lt_of_le hz1 b2.size
  clear b2 hc1 hf1 m2 m3
  have hne : w.heap.size + 1 ≠ w2.heap.size := Nat.ne_of_lt hz2
  go_wp2
  go_ret2
  exact ⟨rfl, HB2.out.alloc HB2.out.size _⟩
theorem spec_turnsOf (w : World) (W H : Int) (A : Option Addr) (n c : Nat) (f : Nat → Int) (x y dx dy : Int) (hr : Row .i64 w A n c f) :
    Calls Try.prog 32 #[.agg #[.int .i64 W, .int .i64 H, .slice A n c], .agg #[.int .i64 x, .int .i64 y, .int .i64 dx, .int .i64 dy]] w (Gives (.tuple #[.bool (tnB W H n f x y dx dy), .int .i64 (wkC W H n f x y dx dy)]) w) := by
  cases hw : wkB W H n f x y dx dy
  · rw [tnB_no hw, wkC_no hw]
    exact spec_turnsNo w W H A n c f x y dx dy hr hw
  · obtain ⟨hW, hH, -⟩ := goW hw
    obtain ⟨h4, -⟩ := goNext hw
    obtain ⟨hn, hK⟩ := goAll hw
    rw [wkC_yes hw]
    rcases tk_kind hn hK hW hH h4 with h | h | h
    · rw [tnB_0 hw h]
      exact spec_turns0 w W H A n c f x y dx dy hr hw h
    · rw [tnB_1 hw (by omega)]
      exact spec_turns1 w W H A n c f x y dx dy hr hw h
    · rw [tnB_1 hw (by omega)]
      exact spec_turns2 w W H A n c f x y dx dy hr hw h

theorem impl_turnsYes (w : World) (W H : Int) (A : Option Addr) (n c : Nat) (f : Nat → Int) (x y dx dy : Int) (hr : Row .i64 w A n c f) (hw : wkB W H n f x y dx dy = true) (v : Bool) (hv : (tkOf W H f (x + dx) (y + dy) != 0) = v) :
    Calls Try.prog 33 #[.agg #[.int .i64 W, .int .i64 H, .slice A n c], .agg #[.int .i64 x, .int .i64 y, .int .i64 dx, .int .i64 dy]] w (Gives (.tuple #[.bool v, .int .i64 0]) w) := by
  have HL := Lib.hid (show Below w.heap.size w ((w.alloc (.cells #[.int .i64 W, .int .i64 H, .slice A n c] 28)).alloc (.cells #[.int .i64 x, .int .i64 y, .int .i64 dx, .int .i64 dy] 41)) from ((Below.refl _ _).alloc (Nat.le_refl _) _).alloc (by simp) _)
  have HR := Lib.hid hr
  have HRW := Lib.hid (hr.below HL.out (Nat.le_refl _))
  have HC := Lib.hid hw
  obtain ⟨hW, hH, x1, x2, y1, y2, q1, q2⟩ := goW hw
  obtain ⟨h4, -⟩ := goNext hw
  obtain ⟨hn, hK⟩ := goAll hw
  have HN := Lib.hid hn
  clear hr hw hn
  go_enter Try.func33, Try.ntmps33
  go_wp2_with fail
  refine (implW_is HC.out (HR.out.below HL.out (Nat.le_refl _))).mono ?_
  rintro e w1 ⟨rfl, b1⟩
  have OL := Lib.hid ((Old.mk_ b1.drew))
  clear b1
  go_wp2_with fail
  go_region_held3 (fun w' => (∀ b o, b < ((w.alloc (.cells #[.int .i64 W, .int .i64 H, .slice A n c] 28)).alloc (.cells #[.int .i64 x, .int .i64 y, .int .i64 dx, .int .i64 dy] 41)).heap.size → w'.cell? ⟨b, o, none⟩ = ((w.alloc (.cells #[.int .i64 W, .int .i64 H, .slice A n c] 28)).alloc (.cells #[.int .i64 x, .int .i64 y, .int .i64 dx, .int .i64 dy] 41)).cell? ⟨b, o, none⟩) ∧ Below ((w.alloc (.cells #[.int .i64 W, .int .i64 H, .slice A n c] 28)).alloc (.cells #[.int .i64 x, .int .i64 y, .int .i64 dx, .int .i64 dy] 41)).heap.size ((w.alloc (.cells #[.int .i64 W, .int .i64 H, .slice A n c] 28)).alloc (.cells #[.int .i64 x, .int .i64 y, .int .i64 dx, .int .i64 dy] 41)) w')
    (first | assumption | exact OL.out | exact Old.trans (by assumption) (by assumption))
    (first | (go_at_call 60; refine (implNext _ x y dx dy x1 x2 y1 y2 q1 q2).mono ?_; rintro e wa ⟨rfl, ba⟩) | (go_at_call 72; refine (implTurn _ W H A n c f (x + dx) (y + dy) ?_ HN.out hW hH h4).mono ?_; exact HRW.out.old (by assumption); rintro e wb ⟨rfl, bb⟩))
  rename_i hS
  have hB := hS.2
  clear hS
  go_wp2
  go_ret2
  exact ⟨rfl, HL.out.trans (hB.mono (by first | (simp; done) | (simp; omega)))⟩
theorem impl_turnsOf (w : World) (W H : Int) (A : Option Addr) (n c : Nat) (f : Nat → Int) (x y dx dy : Int) (hr : Row .i64 w A n c f) :
    Calls Try.prog 33 #[.agg #[.int .i64 W, .int .i64 H, .slice A n c], .agg #[.int .i64 x, .int .i64 y, .int .i64 dx, .int .i64 dy]] w (Gives (.tuple #[.bool (tnB W H n f x y dx dy), .int .i64 (wkC W H n f x y dx dy)]) w) := by
  cases hw : wkB W H n f x y dx dy
  · rw [tnB_no hw, wkC_no hw]
    have HL := Lib.hid (show Below w.heap.size w ((w.alloc (.cells #[.int .i64 W, .int .i64 H, .slice A n c] 28)).alloc (.cells #[.int .i64 x, .int .i64 y, .int .i64 dx, .int .i64 dy] 41)) from ((Below.refl _ _).alloc (Nat.le_refl _) _).alloc (by simp) _)
    have HR := Lib.hid hr
    have HC := Lib.hid hw
    clear hr hw
    go_enter Try.func33, Try.ntmps33
    go_wp2_with fail
    refine (implW_is HC.out (HR.out.below HL.out (Nat.le_refl _))).mono ?_
    rintro e w1 ⟨rfl, b1⟩
    go_wp2
    go_ret2
    exact ⟨rfl, HL.out.trans (b1.mono (by first | (simp; done) | (simp; omega)))⟩
  · rw [wkC_yes hw]
    by_cases h : tkOf W H f (x + dx) (y + dy) = 0
    · rw [tnB_0 hw h]
      exact impl_turnsYes w W H A n c f x y dx dy hr hw false (by rw [h]; rfl)
    · rw [tnB_1 hw h]
      exact impl_turnsYes w W H A n c f x y dx dy hr hw true (bne_iff_ne.2 h)
end Go.Proofs.Ytcnhgfgjmdbddaa.Base
