/-
  Crossings: whether lines cross at a point, the slope of the line above; the model's and the program's.
-/
import Derived.Test.YtbpdjmjkjiddjaaCxe
namespace Go.Proofs.Ytbpdjmjkjiddjaa.Base
open Go Go.RowKit
set_option linter.unusedVariables false
set_option linter.unusedSimpArgs false

set_option maxHeartbeats 2000000 in
theorem spec_isX (w : World) (p : Nat) (W H : Int) (A : Option Addr) (n c : Nat) (f : Nat → Int) (x y : Int) (hb : Box w p W H A n c) (hr : Row .i64 w A n c f) (hv : validB W H n f = true) (hh : hasB W H x y = true) :
    Calls Try.prog 39 #[.pointer (some ⟨p, 0, none⟩), .agg #[.int .i64 x, .int .i64 y]] w (Gives (.bool (isX W H f x y)) w) := by
  obtain ⟨hW, hH, hn, -⟩ := validB_yes hv
  have HXe := Lib.hid hb
  have HL := Lib.hid (show Below w.heap.size w (w.alloc (.cells #[.int .i64 x, .int .i64 y] 31)) from (Below.refl _ _).alloc (Nat.le_refl _) _)
  have HX := Lib.hid (hb.below HL.out hb.1)
  have HR := Lib.hid (hr.below HL.out (Nat.le_refl _))
  have D0 := Cel.new w [.int .i64 x, .int .i64 y] 31
  have HD := Lib.hid D0
  have hpw := hb.1
  clear D0 hb hr
  cases he : edgeB W H x y
  · obtain ⟨x1, x2, y1, y2⟩ := inside hW hH hh he
    obtain ⟨l1, l2⟩ := num_lt hW hH hh he
    have l3 : numN W x y < (n : Int) := by rw [hn]; exact l2
    have hnc := HR.out.1
    have hcm := HR.out.2.1
    unfold maxLen at hcm
    obtain ⟨b, o, rfl, hbl, hcell⟩ := HR.out.2.2.2 (by omega)
    have ck := hcell (numN W x y).toNat (by omega)
    obtain ⟨kv, hkv⟩ : ∃ kv, f (numN W x y).toNat = kv := ⟨_, rfl⟩
    rw [hkv] at ck
    obtain ⟨rb, hrb⟩ : ∃ rb, isX W H f x y = rb := ⟨_, rfl⟩
    rw [hrb]
    have hkb : (kv == 0) = rb := by
      rw [← hrb]; unfold isX; rw [he, hkv]
      by_cases h0 : kv = 0 <;> simp [h0]
    have HE := Lib.hid he
    clear he hkv hrb hcell hv hn hh l2
    go_enter Try.func39, Try.ntmps39
    go_wp2
    obtain ⟨wb, hwb⟩ : ∃ wb, w.alloc (.cells #[.int .i64 x, .int .i64 y] 31) = wb := ⟨_, rfl⟩
    obtain ⟨ba, hba⟩ : ∃ ba, w.heap.size = ba := ⟨_, rfl⟩
    rw [hwb] at HL HX HR HD ck hbl ⊢
    rw [hba] at HD hpw ⊢
    clear hwb
    have OL := Lib.hid (Old.mk_ (Below.refl wb.heap.size wb).drew)
    have dz := HD.out.1
    have d0 := HD.out.2 0 _ rfl
    have d1 := HD.out.2 1 _ rfl
    obtain ⟨pz, k0, k1, k2⟩ := id HX.out
    go_region_held3 (fun w' => (∀ b o, b < (wb).heap.size → w'.cell? ⟨b, o, none⟩ = (wb).cell? ⟨b, o, none⟩) ∧ Below (wb).heap.size (wb) w')
      (first | assumption | exact OL.out | exact Old.trans (by assumption) (by assumption))
      (first | (go_at_call 69; refine (specEdge_is (A := some ⟨b, o, none⟩) (n := n) (c := c) HE.out ?_ hW hH).mono ?_; exact HX.out.below (And.right (by assumption)) HX.out.1; rintro e wa ⟨rfl, bq⟩) | (go_at_call 70; refine (specNumber _ p W H (some ⟨b, o, none⟩) n c x y ?_ hW x1 x2 y1 y2).mono ?_; exact HX.out.below (And.right (by assumption)) HX.out.1; rintro e wa ⟨rfl, bq⟩))
    rename_i hS
    have hB := Lib.hid hS.2
    clear hS OL
    go_wp2
    go_ret
    exact ⟨rfl, HL.out.trans (hB.out.mono HL.out.size)⟩
  · exact spec_isXe w p W H A n c f x y HXe.out hW hH he
theorem spec_isX_is {w : World} {p : Nat} {W H : Int} {A : Option Addr} {n c : Nat} {f : Nat → Int} {x y : Int} {v : Bool} (h : isX W H f x y = v) (hb : Box w p W H A n c) (hr : Row .i64 w A n c f) (hv : validB W H n f = true) (hh : hasB W H x y = true) :
    Calls Try.prog 39 #[.pointer (some ⟨p, 0, none⟩), .agg #[.int .i64 x, .int .i64 y]] w (Gives (.bool v) w) := h ▸ spec_isX w p W H A n c f x y hb hr hv hh
theorem spec_isCrossing (w : World) (W H : Int) (A : Option Addr) (n c : Nat) (f : Nat → Int) (x y : Int) (hr : Row .i64 w A n c f) :
    Calls Try.prog 11 #[.agg #[.int .i64 W, .int .i64 H, .slice A n c], .agg #[.int .i64 x, .int .i64 y]] w (Gives (.bool (cxB W H n f x y)) w) := by
  have HL := Lib.hid (show Below w.heap.size w ((w.alloc (.cells #[.int .i64 W, .int .i64 H, .slice A n c] 29)).alloc (.cells #[.int .i64 x, .int .i64 y] 31)) from ((Below.refl _ _).alloc (Nat.le_refl _) _).alloc (by simp) _)
  have HX := Lib.hid (two_boxes w 29 31 W H A n c x y)
  have HR := Lib.hid (hr.below HL.out (Nat.le_refl _))
  have D0 := Dot.new (w.alloc (.cells #[.int .i64 W, .int .i64 H, .slice A n c] 29)) 31 x y
  simp only [World.size_alloc] at D0
  have HD := Lib.hid D0
  clear D0 hr
  cases hv : validB W H n f
  · have e : cxB W H n f x y = false := by simp [cxB, hv]
    rw [e]
    have HV := Lib.hid hv
    clear e hv
    go_enter Try.func11, Try.ntmps11
    go_wp2_with fail
    refine (specOk_is HV.out HX.out HR.out).mono ?_
    rintro e w1 ⟨mqb1, rfl, hqb1⟩
    have b1 := below_of_drew hqb1
    clear hqb1
    go_wp2
    go_ret
    exact ⟨rfl, HL.out.trans (b1.mono HL.out.size)⟩
  · obtain ⟨hW, hH, -, -⟩ := validB_yes hv
    cases hh : hasB W H x y
    · have e : cxB W H n f x y = false := by simp [cxB, hh]
      rw [e]
      have HV := Lib.hid hv
      have HH := Lib.hid hh
      clear e hv hh
      go_enter Try.func11, Try.ntmps11
      go_wp2_with fail
      refine (specOk_is HV.out HX.out HR.out).mono ?_
      rintro e w1 ⟨mqb1, rfl, hqb1⟩
      have b1 := below_of_drew hqb1
      clear hqb1
      have X1 := Lib.hid (HX.out.below b1 HX.out.1)
      obtain ⟨dz, d0, d1⟩ := HD.out.below b1 HD.out.1
      have HL1 := Lib.hid (HL.out.trans (b1.mono HL.out.size))
      clear b1
      go_wp2_with fail
      refine (specHas_is HH.out X1.out hW hH).mono ?_
      rintro e w2 ⟨rfl, b2⟩
      go_wp2
      go_ret
      exact ⟨rfl, HL1.out.trans (b2.mono HL1.out.size)⟩
    · have e : cxB W H n f x y = isX W H f x y := by simp [cxB, hh, hv]
      rw [e]
      have HV := Lib.hid hv
      have HH := Lib.hid hh
      clear e hv hh
      go_enter Try.func11, Try.ntmps11
      go_wp2_with fail
      refine (specOk_is HV.out HX.out HR.out).mono ?_
      rintro e w1 ⟨mqb1, rfl, hqb1⟩
      have b1 := below_of_drew hqb1
      clear hqb1
      have X1 := Lib.hid (HX.out.below b1 HX.out.1)
      have R1 := Lib.hid (HR.out.below b1 (Nat.le_refl _))
      have D1 := Lib.hid (HD.out.below b1 HD.out.1)
      obtain ⟨dz, d0, d1⟩ := D1.out
      have HL1 := Lib.hid (HL.out.trans (b1.mono HL.out.size))
      clear b1
      go_wp2_with fail
      refine (specHas_is HH.out X1.out hW hH).mono ?_
      rintro e w2 ⟨rfl, b2⟩
      clear dz d0 d1
      have X2 := Lib.hid (X1.out.below b2 X1.out.1)
      have R2 := Lib.hid (R1.out.below b2 (Nat.le_refl _))
      obtain ⟨dz, d0, d1⟩ := D1.out.below b2 D1.out.1
      have HL2 := Lib.hid (HL1.out.trans (b2.mono HL1.out.size))
      clear b2
      go_wp2_with fail
      refine (spec_isX _ _ W H A n c f x y X2.out R2.out HV.out HH.out).mono ?_
      rintro e w3 ⟨rfl, b3⟩
      go_wp2
      go_ret
      exact ⟨rfl, HL2.out.trans (b3.mono HL2.out.size)⟩
theorem impl_crossingCode (w : World) (W H : Int) (A : Option Addr) (n c : Nat) (f : Nat → Int) (x y : Int) (hr : Row .i64 w A n c f) :
    Calls Try.prog 41 #[.agg #[.int .i64 W, .int .i64 H, .slice A n c], .agg #[.int .i64 x, .int .i64 y]] w (Gives (.int .i64 (cxC W H n f x y)) w) := by
  have HL := Lib.hid (show Below w.heap.size w ((w.alloc (.cells #[.int .i64 W, .int .i64 H, .slice A n c] 29)).alloc (.cells #[.int .i64 x, .int .i64 y] 31)) from ((Below.refl _ _).alloc (Nat.le_refl _) _).alloc (by simp) _)
  have H0 := Lib.hid (impl_breakAt _ W H A n c f x y (hr.below HL.out (Nat.le_refl _)))
  rw [cxC_is]
  obtain ⟨cp, hcp⟩ : ∃ cp, codeP W H n f x y = cp := ⟨_, rfl⟩
  obtain ⟨bp, hbp⟩ : ∃ bp, brkP W H n f x y = bp := ⟨_, rfl⟩
  rw [hcp, hbp] at H0 ⊢
  clear hcp hbp hr
  by_cases c0 : cp = 0
  · subst c0
    by_cases b0 : bp = 0
    · subst b0
      go_enter Try.func41, Try.ntmps41
      go_wp2_with fail
      refine H0.out.mono ?_
      rintro e w1 ⟨rfl, b1⟩
      go_wp2
      go_ret
      exact ⟨rfl, HL.out.trans (b1.mono HL.out.size)⟩
    · have hbb : (bp != 0) = true := bne_iff_ne.2 b0
      rw [if_pos rfl, if_neg b0]
      clear b0
      go_enter Try.func41, Try.ntmps41
      go_wp2_with fail
      refine H0.out.mono ?_
      rintro e w1 ⟨rfl, b1⟩
      go_wp2
      go_ret
      exact ⟨rfl, HL.out.trans (b1.mono HL.out.size)⟩
  · have hcb : (cp == 0) = false := beq_eq_false_iff_ne.2 c0
    rw [if_neg c0]
    clear c0
    go_enter Try.func41, Try.ntmps41
    go_wp2_with fail
    refine H0.out.mono ?_
    rintro e w1 ⟨rfl, b1⟩
    go_wp2
    go_ret
    exact ⟨rfl, HL.out.trans (b1.mono HL.out.size)⟩
theorem impl_isCrossing (w : World) (W H : Int) (A : Option Addr) (n c : Nat) (f : Nat → Int) (x y : Int) (hr : Row .i64 w A n c f) :
    Calls Try.prog 14 #[.agg #[.int .i64 W, .int .i64 H, .slice A n c], .agg #[.int .i64 x, .int .i64 y]] w (Gives (.bool (cxB W H n f x y)) w) := by
  have HL := Lib.hid (show Below w.heap.size w ((w.alloc (.cells #[.int .i64 W, .int .i64 H, .slice A n c] 29)).alloc (.cells #[.int .i64 x, .int .i64 y] 31)) from ((Below.refl _ _).alloc (Nat.le_refl _) _).alloc (by simp) _)
  have H0 := Lib.hid (impl_crossingCode _ W H A n c f x y (hr.below HL.out (Nat.le_refl _)))
  rw [cxB_is]
  obtain ⟨cp, hcp⟩ : ∃ cp, cxC W H n f x y = cp := ⟨_, rfl⟩
  rw [hcp] at H0 ⊢
  have e : decide (cp = 0) = (cp == 0) := by by_cases h : cp = 0 <;> simp [h]
  rw [e]
  clear hcp hr e
  go_enter Try.func14, Try.ntmps14
  go_wp2_with fail
  refine H0.out.mono ?_
  rintro e w1 ⟨rfl, b1⟩
  go_wp2
  go_ret
  exact ⟨rfl, HL.out.trans (b1.mono HL.out.size)⟩
theorem slV_yes {x : Int} (h0 : 0 ≤ x) (h : (x.tmod 2 == 1) = true) : slV x = 1 := by
  have := beq_iff_eq.1 h
  unfold slV
  rw [if_pos (by rw [Int.tmod_eq_emod_of_nonneg h0] at this; exact this)]
theorem slV_no {x : Int} (h0 : 0 ≤ x) (h : (x.tmod 2 == 1) = false) : slV x = -1 := by
  have := beq_eq_false_iff_ne.1 h
  unfold slV
  rw [if_neg (by rw [Int.tmod_eq_emod_of_nonneg h0] at this; exact this)]
theorem slope_spec (w : World) (x y : Int) (x0 : 0 ≤ x) (x1 : x ≤ 16) : Calls Try.prog 50 #[.agg #[.int .i64 x, .int .i64 y]] w (Gives (.int .i64 (slV x)) w) := by
  have HL := Lib.hid (show Below w.heap.size w (w.alloc (.cells #[.int .i64 x, .int .i64 y] 31)) from (Below.refl _ _).alloc (Nat.le_refl _) _)
  by_cases h : x % 2 = 1
  · have e : slV x = 1 := if_pos h
    have h2 : (x % 2 == 1) = true := beq_iff_eq.2 h
    rw [e]
    clear e h
    go_enter Try.func50, Try.ntmps50
    go_wp2
    go_ret
    exact ⟨rfl, HL.out⟩
  · have e : slV x = -1 := if_neg h
    have h2 : (x % 2 == 1) = false := beq_eq_false_iff_ne.2 h
    rw [e]
    clear e h
    go_enter Try.func50, Try.ntmps50
    go_wp2
    go_ret
    exact ⟨rfl, HL.out⟩
theorem slope_impl (w : World) (x y : Int) (x0 : 0 ≤ x) (x1 : x ≤ 16) : Calls Try.prog 51 #[.agg #[.int .i64 x, .int .i64 y]] w (Gives (.int .i64 (slV x)) w) := by
  have HL := Lib.hid (show Below w.heap.size w (w.alloc (.cells #[.int .i64 x, .int .i64 y] 31)) from (Below.refl _ _).alloc (Nat.le_refl _) _)
  by_cases h : x % 2 = 1
  · have e : slV x = 1 := if_pos h
    have h2 : (x % 2 == 1) = true := beq_iff_eq.2 h
    rw [e]
    clear e h
    go_enter Try.func51, Try.ntmps51
    go_wp2
    go_ret
    exact ⟨rfl, HL.out⟩
  · have e : slV x = -1 := if_neg h
    have h2 : (x % 2 == 1) = false := beq_eq_false_iff_ne.2 h
    rw [e]
    clear e h
    go_enter Try.func51, Try.ntmps51
    go_wp2
    go_ret
    exact ⟨rfl, HL.out⟩
/-- OverSlope's first result -/
def osV (W H : Int) (n : Nat) (f : Nat → Int) (x y : Int) : Int := if cxC W H n f x y = 0 then slV x else 0
theorem cxC_bd {W H : Int} {n : Nat} {f : Nat → Int} {x y : Int} (h : cxC W H n f x y = 0) : 0 ≤ x ∧ x ≤ 16 := by
  obtain ⟨h1, h2, h3⟩ := cxC_zero h
  obtain ⟨hW, hH, -, -⟩ := validB_yes h1
  obtain ⟨a, b, -, -⟩ := has_bd hW hH h2
  exact ⟨a, b⟩
theorem spec_xcode (w : World) (p : Nat) (W H : Int) (A : Option Addr) (n c : Nat) (f : Nat → Int) (x y : Int) (hb : Box w p W H A n c) (hr : Row .i64 w A n c f) :
    Calls Try.prog 47 #[.pointer (some ⟨p, 0, none⟩), .agg #[.int .i64 x, .int .i64 y]] w (Gives (.int .i64 (cxC W H n f x y)) w) := by
  have HL := Lib.hid (show Below w.heap.size w (w.alloc (.cells #[.int .i64 x, .int .i64 y] 31)) from (Below.refl _ _).alloc (Nat.le_refl _) _)
  have HX := Lib.hid (hb.below HL.out hb.1)
  have HR := Lib.hid (hr.below HL.out (Nat.le_refl _))
  have HD := Lib.hid (Dot.new w 31 x y)
  have HC := Lib.hid (spec_code _ p W H A n c f x y HX.out HR.out)
  clear hb hr
  obtain ⟨cp, hcp⟩ : ∃ cp, codeP W H n f x y = cp := ⟨_, rfl⟩
  rw [hcp] at HC
  by_cases c0 : cp = 0
  · subst c0
    obtain ⟨hv, hh, he⟩ := code_zero hcp
    have hx : cxC W H n f x y = if isX W H f x y then 0 else 6 := by unfold cxC; rw [hv, hh]; rfl
    rw [hx]
    obtain ⟨v, hxv⟩ : ∃ v, isX W H f x y = v := ⟨_, rfl⟩
    rw [hxv]
    have HV := Lib.hid hv
    have HH := Lib.hid hh
    have HXV := Lib.hid hxv
    clear hv hh he hx hxv hcp
    cases v <;>
    · go_enter Try.func47, Try.ntmps47
      go_wp2_with fail
      refine HC.out.mono ?_
      rintro e w1 ⟨rfl, b1⟩
      have X1 := Lib.hid (HX.out.below b1 HX.out.1)
      have R1 := Lib.hid (HR.out.below b1 (Nat.le_refl _))
      obtain ⟨dz, d0, d1⟩ := HD.out.below b1 HD.out.1
      have HL1 := Lib.hid (HL.out.trans (b1.mono HL.out.size))
      clear b1 HX HR HD HL HC
      go_wp2_with fail
      refine (spec_isX_is HXV.out X1.out R1.out HV.out HH.out).mono ?_
      rintro e w2 ⟨rfl, b2⟩
      go_wp2
      go_ret
      exact ⟨rfl, HL1.out.trans (b2.mono HL1.out.size)⟩
  · have hx : cxC W H n f x y = cp := by rw [cxC_is, hcp, if_neg c0]
    rw [hx]
    have hcb : (cp == 0) = false := beq_eq_false_iff_ne.2 c0
    clear hx hcp c0
    go_enter Try.func47, Try.ntmps47
    go_wp2_with fail
    refine HC.out.mono ?_
    rintro e w1 ⟨rfl, b1⟩
    go_wp2
    go_ret
    exact ⟨rfl, HL.out.trans (b1.mono HL.out.size)⟩
theorem spec_overSlope (w : World) (W H : Int) (A : Option Addr) (n c : Nat) (f : Nat → Int) (x y : Int) (hr : Row .i64 w A n c f) :
    Calls Try.prog 24 #[.agg #[.int .i64 W, .int .i64 H, .slice A n c], .agg #[.int .i64 x, .int .i64 y]] w (Gives (.tuple #[.int .i64 (osV W H n f x y), .int .i64 (cxC W H n f x y)]) w) := by
  have HL := Lib.hid (show Below w.heap.size w ((w.alloc (.cells #[.int .i64 W, .int .i64 H, .slice A n c] 29)).alloc (.cells #[.int .i64 x, .int .i64 y] 31)) from ((Below.refl _ _).alloc (Nat.le_refl _) _).alloc (by simp) _)
  have HX := Lib.hid (two_boxes w 29 31 W H A n c x y)
  have HC := Lib.hid (spec_xcode _ _ W H A n c f x y HX.out (hr.below HL.out (Nat.le_refl _)))
  have D0 := Dot.new (w.alloc (.cells #[.int .i64 W, .int .i64 H, .slice A n c] 29)) 31 x y
  simp only [World.size_alloc] at D0
  have HD := Lib.hid D0
  have hbd := cxC_bd (W := W) (H := H) (n := n) (f := f) (x := x) (y := y)
  unfold osV
  obtain ⟨cp, hcp⟩ : ∃ cp, cxC W H n f x y = cp := ⟨_, rfl⟩
  rw [hcp] at HC hbd ⊢
  clear D0 hr hcp
  by_cases c0 : cp = 0
  · obtain ⟨x0, x1⟩ := hbd c0
    subst c0
    rw [if_pos rfl]
    clear hbd
    go_enter Try.func24, Try.ntmps24
    go_wp2_with fail
    refine HC.out.mono ?_
    rintro e w1 ⟨rfl, b1⟩
    obtain ⟨dz, d0, d1⟩ := HD.out.below b1 HD.out.1
    have HL1 := Lib.hid (HL.out.trans (b1.mono HL.out.size))
    clear b1 HC HX HD HL
    go_wp2_with fail
    refine (slope_spec _ x y x0 x1).mono ?_
    rintro e w2 ⟨rfl, b2⟩
    go_wp2
    go_ret2
    exact ⟨rfl, HL1.out.trans (b2.mono HL1.out.size)⟩
  · have hcb : (cp != 0) = true := bne_iff_ne.2 c0
    rw [if_neg c0]
    clear c0 hbd
    go_enter Try.func24, Try.ntmps24
    go_wp2_with fail
    refine HC.out.mono ?_
    rintro e w1 ⟨rfl, b1⟩
    go_wp2
    go_ret2
    exact ⟨rfl, HL.out.trans (b1.mono HL.out.size)⟩
theorem impl_overSlope (w : World) (W H : Int) (A : Option Addr) (n c : Nat) (f : Nat → Int) (x y : Int) (hr : Row .i64 w A n c f) :
    Calls Try.prog 25 #[.agg #[.int .i64 W, .int .i64 H, .slice A n c], .agg #[.int .i64 x, .int .i64 y]] w (Gives (.tuple #[.int .i64 (osV W H n f x y), .int .i64 (cxC W H n f x y)]) w) := by
  have HL := Lib.hid (show Below w.heap.size w ((w.alloc (.cells #[.int .i64 W, .int .i64 H, .slice A n c] 29)).alloc (.cells #[.int .i64 x, .int .i64 y] 31)) from ((Below.refl _ _).alloc (Nat.le_refl _) _).alloc (by simp) _)
  have HC := Lib.hid (impl_crossingCode _ W H A n c f x y (hr.below HL.out (Nat.le_refl _)))
  have D0 := Dot.new (w.alloc (.cells #[.int .i64 W, .int .i64 H, .slice A n c] 29)) 31 x y
  simp only [World.size_alloc] at D0
  have HD := Lib.hid D0
  have hbd := cxC_bd (W := W) (H := H) (n := n) (f := f) (x := x) (y := y)
  unfold osV
  obtain ⟨cp, hcp⟩ : ∃ cp, cxC W H n f x y = cp := ⟨_, rfl⟩
  rw [hcp] at HC hbd ⊢
  clear D0 hr hcp
  by_cases c0 : cp = 0
  · obtain ⟨x0, x1⟩ := hbd c0
    subst c0
    rw [if_pos rfl]
    clear hbd
    go_enter Try.func25, Try.ntmps25
    go_wp2_with fail
    refine HC.out.mono ?_
    rintro e w1 ⟨rfl, b1⟩
    obtain ⟨dz, d0, d1⟩ := HD.out.below b1 HD.out.1
    have HL1 := Lib.hid (HL.out.trans (b1.mono HL.out.size))
    clear b1 HC HD HL
    go_wp2_with fail
    refine (slope_impl _ x y x0 x1).mono ?_
    rintro e w2 ⟨rfl, b2⟩
    go_wp2
    go_ret2
    exact ⟨rfl, HL1.out.trans (b2.mono HL1.out.size)⟩
  · have hcb : (cp != 0) = true := bne_iff_ne.2 c0
    rw [if_neg c0]
    clear c0 hbd
    go_enter Try.func25, Try.ntmps25
    go_wp2_with fail
    refine HC.out.mono ?_
    rintro e w1 ⟨rfl, b1⟩
    go_wp2
    go_ret2
    exact ⟨rfl, HL.out.trans (b1.mono HL.out.size)⟩
end Go.Proofs.Ytbpdjmjkjiddjaa.Base
