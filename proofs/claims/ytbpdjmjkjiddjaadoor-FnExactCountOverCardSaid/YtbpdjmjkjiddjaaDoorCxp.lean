/-
  Crossings: whether lines cross at a point, the slope of the line above; the model's and the program's.
-/
import Derived.Test.YtbpdjmjkjiddjaaDoorCxe
namespace Go.Proofs.YtbpdjmjkjiddjaaDoor.Base
open Go Go.RowKit
set_option linter.unusedVariables false
set_option linter.unusedSimpArgs false

set_option maxHeartbeats 2000000 in
theorem spec_isX (w : World) (p : Nat) (W H : Int) (A : Option Addr) (n c : Nat) (f : Nat → Int) (x y : Int) (hb : Box w p W H A n c) (hr : Row .i64 w A n c f) (hv : validB W H n f = true) (hh : hasB W H x y = true) :
    Calls Tryd.prog 133 #[.pointer (some ⟨p, 0, none⟩), .agg #[.int .i64 x, .int .i64 y]] w (Gives (.bool (isX W H f x y)) w) := by
  obtain ⟨hW, hH, hn, -⟩ := validB_yes hv
  have HXe := Lib.hid hb
  have HL := Lib.hid (show Below w.heap.size w (w.alloc (.cells #[.int .i64 x, .int .i64 y] 61)) from (Below.refl _ _).alloc (Nat.le_refl _) _)
  have HX := Lib.hid (hb.below HL.out hb.1)
  have HR := Lib.hid (hr.below HL.out (Nat.le_refl _))
  have D0 := Cel.new w [.int .i64 x, .int .i64 y] 61
  have HD := Lib.hid D0
  have hpw := hb.1
  clear D0 hb hr
  cases he : edgeB W H x y
  · obtain ⟨x1, x2, y1, y2⟩ := inside hW hH hh he
    obtain ⟨l1, l2⟩ := num_lt hW hH hh he
    have l3 : numN W x y < (n : Int) := by rw [hn]; exact l2
    have hnc := HR.out.1
    have hcm := HR.out.2.1
    unfold maxLen at hcm
    obtain ⟨b, o, rfl, hbl, hcell⟩ := HR.out.2.2.2 (by omega)
    have ck := hcell (numN W x y).toNat (by omega)
    obtain ⟨kv, hkv⟩ : ∃ kv, f (numN W x y).toNat = kv := ⟨_, rfl⟩
    rw [hkv] at ck
    obtain ⟨rb, hrb⟩ : ∃ rb, isX W H f x y = rb := ⟨_, rfl⟩
    rw [hrb]
    have hkb : (kv == 0) = rb := by
      rw [← hrb]; unfold isX; rw [he, hkv]
      by_cases h0 : kv = 0 <;> simp [h0]
    have HE := Lib.hid he
    clear he hkv hrb hcell hv hn hh l2
    go_enter Tryd.func133, Tryd.ntmps133
    go_wp2
    obtain ⟨wb, hwb⟩ : ∃ wb, w.alloc (.cells #[.int .i64 x, .int .i64 y] 61) = wb := ⟨_, rfl⟩
    obtain ⟨ba, hba⟩ : ∃ ba, w.heap.size = ba := ⟨_, rfl⟩
    rw [hwb] at HL HX HR HD ck hbl ⊢
    rw [hba] at HD hpw ⊢
    clear hwb
    have OL := Lib.hid (Old.mk_ (Below.refl wb.heap.size wb).drew)
    have dz := HD.out.1
    have d0 := HD.out.2 0 _ rfl
    have d1 := HD.out.2 1 _ rfl
    obtain ⟨pz, k0, k1, k2⟩ := id HX.out
    go_region_held3 (fun w' => (∀ b o, b < (wb).heap.size → w'.cell? ⟨b, o, none⟩ = (wb).cell? ⟨b, o, none⟩) ∧ Below (wb).heap.size (wb) w')
      (first | assumption | exact OL.out | exact Old.trans (by assumption) (by assumption))
      (first | (go_at_call 170; refine (specEdge_is (A := some ⟨b, o, none⟩) (n := n) (c := c) HE.out ?_ hW hH).mono ?_; exact HX.out.below (And.right (by assumption)) HX.out.1; rintro e wa ⟨rfl, bq⟩) | (go_at_call 171; refine (specNumber _ p W H (some ⟨b, o, none⟩) n c x y ?_ hW x1 x2 y1 y2).mono ?_; exact HX.out.below (And.right (by assumption)) HX.out.1; rintro e wa ⟨rfl, bq⟩))
    rename_i hS
    have hB := Lib.hid hS.2
    clear hS OL
    go_wp2
    go_ret
    exact ⟨rfl, HL.out.trans (hB.out.mono HL.out.size)⟩
  · exact spec_isXe w p W H A n c f x y HXe.out hW hH he
theorem spec_isX_is {w : World} {p : Nat} {W H : Int} {A : Option Addr} {n c : Nat} {f : Nat → Int} {x y : Int} {v : Bool} (h : isX W H f x y = v) (hb : Box w p W H A n c) (hr : Row .i64 w A n c f) (hv : validB W H n f = true) (hh : hasB W H x y = true) :
    Calls Tryd.prog 133 #[.pointer (some ⟨p, 0, none⟩), .agg #[.int .i64 x, .int .i64 y]] w (Gives (.bool v) w) := h ▸ spec_isX w p W H A n c f x y hb hr hv hh
theorem impl_crossingCode (w : World) (W H : Int) (A : Option Addr) (n c : Nat) (f : Nat → Int) (x y : Int) (hr : Row .i64 w A n c f) :
    Calls Tryd.prog 80 #[.agg #[.int .i64 W, .int .i64 H, .slice A n c], .agg #[.int .i64 x, .int .i64 y]] w (Gives (.int .i64 (cxC W H n f x y)) w) := by
  have HL := Lib.hid (show Below w.heap.size w ((w.alloc (.cells #[.int .i64 W, .int .i64 H, .slice A n c] 35)).alloc (.cells #[.int .i64 x, .int .i64 y] 61)) from ((Below.refl _ _).alloc (Nat.le_refl _) _).alloc (by simp) _)
  have H0 := Lib.hid (impl_breakAt _ W H A n c f x y (hr.below HL.out (Nat.le_refl _)))
  rw [cxC_is]
  obtain ⟨cp, hcp⟩ : ∃ cp, codeP W H n f x y = cp := ⟨_, rfl⟩
  obtain ⟨bp, hbp⟩ : ∃ bp, brkP W H n f x y = bp := ⟨_, rfl⟩
  rw [hcp, hbp] at H0 ⊢
  clear hcp hbp hr
  by_cases c0 : cp = 0
  · subst c0
    by_cases b0 : bp = 0
    · subst b0
      go_enter Tryd.func80, Tryd.ntmps80
      go_wp2_with fail
      refine H0.out.mono ?_
      rintro e w1 ⟨rfl, b1⟩
      go_wp2
      go_ret
      exact ⟨rfl, HL.out.trans (b1.mono HL.out.size)⟩
    · have hbb : (bp != 0) = true := bne_iff_ne.2 b0
      rw [if_pos rfl, if_neg b0]
      clear b0
      go_enter Tryd.func80, Tryd.ntmps80
      go_wp2_with fail
      refine H0.out.mono ?_
      rintro e w1 ⟨rfl, b1⟩
      go_wp2
      go_ret
      exact ⟨rfl, HL.out.trans (b1.mono HL.out.size)⟩
  · have hcb : (cp == 0) = false := beq_eq_false_iff_ne.2 c0
    rw [if_neg c0]
    clear c0
    go_enter Tryd.func80, Tryd.ntmps80
    go_wp2_with fail
    refine H0.out.mono ?_
    rintro e w1 ⟨rfl, b1⟩
    go_wp2
    go_ret
    exact ⟨rfl, HL.out.trans (b1.mono HL.out.size)⟩
theorem impl_isCrossing (w : World) (W H : Int) (A : Option Addr) (n c : Nat) (f : Nat → Int) (x y : Int) (hr : Row .i64 w A n c f) :
    Calls Tryd.prog 44 #[.agg #[.int .i64 W, .int .i64 H, .slice A n c], .agg #[.int .i64 x, .int .i64 y]] w (Gives (.bool (cxB W H n f x y)) w) := by
  have HL := Lib.hid (show Below w.heap.size w ((w.alloc (.cells #[.int .i64 W, .int .i64 H, .slice A n c] 35)).alloc (.cells #[.int .i64 x, .int .i64 y] 61)) from ((Below.refl _ _).alloc (Nat.le_refl _) _).alloc (by simp) _)
  have H0 := Lib.hid (impl_crossingCode _ W H A n c f x y (hr.below HL.out (Nat.le_refl _)))
  rw [cxB_is]
  obtain ⟨cp, hcp⟩ : ∃ cp, cxC W H n f x y = cp := ⟨_, rfl⟩
  rw [hcp] at H0 ⊢
  have e : decide (cp = 0) = (cp == 0) := by by_cases h : cp = 0 <;> simp [h]
  rw [e]
  clear hcp hr e
  go_enter Tryd.func44, Tryd.ntmps44
  go_wp2_with fail
  refine H0.out.mono ?_
  rintro e w1 ⟨rfl, b1⟩
  go_wp2
  go_ret
  exact ⟨rfl, HL.out.trans (b1.mono HL.out.size)⟩
theorem slV_yes {x : Int} (h0 : 0 ≤ x) (h : (x.tmod 2 == 1) = true) : slV x = 1 := by
  have := beq_iff_eq.1 h
  unfold slV
  rw [if_pos (by rw [Int.tmod_eq_emod_of_nonneg h0] at this; exact this)]
theorem slV_no {x : Int} (h0 : 0 ≤ x) (h : (x.tmod 2 == 1) = false) : slV x = -1 := by
  have := beq_eq_false_iff_ne.1 h
  unfold slV
  rw [if_neg (by rw [Int.tmod_eq_emod_of_nonneg h0] at this; exact this)]
theorem slope_spec (w : World) (x y : Int) (x0 : 0 ≤ x) (x1 : x ≤ 16) : Calls Tryd.prog 172 #[.agg #[.int .i64 x, .int .i64 y]] w (Gives (.int .i64 (slV x)) w) := by
  have HL := Lib.hid (show Below w.heap.size w (w.alloc (.cells #[.int .i64 x, .int .i64 y] 61)) from (Below.refl _ _).alloc (Nat.le_refl _) _)
  by_cases h : x % 2 = 1
  · have e : slV x = 1 := if_pos h
    have h2 : (x % 2 == 1) = true := beq_iff_eq.2 h
    rw [e]
    clear e h
    go_enter Tryd.func172, Tryd.ntmps172
    go_wp2
    go_ret
    exact ⟨rfl, HL.out⟩
  · have e : slV x = -1 := if_neg h
    have h2 : (x % 2 == 1) = false := beq_eq_false_iff_ne.2 h
    rw [e]
    clear e h
    go_enter Tryd.func172, Tryd.ntmps172
    go_wp2
    go_ret
    exact ⟨rfl, HL.out⟩
theorem slope_impl (w : World) (x y : Int) (x0 : 0 ≤ x) (x1 : x ≤ 16) : Calls Tryd.prog 82 #[.agg #[.int .i64 x, .int .i64 y]] w (Gives (.int .i64 (slV x)) w) := by
  have HL := Lib.hid (show Below w.heap.size w (w.alloc (.cells #[.int .i64 x, .int .i64 y] 61)) from (Below.refl _ _).alloc (Nat.le_refl _) _)
  by_cases h : x % 2 = 1
  · have e : slV x = 1 := if_pos h
    have h2 : (x % 2 == 1) = true := beq_iff_eq.2 h
    rw [e]
    clear e h
    go_enter Tryd.func82, Tryd.ntmps82
    go_wp2
    go_ret
    exact ⟨rfl, HL.out⟩
  · have e : slV x = -1 := if_neg h
    have h2 : (x % 2 == 1) = false := beq_eq_false_iff_ne.2 h
    rw [e]
    clear e h
    go_enter Tryd.func82, Tryd.ntmps82
    go_wp2
    go_ret
    exact ⟨rfl, HL.out⟩
/-- OverSlope's first result -/
def osV (W H : Int) (n : Nat) (f : Nat → Int) (x y : Int) : Int := if cxC W H n f x y = 0 then slV x else 0
theorem cxC_bd {W H : Int} {n : Nat} {f : Nat → Int} {x y : Int} (h : cxC W H n f x y = 0) : 0 ≤ x ∧ x ≤ 16 := by
  obtain ⟨h1, h2, h3⟩ := cxC_zero h
  obtain ⟨hW, hH, -, -⟩ := validB_yes h1
  obtain ⟨a, b, -, -⟩ := has_bd hW hH h2
  exact ⟨a, b⟩
theorem impl_overSlope (w : World) (W H : Int) (A : Option Addr) (n c : Nat) (f : Nat → Int) (x y : Int) (hr : Row .i64 w A n c f) :
    Calls Tryd.prog 43 #[.agg #[.int .i64 W, .int .i64 H, .slice A n c], .agg #[.int .i64 x, .int .i64 y]] w (Gives (.tuple #[.int .i64 (osV W H n f x y), .int .i64 (cxC W H n f x y)]) w) := by
  have HL := Lib.hid (show Below w.heap.size w ((w.alloc (.cells #[.int .i64 W, .int .i64 H, .slice A n c] 35)).alloc (.cells #[.int .i64 x, .int .i64 y] 61)) from ((Below.refl _ _).alloc (Nat.le_refl _) _).alloc (by simp) _)
  have HC := Lib.hid (impl_crossingCode _ W H A n c f x y (hr.below HL.out (Nat.le_refl _)))
  have D0 := Dot.new (w.alloc (.cells #[.int .i64 W, .int .i64 H, .slice A n c] 35)) 61 x y
  simp only [World.size_alloc] at D0
  have HD := Lib.hid D0
  have hbd := cxC_bd (W := W) (H := H) (n := n) (f := f) (x := x) (y := y)
  unfold osV
  obtain ⟨cp, hcp⟩ : ∃ cp, cxC W H n f x y = cp := ⟨_, rfl⟩
  rw [hcp] at HC hbd ⊢
  clear D0 hr hcp
  by_cases c0 : cp = 0
  · obtain ⟨x0, x1⟩ := hbd c0
    subst c0
    rw [if_pos rfl]
    clear hbd
    go_enter Tryd.func43, Tryd.ntmps43
    go_wp2_with fail
    refine HC.out.mono ?_
    rintro e w1 ⟨rfl, b1⟩
    obtain ⟨dz, d0, d1⟩ := HD.out.below b1 HD.out.1
    have HL1 := Lib.hid (HL.out.trans (b1.mono HL.out.size))
    clear b1 HC HD HL
    go_wp2_with fail
    refine (slope_impl _ x y x0 x1).mono ?_
    rintro e w2 ⟨rfl, b2⟩
    go_wp2
    go_ret2
    exact ⟨rfl, HL1.out.trans (b2.mono HL1.out.size)⟩
  · have hcb : (cp != 0) = true := bne_iff_ne.2 c0
    rw [if_neg c0]
    clear c0 hbd
    go_enter Tryd.func43, Tryd.ntmps43
    go_wp2_with fail
    refine HC.out.mono ?_
    rintro e w1 ⟨rfl, b1⟩
    go_wp2
    go_ret2
    exact ⟨rfl, HL.out.trans (b1.mono HL.out.size)⟩
end Go.Proofs.YtbpdjmjkjiddjaaDoor.Base
