/-
  MapPoint: the specification's, the program's.
-/
import Derived.Test.YtdofeonkgaceeaaMov
import Derived.Test.YtdofeonkgaceeaaYm
import Derived.Test.YtdofeonkgaceeaaPan
import Derived.Test.YtdofeonkgaceeaaSame
namespace Go.Proofs.Ytdofeonkgaceeaa.Base
open Go Go.RowKit
set_option linter.unusedVariables false
set_option linter.unusedSimpArgs false

def mqC (W H : Int) (n : Nat) (f : Nat → Int) (x y s : Int) : Int := if validB W H n f then (if inB s 0 7 then (if hasB W H x y then 0 else 2) else 2) else 1
def mqX (W H : Int) (n : Nat) (f : Nat → Int) (x y s : Int) : Int := if mqC W H n f x y s = 0 then mvX W H s x y else 0
def mqY (W H : Int) (n : Nat) (f : Nat → Int) (x y s : Int) : Int := if mqC W H n f x y s = 0 then mvY W H s x y else 0
section
variable {W H : Int} {n : Nat} {f : Nat → Int} {x y s : Int}
theorem mq_1 (h : validB W H n f = false) : mqC W H n f x y s = 1 ∧ mqX W H n f x y s = 0 ∧ mqY W H n f x y s = 0 := by simp [mqC, mqX, mqY, h]
theorem mq_2 (h : validB W H n f = true) (h2 : inB s 0 7 = false) : mqC W H n f x y s = 2 ∧ mqX W H n f x y s = 0 ∧ mqY W H n f x y s = 0 := by simp [mqC, mqX, mqY, h, h2]
theorem mq_3 (h : validB W H n f = true) (h2 : inB s 0 7 = true) (h3 : hasB W H x y = false) : mqC W H n f x y s = 2 ∧ mqX W H n f x y s = 0 ∧ mqY W H n f x y s = 0 := by simp [mqC, mqX, mqY, h, h2, h3]
theorem mq_0 (h : validB W H n f = true) (h2 : inB s 0 7 = true) (h3 : hasB W H x y = true) : mqC W H n f x y s = 0 ∧ mqX W H n f x y s = mvX W H s x y ∧ mqY W H n f x y s = mvY W H s x y := by simp [mqC, mqX, mqY, h, h2, h3]
end
theorem impl_symCode (w : World) (W H : Int) (A : Option Addr) (n c : Nat) (f : Nat → Int) (s : Int) (hr : Row .i64 w A n c f) :
    Calls Try.prog 31 #[.agg #[.int .i64 W, .int .i64 H, .slice A n c], .int .i64 s] w (Gives (.int .i64 (mpC W H n f s)) w) := by
  have hb := (Below.refl w.heap.size w).alloc (Nat.le_refl _) (.cells #[.int .i64 W, .int .i64 H, .slice A n c] 36)
  have HL := Lib.hid hb
  have HR := Lib.hid (hr.below hb (Nat.le_refl _))
  clear hb hr
  cases hv : validB W H n f
  · rw [mpC_1 hv]
    have HV := Lib.hid hv
    clear hv
    go_enter Try.func31, Try.ntmps31
    go_wp2_with fail
    refine (implOk_is HV.out HR.out).mono ?_
    rintro e w1 ⟨rfl, b1⟩
    go_wp2
    go_ret
    exact ⟨rfl, HL.out.trans (b1.mono (by simp))⟩
  · have HV := Lib.hid hv
    cases hs : inB s 0 7
    · rw [mpC_2 hv hs]
      clear hv
      go_enter Try.func31, Try.ntmps31
      go_wp2_with fail
      refine (implOk_is HV.out HR.out).mono ?_
      rintro e w1 ⟨rfl, b1⟩
      go_wp2_with fail
      refine (impl_sym hs _).mono ?_
      rintro e w1 ⟨rfl, rfl⟩
      go_wp2
      go_ret
      exact ⟨rfl, HL.out.trans (b1.mono (by simp))⟩
    · rw [mpC_0 hv hs]
      clear hv
      go_enter Try.func31, Try.ntmps31
      go_wp2_with fail
      refine (implOk_is HV.out HR.out).mono ?_
      rintro e w1 ⟨rfl, b1⟩
      go_wp2_with fail
      refine (impl_sym hs _).mono ?_
      rintro e w1 ⟨rfl, rfl⟩
      go_wp2
      go_ret
      exact ⟨rfl, HL.out.trans (b1.mono (by simp))⟩
/-- the three boxes of MapPoint -/
structure MSt (w0 : World) (W H : Int) (A : Option Addr) (n c : Nat) (x y : Int) (w : World) : Prop where
  pan : At w w0.heap.size #[.int .i64 W, .int .i64 H, .slice A n c] 36
  pt : At w (w0.heap.size + 1) #[.int .i64 x, .int .i64 y] 33
  res : At w (w0.heap.size + 1 + 1) #[.int .i64 0, .int .i64 0] 33
  bel : Below w0.heap.size w0 w
section
variable {w0 w w' : World} {W H : Int} {A : Option Addr} {n c : Nat} {x y : Int}
theorem MSt.next (h : MSt w0 W H A n c x y w) (b : Below w.heap.size w w') : MSt w0 W H A n c x y w' :=
  ⟨h.pan.below b h.pan.lt, h.pt.below b h.pt.lt, h.res.below b h.res.lt, h.bel.trans (b.mono h.bel.size)⟩
theorem MSt.drew (h : MSt w0 W H A n c x y w) : MSt w0 W H A n c x y w.drew := ⟨h.pan.drew, h.pt.drew, h.res.drew, h.bel.drew⟩
theorem MSt.box (h : MSt w0 W H A n c x y w) : Box w w0.heap.size W H A n c := ⟨h.pan.lt, h.pan.cellv (i := 0) rfl, h.pan.cellv (i := 1) rfl, h.pan.cellv (i := 2) rfl⟩
theorem MSt.cells (h : MSt w0 W H A n c x y w) : w0.heap.size + 1 + 1 < w.heap.size ∧ w0.heap.size < w.heap.size ∧ w0.heap.size + 1 < w.heap.size ∧ w.cell? ⟨w0.heap.size, 0, none⟩ = some (.int .i64 W) ∧ w.cell? ⟨w0.heap.size, 1, none⟩ = some (.int .i64 H) ∧ w.cell? ⟨w0.heap.size, 2, none⟩ = some (.slice A n c) ∧
    w.cell? ⟨w0.heap.size + 1, 0, none⟩ = some (.int .i64 x) ∧ w.cell? ⟨w0.heap.size + 1, 1, none⟩ = some (.int .i64 y) ∧ w.cell? ⟨w0.heap.size + 1 + 1, 0, none⟩ = some (.int .i64 0) ∧ w.cell? ⟨w0.heap.size + 1 + 1, 1, none⟩ = some (.int .i64 0) ∧
    w.frozen? ⟨w0.heap.size + 1 + 1, 0, none⟩ = false ∧ w.frozen? ⟨w0.heap.size + 1 + 1, 1, none⟩ = false :=
  ⟨h.res.lt, h.pan.lt, h.pt.lt, h.pan.cellv (i := 0) rfl, h.pan.cellv (i := 1) rfl, h.pan.cellv (i := 2) rfl, h.pt.cellv (i := 0) rfl, h.pt.cellv (i := 1) rfl, h.res.cellv (i := 0) rfl, h.res.cellv (i := 1) rfl, h.res.frozen 0, h.res.frozen 1⟩
end
theorem MSt.mk3 (w : World) (W H : Int) (A : Option Addr) (n c : Nat) (x y : Int) :
    MSt w W H A n c x y (((w.alloc (.cells #[.int .i64 W, .int .i64 H, .slice A n c] 36)).alloc (.cells #[.int .i64 x, .int .i64 y] 33)).alloc (.cells #[.int .i64 0, .int .i64 0] 33)) := by
  have h1 := At.new (w.alloc (.cells #[.int .i64 W, .int .i64 H, .slice A n c] 36)) #[.int .i64 x, .int .i64 y] 33
  have h2 := At.new ((w.alloc (.cells #[.int .i64 W, .int .i64 H, .slice A n c] 36)).alloc (.cells #[.int .i64 x, .int .i64 y] 33)) #[.int .i64 0, .int .i64 0] 33
  simp only [World.size_alloc] at h1 h2
  exact ⟨((At.new w _ _).below ((Below.refl _ _).alloc (Nat.le_refl _) _) (by simp)).below ((Below.refl _ _).alloc (Nat.le_refl _) _) (by simp; omega), h1.below ((Below.refl _ _).alloc (Nat.le_refl _) _) (by simp), h2, (((Below.refl _ _).alloc (Nat.le_refl _) _).alloc (by simp) _).alloc (by simp; omega) _⟩
set_option maxHeartbeats 4000000 in
theorem impl_mapPoint (w : World) (W H : Int) (A : Option Addr) (n c : Nat) (f : Nat → Int) (x y s : Int) (hr : Row .i64 w A n c f) :
    Calls Try.prog 15 #[.agg #[.int .i64 W, .int .i64 H, .slice A n c], .agg #[.int .i64 x, .int .i64 y], .int .i64 s] w (Gives (.tuple #[.agg #[.int .i64 (mqX W H n f x y s), .int .i64 (mqY W H n f x y s)], .int .i64 (mqC W H n f x y s)]) w) := by
  have HS0 := Lib.hid (MSt.mk3 w W H A n c x y)
  have HR := Lib.hid (hr.below (MSt.mk3 w W H A n c x y).bel (Nat.le_refl _))
  have HC : Hid (∀ w : World, Row .i64 w A n c f → Calls Try.prog 31 #[.agg #[.int .i64 W, .int .i64 H, .slice A n c], .int .i64 s] w (Gives (.int .i64 (mpC W H n f s)) w)) := Lib.hid fun w h => impl_symCode w W H A n c f s h
  clear hr
  cases hv : validB W H n f
  · rw [mpC_1 hv] at HC
    rw [(mq_1 hv).1, (mq_1 hv).2.1, (mq_1 hv).2.2]
    clear hv
    go_enter Try.func15, Try.ntmps15
    go_wp2_with fail
    refine (HC.out _ HR.out).mono ?_
    rintro e w1 ⟨rfl, b1⟩
    have HS1 := Lib.hid (HS0.out.next b1)
    obtain ⟨z, zA, zB, k0, k1, k2, d0, d1, r0, r1, f0, f1⟩ := HS1.out.cells
    clear b1
    go_wp2
    refine bodyPost_ret ?_ rfl ⟨rfl, (HS1.out.bel.setCell (by simp; omega) _).setCell (by simp; omega) _⟩
    simp [results, Try.results15, go_sem, r0, r1]
  · cases hs : inB s 0 7
    · rw [mpC_2 hv hs] at HC
      rw [(mq_2 hv hs).1, (mq_2 hv hs).2.1, (mq_2 hv hs).2.2]
      clear hv
      go_enter Try.func15, Try.ntmps15
      go_wp2_with fail
      refine (HC.out _ HR.out).mono ?_
      rintro e w1 ⟨rfl, b1⟩
      have HS1 := Lib.hid (HS0.out.next b1)
      obtain ⟨z, zA, zB, k0, k1, k2, d0, d1, r0, r1, f0, f1⟩ := HS1.out.cells
      clear b1
      go_wp2
      refine bodyPost_ret ?_ rfl ⟨rfl, (HS1.out.bel.setCell (by simp; omega) _).setCell (by simp; omega) _⟩
      simp [results, Try.results15, go_sem, r0, r1]
    · obtain ⟨hW, hH, -, -⟩ := validB_yes hv
      rw [mpC_0 hv hs] at HC
      cases hh : hasB W H x y
      · rw [(mq_3 hv hs hh).1, (mq_3 hv hs hh).2.1, (mq_3 hv hs hh).2.2]
        have HH := Lib.hid hh
        clear hv hh
        go_enter Try.func15, Try.ntmps15
        go_wp2_with fail
        refine (HC.out _ HR.out).mono ?_
        rintro e w1 ⟨rfl, b1⟩
        have HS1 := Lib.hid (HS0.out.next b1)
        obtain ⟨z, zA, zB, k0, k1, k2, d0, d1, r0, r1, f0, f1⟩ := HS1.out.cells
        have OL := Lib.hid (Old.mk_ (Below.refl w1.heap.size w1).drew)
        clear b1
        go_wp2
        go_region_held3 (fun w' => (∀ b o, b < (w1).heap.size → w'.cell? ⟨b, o, none⟩ = (w1).cell? ⟨b, o, none⟩) ∧ Below (w1).heap.size (w1) w') (first | assumption | exact OL.out | exact Old.trans (by assumption) (by assumption))
          (first | (go_at_call 32; refine (sizeOf_any _ W H A n c).mono ?_; rintro e wa ⟨rfl, ba⟩) | (go_at_call 33; refine (hasPoint_is HH.out hW hH).mono ?_; rintro e wb ⟨rfl, bb⟩))
        rename_i hS
        have HS2 := Lib.hid (HS1.out.next hS.2)
        clear hS k0 k1 k2 d0 d1 r0 r1 f0 f1 OL
        obtain ⟨z', zA', zB', k0, k1, k2, d0, d1, r0, r1, f0, f1⟩ := HS2.out.cells
        go_wp2
        refine bodyPost_ret ?_ rfl ⟨rfl, (HS2.out.bel.setCell (by simp; omega) _).setCell (by simp; omega) _⟩
        simp [results, Try.results15, go_sem, r0, r1]
      · obtain ⟨x1, x2, y1, y2, -⟩ := has_yes hh
        rw [(mq_0 hv hs hh).1, (mq_0 hv hs hh).2.1, (mq_0 hv hs hh).2.2]
        have HH := Lib.hid hh
        have HM : Hid (∀ (w : World) (p q b : Nat), Mov w p q b W H s → Calls Try.prog 43 #[.agg #[.int .i64 x, .int .i64 y], .pointer (some ⟨p, 0, none⟩), .pointer (some ⟨q, 0, none⟩)] w (Gives (.agg #[.int .i64 (mvX W H s x y), .int .i64 (mvY W H s x y)]) w)) := Lib.hid fun w p q b h => mover_call w p q b W H s x y h hW hH hs x1 x2 y1 y2
        have HQ := Lib.hid (fun w => mover_any w W H s hs)
        generalize mvX W H s x y = X at *
        generalize mvY W H s x y = Y at *
        clear hv hh x1 x2 y1 y2
        go_enter Try.func15, Try.ntmps15
        go_wp2_with fail
        refine (HC.out _ HR.out).mono ?_
        rintro e w1 ⟨rfl, b1⟩
        have HS1 := Lib.hid (HS0.out.next b1)
        obtain ⟨z, zA, zB, k0, k1, k2, d0, d1, r0, r1, f0, f1⟩ := HS1.out.cells
        have OL := Lib.hid (Old.mk_ (Below.refl w1.heap.size w1).drew)
        clear b1
        go_wp2
        go_region_held3 (fun w' => (∀ b o, b < (w1).heap.size → w'.cell? ⟨b, o, none⟩ = (w1).cell? ⟨b, o, none⟩) ∧ Below (w1).heap.size (w1) w') (first | assumption | exact OL.out | exact Old.trans (by assumption) (by assumption))
          (first | (go_at_call 32; refine (sizeOf_any _ W H A n c).mono ?_; rintro e wa ⟨rfl, ba⟩) | (go_at_call 33; refine (hasPoint_is HH.out hW hH).mono ?_; rintro e wb ⟨rfl, bb⟩))
        rename_i hS
        have HS2 := Lib.hid (HS1.out.next hS.2)
        clear hS k0 k1 k2 d0 d1 r0 r1 f0 f1 OL HS1
        obtain ⟨w2, hw2⟩ : ∃ w2 : World, w2 = wb := ⟨_, rfl⟩
        subst hw2
        have hst := HS2.out.drew
        obtain ⟨z', zA', zB', k0, k1, k2, d0, d1, r0, r1, f0, f1⟩ := hst.cells
        go_wp2
        go_region_with (first
          | (go_at_call 32; refine (sizeOf_any _ W H A n c).mono ?_; rintro e wa ⟨rfl, ba⟩; have hst := hst.next ba; obtain ⟨z', zA', zB', k0, k1, k2, d0, d1, r0, r1, f0, f1⟩ := hst.cells)
          | (go_at_call 34; refine (HQ.out _).mono ?_; rintro e wm ⟨mp, mq, mb, rfl, hmv, bm, -, -, -⟩; have hst := hst.next bm; obtain ⟨z', zA', zB', k0, k1, k2, d0, d1, r0, r1, f0, f1⟩ := hst.cells)
          | (go_at_call 43; refine (HM.out _ _ _ _ hmv).mono ?_; rintro e wc ⟨rfl, bc⟩; have hst := hst.next bc; obtain ⟨z', zA', zB', k0, k1, k2, d0, d1, r0, r1, f0, f1⟩ := hst.cells))
        all_goals
          go_wp2
          refine bodyPost_ret ?_ rfl ⟨rfl, (hst.bel.setCell (by simp; omega) _).setCell (by simp; omega) _⟩
          simp [results, Try.results15, go_sem, r0, r1]
set_option maxHeartbeats 4000000 in
theorem spec_mapPoint (w : World) (W H : Int) (A : Option Addr) (n c : Nat) (f : Nat → Int) (x y s : Int) (hr : Row .i64 w A n c f) :
    Calls Try.prog 12 #[.agg #[.int .i64 W, .int .i64 H, .slice A n c], .agg #[.int .i64 x, .int .i64 y], .int .i64 s] w (Gives (.tuple #[.agg #[.int .i64 (mqX W H n f x y s), .int .i64 (mqY W H n f x y s)], .int .i64 (mqC W H n f x y s)]) w) := by
  have HS0 := Lib.hid (MSt.mk3 w W H A n c x y)
  have HR := Lib.hid (hr.below (MSt.mk3 w W H A n c x y).bel (Nat.le_refl _))
  have HC : Hid (∀ (w : World) (p : Nat), Box w p W H A n c → Row .i64 w A n c f → Calls Try.prog 27 #[.pointer (some ⟨p, 0, none⟩), .int .i64 s] w (Gives (.int .i64 (mpC W H n f s)) w)) := Lib.hid fun w p hb h => (spec_code6 s hb h).mono fun _ _ h => drew_gives h
  clear hr
  cases hv : validB W H n f
  · rw [mpC_1 hv] at HC
    rw [(mq_1 hv).1, (mq_1 hv).2.1, (mq_1 hv).2.2]
    clear hv
    go_enter Try.func12, Try.ntmps12
    go_wp2_with fail
    refine (HC.out _ _ HS0.out.box HR.out).mono ?_
    rintro e w1 ⟨rfl, b1⟩
    have HS1 := Lib.hid (HS0.out.next b1)
    obtain ⟨z, zA, zB, k0, k1, k2, d0, d1, r0, r1, f0, f1⟩ := HS1.out.cells
    clear b1
    go_wp2
    refine bodyPost_ret ?_ rfl ⟨rfl, (HS1.out.bel.setCell (by simp; omega) _).setCell (by simp; omega) _⟩
    simp [results, Try.results12, go_sem, r0, r1]
  · cases hs : inB s 0 7
    · rw [mpC_2 hv hs] at HC
      rw [(mq_2 hv hs).1, (mq_2 hv hs).2.1, (mq_2 hv hs).2.2]
      clear hv
      go_enter Try.func12, Try.ntmps12
      go_wp2_with fail
      refine (HC.out _ _ HS0.out.box HR.out).mono ?_
      rintro e w1 ⟨rfl, b1⟩
      have HS1 := Lib.hid (HS0.out.next b1)
      obtain ⟨z, zA, zB, k0, k1, k2, d0, d1, r0, r1, f0, f1⟩ := HS1.out.cells
      clear b1
      go_wp2
      refine bodyPost_ret ?_ rfl ⟨rfl, (HS1.out.bel.setCell (by simp; omega) _).setCell (by simp; omega) _⟩
      simp [results, Try.results12, go_sem, r0, r1]
    · obtain ⟨hW, hH, -, -⟩ := validB_yes hv
      rw [mpC_0 hv hs] at HC
      cases hh : hasB W H x y
      · rw [(mq_3 hv hs hh).1, (mq_3 hv hs hh).2.1, (mq_3 hv hs hh).2.2]
        have HH := Lib.hid hh
        clear hv hh
        go_enter Try.func12, Try.ntmps12
        go_wp2_with fail
        refine (HC.out _ _ HS0.out.box HR.out).mono ?_
        rintro e w1 ⟨rfl, b1⟩
        have HS1 := Lib.hid (HS0.out.next b1)
        obtain ⟨z, zA, zB, k0, k1, k2, d0, d1, r0, r1, f0, f1⟩ := HS1.out.cells
        clear b1
        go_wp2_with fail
        refine (specHas_is HH.out HS1.out.box hW hH).mono ?_
        rintro e w2 ⟨rfl, b2⟩
        have HS2 := Lib.hid (HS1.out.next b2)
        clear k0 k1 k2 d0 d1 r0 r1 f0 f1 HS1 b2
        obtain ⟨z', zA', zB', k0, k1, k2, d0, d1, r0, r1, f0, f1⟩ := HS2.out.cells
        go_wp2
        refine bodyPost_ret ?_ rfl ⟨rfl, (HS2.out.bel.setCell (by simp; omega) _).setCell (by simp; omega) _⟩
        simp [results, Try.results12, go_sem, r0, r1]
      · obtain ⟨x1, x2, y1, y2, -⟩ := has_yes hh
        obtain ⟨a1, a2⟩ := side_mk hW
        obtain ⟨b1', b2'⟩ := side_mk hH
        rw [(mq_0 hv hs hh).1, (mq_0 hv hs hh).2.1, (mq_0 hv hs hh).2.2]
        have HH := Lib.hid hh
        have HM := Lib.hid fun w => spec_pt w W H x y s hW hH x1 (by omega) y1 (by omega) hs
        generalize mvX W H s x y = X at *
        generalize mvY W H s x y = Y at *
        clear hv hh x1 x2 y1 y2 a1 a2 b1' b2'
        go_enter Try.func12, Try.ntmps12
        go_wp2_with fail
        refine (HC.out _ _ HS0.out.box HR.out).mono ?_
        rintro e w1 ⟨rfl, b1⟩
        have HS1 := Lib.hid (HS0.out.next b1)
        obtain ⟨z, zA, zB, k0, k1, k2, d0, d1, r0, r1, f0, f1⟩ := HS1.out.cells
        clear b1
        go_wp2_with fail
        refine (specHas_is HH.out HS1.out.box hW hH).mono ?_
        rintro e w2 ⟨rfl, b2⟩
        have HS2 := Lib.hid (HS1.out.next b2)
        clear k0 k1 k2 d0 d1 r0 r1 f0 f1 HS1 b2
        obtain ⟨z', zA', zB', k0, k1, k2, d0, d1, r0, r1, f0, f1⟩ := HS2.out.cells
        go_wp2_with fail
        refine (HM.out _).mono ?_
        rintro e w3 ⟨rfl, b3⟩
        have HS3 := Lib.hid (HS2.out.next b3)
        clear k0 k1 k2 d0 d1 r0 r1 f0 f1 HS2 b3
        obtain ⟨z'', zA'', zB'', k0, k1, k2, d0, d1, r0, r1, f0, f1⟩ := HS3.out.cells
        go_wp2
        refine bodyPost_ret ?_ rfl ⟨rfl, (HS3.out.bel.setCell (by simp; omega) _).setCell (by simp; omega) _⟩
        simp [results, Try.results12, go_sem, r0, r1]
end Go.Proofs.Ytdofeonkgaceeaa.Base
