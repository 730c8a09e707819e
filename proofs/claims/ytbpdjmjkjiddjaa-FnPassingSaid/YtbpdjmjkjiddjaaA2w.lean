/-
  A2Walker: a drawn panel with a drawn walker.
-/
import Derived.Test.YtbpdjmjkjiddjaaDrw
import Derived.Test.YtbpdjmjkjiddjaaWlk
import Derived.Test.YtbpdjmjkjiddjaaSgo
import Derived.Test.YtbpdjmjkjiddjaaPnt
namespace Go.Proofs.Ytbpdjmjkjiddjaa.Base
open Go.RowKit
set_option linter.unusedVariables false
set_option linter.unusedSimpArgs false

/-- what one leaves -/
def TookB (s : Nat) (A : Option Addr) (n c : Nat) (k : Int) (w : World) (e : Ending) (w' : World) : Prop :=
  ∃ (v : Bool) (k' : Int), e = .returned (.bool v) ∧ Src w' s A n c k' ∧ k ≤ k' ∧ k' ≤ k + 2 ∧ Ext [s] w w'
theorem one_any (w : World) (s : Nat) (A : Option Addr) (n c : Nat) (f : Nat → Int) (k m : Int) (hs : Src w s A n c k) (hr : Row .u8 w A n c f) (hne : ∀ b, blk A = some b → 0 < n → b ≠ s) (k0 : 0 ≤ k) (k1 : k ≤ 900000) (hn : n ≤ 1000000) (m1 : 2 ≤ m) (m2 : m ≤ 60000) :
    Calls Try.prog 64 #[.pointer (some ⟨s, 0, none⟩), .int .i64 m] w (TookB s A n c k w) := by
  have HS := Lib.hid hs
  have HR := Lib.hid hr
  have HE := Lib.hid hne
  clear hs hr hne
  go_enter Try.func64, Try.ntmps64
  go_wp2_with fail
  refine (pick_any _ s A n c f k m HS.out HR.out HE.out k0 k1 hn m1 m2).mono ?_
  rintro e w1 ⟨v, k', rfl, v0, v1, j1, j2, j3, j4⟩
  go_wp2
  go_ret
  exact ⟨_, k', rfl, j1, j2, j3, j4⟩

/-- A2Walker -/
def WalkerDrawn (w : World) (e : Ending) (w' : World) : Prop :=
  ∃ (W H : Int) (A : Option Addr) (n c : Nat) (g : Nat → Int) (x y dx dy : Int), e = .returned (.tuple #[.agg #[.int .i64 W, .int .i64 H, .slice A n c], .agg #[.int .i64 x, .int .i64 y, .int .i64 dx, .int .i64 dy]]) ∧
    wkB W H n g x y dx dy = true ∧ OwnRow w' w.heap.size A n c g ∧ Below w.heap.size w w'

set_option maxHeartbeats 4000000 in
theorem a2Walker_any (w : World) (A0 : Option Addr) (n0 c0 : Nat) (f0 : Nat → Int) (hr : Row .u8 w A0 n0 c0 f0) (hn : n0 ≤ 1000000) :
    Calls Try.prog 35 #[.slice A0 n0 c0] w (WalkerDrawn w) := by
  have HBL := Lib.hid (row_blk hr)
  have HR := Lib.hid hr
  clear hr
  go_enter Try.func35, Try.ntmps35
  go_wp2_with fail
  refine (from_any _ A0 n0 c0).mono ?_
  rintro e w1 ⟨s, rfl, s0, S1, b1⟩
  have HS1 := Lib.hid S1
  have HT1 := Lib.hid (((At.new w #[.int .i64 0, .int .i64 0, .slice none 0 0] 29).below ((Below.refl _ _).alloc (Nat.le_refl _) (.cells #[.int .i64 0, .int .i64 0, .int .i64 0, .int .i64 0] 48)) (by simp)).below b1 (by simp; omega))
  have HU1 : Hid (At w1 (w.heap.size + 1) #[.int .i64 0, .int .i64 0, .int .i64 0, .int .i64 0] 48) := Lib.hid (by have h := (At.new (w.alloc (.cells #[.int .i64 0, .int .i64 0, .slice none 0 0] 29)) #[.int .i64 0, .int .i64 0, .int .i64 0, .int .i64 0] 48).below b1 (by simp); simpa using h)
  have HL1 := Lib.hid ((((Below.refl w.heap.size w).alloc (Nat.le_refl _) (.cells #[.int .i64 0, .int .i64 0, .slice none 0 0] 29)).alloc (by simp) (.cells #[.int .i64 0, .int .i64 0, .int .i64 0, .int .i64 0] 48)).trans (b1.mono (by simp; omega)))
  have zz : w.heap.size + 1 < s := by simp at s0; omega
  clear S1 b1 s0
  go_wp2_with fail
  refine (draw_any _ s A0 n0 c0 f0 0 HS1.out (HR.out.below HL1.out (Nat.le_refl _)) (fun b hb h0 => by have := HBL.out h0 b hb; omega) (by omega) (by omega) hn).mono ?_
  rintro e w2 ⟨W, H, A, n, c, g, k', rfl, hW, hH, hW5, hH5, hni, hK, O2, S2, q1, q2, x2⟩
  obtain ⟨a1, a2⟩ := side_mk hW
  obtain ⟨c1, c2⟩ := side_mk hH
  have hWH : 4 ≤ 4 * W * H ∧ 4 * W * H ≤ 100 := by
    have h : W = 1 ∨ W = 2 ∨ W = 3 ∨ W = 4 ∨ W = 5 := by omega
    rcases h with rfl | rfl | rfl | rfl | rfl <;> omega
  obtain ⟨m1, m2⟩ := hWH
  have HV := Lib.hid (valid_mk hW hH hni hK)
  have HQ := Lib.hid (row_blk O2.row)
  have HQL := Lib.hid O2.base_lt
  have x3 := x2.trans (Ext.alloc (X := [s]) w2 (.cells #[.int .i64 W, .int .i64 H, .slice A n c] 29))
  have e3 := Ext.alloc (X := []) w2 (.cells #[.int .i64 W, .int .i64 H, .slice A n c] 29)
  have HP3 := Lib.hid (At.new w2 #[.int .i64 W, .int .i64 H, .slice A n c] 29)
  have HO3 := Lib.hid (O2.ext e3 (by simp))
  have HS3 := Lib.hid (S2.ext e3 (by simp))
  have HX3 := Lib.hid x3
  have zs := S2.1
  have zw := HS1.out.1
  have zx := x2.size
  clear hni O2 S2 x2 x3 e3
  go_wp2_with fail
  generalize w2.alloc (.cells #[.int .i64 W, .int .i64 H, .slice A n c] 29) = w3 at *
  generalize hp5 : w2.heap.size = p5 at *
  refine (pick_any _ s A0 n0 c0 f0 k' (4 * W * H) HS3.out (HR.out.below (HL1.out.trans ((HX3.out.below (B := s) (by simp) (Nat.le_of_lt zw)).mono (by omega))) (Nat.le_refl _)) (fun b hb h0 => by have := HBL.out h0 b hb; omega) (by omega) (by omega) hn (by omega) (by omega)).mono ?_
  rintro e w4 ⟨v, k2, rfl, v0, v1, j1, j2, j3, j4⟩
  obtain ⟨m, rfl⟩ : ∃ m : Nat, v = m := ⟨v.toNat, by omega⟩
  obtain ⟨hwR, hwL⟩ := seg_go HV.out (show (m : Int) < 4 * W * H by omega)
  have HS4 := Lib.hid j1
  have HP4 := Lib.hid (HP3.out.ext j4 (by simp; omega))
  have HO4 := Lib.hid (HO3.out.ext j4 (fun b hb h0 => by have := HQL.out h0 b hb; simp; omega))
  have HX4 := Lib.hid (HX3.out.trans j4)
  clear j1 j4 HS3 HP3 HO3 HX3
  go_wp2_with fail
  refine (specWalker _ p5 W H A n c m ⟨HP4.out.lt, HP4.out.cellv (i := 0) rfl, HP4.out.cellv (i := 1) rfl, HP4.out.cellv (i := 2) rfl⟩ hH (by omega) (by omega)).mono ?_
  rintro e w5 ⟨rfl, b5⟩
  have HS5 := Lib.hid (HS4.out.ext (Ext.of_below (X := []) b5) (by simp))
  have HP5 := Lib.hid (HP4.out.below b5 HP4.out.lt)
  have HO5 := Lib.hid (HO4.out.below b5 (Nat.le_refl _))
  have HX5 := Lib.hid (HX4.out.trans (Ext.of_below b5))
  clear b5 HS4 HP4 HO4 HX4
  go_wp2_with fail
  have e6 := Ext.alloc (X := []) w5 (.cells #[.int .i64 (wtX H m), .int .i64 (wtY H m), .int .i64 1, .int .i64 (wtD H m)] 48)
  have HW6 := Lib.hid (At.new w5 #[.int .i64 (wtX H m), .int .i64 (wtY H m), .int .i64 1, .int .i64 (wtD H m)] 48)
  have HS6 := Lib.hid (HS5.out.ext e6 (by simp))
  have HP6 := Lib.hid (HP5.out.ext e6 (by simp))
  have HO6 := Lib.hid (HO5.out.ext e6 (by simp))
  have HX6 := Lib.hid (HX5.out.trans (Ext.alloc (X := [s]) w5 (.cells #[.int .i64 (wtX H m), .int .i64 (wtY H m), .int .i64 1, .int .i64 (wtD H m)] 48)))
  have zp := HP5.out.lt
  have z5 := HX5.out.size
  clear e6 HS5 HP5 HO5 HX5
  generalize w5.alloc (.cells #[.int .i64 (wtX H m), .int .i64 (wtY H m), .int .i64 1, .int .i64 (wtD H m)] 48) = w6 at *
  generalize hp6 : w5.heap.size = p6 at *
  refine (one_any _ s A0 n0 c0 f0 k2 2 HS6.out (HR.out.below (HL1.out.trans ((HX6.out.below (B := s) (by simp) (Nat.le_of_lt zw)).mono (by omega))) (Nat.le_refl _)) (fun b hb h0 => by have := HBL.out h0 b hb; omega) (by omega) (by omega) hn (by omega) (by omega)).mono ?_
  rintro e w7 ⟨bb, k3, rfl, l1, l2, l3, l4⟩
  have HP7 := Lib.hid (HP6.out.ext l4 (by simp; omega))
  have HW7 := Lib.hid (HW6.out.ext l4 (by simp; omega))
  have HO7 := Lib.hid (HO6.out.ext l4 (fun b hb h0 => by have := HQL.out h0 b hb; simp; omega))
  have HX7 := Lib.hid (HX6.out.trans l4)
  have HT7 := Lib.hid (HT1.out.ext HX7.out (by simp; omega))
  have HU7 := Lib.hid (HU1.out.ext HX7.out (by simp; omega))
  have HL7 := Lib.hid (HL1.out.trans ((HX7.out.below (B := s) (by simp) (Nat.le_of_lt zw)).mono (by omega)))
  clear l1 l4 HS6 HP6 HW6 HO6 HX6
  cases bb
  · -- to the right
    have p0 := HP7.out.cellv (i := 0) rfl
    have p1 := HP7.out.cellv (i := 1) rfl
    have p2 := HP7.out.cellv (i := 2) rfl
    have r0 := HW7.out.cellv (i := 0) rfl
    have r1 := HW7.out.cellv (i := 1) rfl
    have r2 := HW7.out.cellv (i := 2) rfl
    have r3 := HW7.out.cellv (i := 3) rfl
    have t0 := HT7.out.cellv (i := 0) rfl
    have t1 := HT7.out.cellv (i := 1) rfl
    have t2 := HT7.out.cellv (i := 2) rfl
    have u0 := HU7.out.cellv (i := 0) rfl
    have u1 := HU7.out.cellv (i := 1) rfl
    have u2 := HU7.out.cellv (i := 2) rfl
    have u3 := HU7.out.cellv (i := 3) rfl
    have ft0 := HT7.out.frozen 0
    have ft1 := HT7.out.frozen 1
    have ft2 := HT7.out.frozen 2
    have fu0 := HU7.out.frozen 0
    have fu1 := HU7.out.frozen 1
    have fu2 := HU7.out.frozen 2
    have fu3 := HU7.out.frozen 3
    go_wp2
    go_region
    all_goals go_wp2
    have HE := Lib.hid (((((((Ext.set (X := [w.heap.size, w.heap.size + 1]) w7 ⟨w.heap.size, 0, none⟩ (.int .i64 W) (by simp)).trans (Ext.set _ ⟨w.heap.size, 1, none⟩ (.int .i64 H) (by simp))).trans (Ext.set _ ⟨w.heap.size, 2, none⟩ (.slice A n c) (by simp))).trans (Ext.set _ ⟨w.heap.size + 1, 0, none⟩ (.int .i64 (wtX H m)) (by simp))).trans (Ext.set _ ⟨w.heap.size + 1, 1, none⟩ (.int .i64 (wtY H m)) (by simp))).trans (Ext.set _ ⟨w.heap.size + 1, 2, none⟩ (.int .i64 1) (by simp))).trans (Ext.set _ ⟨w.heap.size + 1, 3, none⟩ (.int .i64 (wtD H m)) (by simp)))
    refine bodyPost_ret ?_ rfl ⟨W, H, A, n, c, g, (wtX H m), (wtY H m), 1, (wtD H m), rfl, hwR, ((HO7.out.ext (HE.out.trans (Ext.drew _)) (fun b hb h0 => by have := HQL.out h0 b hb; simp; omega)).mono (by have := HL1.out.size; omega)), HL7.out.trans ((HE.out.trans (Ext.drew _)).below (by simp) (by have := HL7.out.size; omega))⟩
    simp [results, Try.results35, go_sem, t0, t1, t2, u0, u1, u2, u3]
  · -- to the left
    obtain ⟨-, -, g1, g2, g3, g4, g5, g6⟩ := goW hwR
    have r0 := HW7.out.cellv (i := 0) rfl
    have r1 := HW7.out.cellv (i := 1) rfl
    have r2 := HW7.out.cellv (i := 2) rfl
    have r3 := HW7.out.cellv (i := 3) rfl
    go_wp2_with fail
    refine (specBack _ (wtX H m) (wtY H m) 1 (wtD H m) g1 g2 g3 g4 g5 g6).mono ?_
    rintro e w8 ⟨rfl, b8⟩
    clear r0 r1 r2 r3
    have HP8 := Lib.hid (HP7.out.below b8 HP7.out.lt)
    have HV8 := Lib.hid (HW7.out.below b8 HW7.out.lt)
    have HT8 := Lib.hid (HT7.out.below b8 HT7.out.lt)
    have HU8 := Lib.hid (HU7.out.below b8 HU7.out.lt)
    have HO8 := Lib.hid (HO7.out.below b8 (Nat.le_refl _))
    have HL8 := Lib.hid (HL7.out.trans (b8.mono HL7.out.size))
    have z8 := b8.size
    have zp8 := HP8.out.lt
    have zw8 := HV8.out.lt
    clear b8 HP7 HW7 HT7 HU7 HO7 HL7
    have r0 := HV8.out.cellv (i := 0) rfl
    have r1 := HV8.out.cellv (i := 1) rfl
    have r2 := HV8.out.cellv (i := 2) rfl
    have r3 := HV8.out.cellv (i := 3) rfl
    have fr0 := HV8.out.frozen 0
    have fr1 := HV8.out.frozen 1
    have fr2 := HV8.out.frozen 2
    have fr3 := HV8.out.frozen 3
    go_wp2
    have e9 := (((Ext.set (X := [p6]) w8 ⟨p6, 0, none⟩ (.int .i64 (wtX H m + 1)) (by simp)).trans (Ext.set _ ⟨p6, 1, none⟩ (.int .i64 (wtY H m + wtD H m)) (by simp))).trans (Ext.set _ ⟨p6, 2, none⟩ (.int .i64 (-1)) (by simp))).trans (Ext.set _ ⟨p6, 3, none⟩ (.int .i64 (-wtD H m)) (by simp))
    have HP9 := Lib.hid (HP8.out.ext e9 (by simp; omega))
    have HW9 := Lib.hid (((((HV8.out.set 0 (.int .i64 (wtX H m + 1))).set 1 (.int .i64 (wtY H m + wtD H m))).set 2 (.int .i64 (-1))).set 3 (.int .i64 (-wtD H m))))
    have HT9 := Lib.hid (HT8.out.ext e9 (by simp; omega))
    have HU9 := Lib.hid (HU8.out.ext e9 (by simp; omega))
    have HO9 := Lib.hid (HO8.out.ext e9 (fun b hb h0 => by have := HQL.out h0 b hb; simp; omega))
    have HL9 := Lib.hid (HL8.out.trans (e9.below (B := w.heap.size) (by simp; omega) (by omega)))
    clear e9 HP8 HV8 HT8 HU8 HO8 HL8 r0 r1 r2 r3 fr0 fr1 fr2 fr3
    generalize (((w8.setCell ⟨p6, 0, none⟩ (.int .i64 (wtX H m + 1))).setCell ⟨p6, 1, none⟩ (.int .i64 (wtY H m + wtD H m))).setCell ⟨p6, 2, none⟩ (.int .i64 (-1))).setCell ⟨p6, 3, none⟩ (.int .i64 (-wtD H m)) = w9 at *
    have p0 := HP9.out.cellv (i := 0) rfl
    have p1 := HP9.out.cellv (i := 1) rfl
    have p2 := HP9.out.cellv (i := 2) rfl
    have r0 := HW9.out.cellv (i := 0) rfl
    have r1 := HW9.out.cellv (i := 1) rfl
    have r2 := HW9.out.cellv (i := 2) rfl
    have r3 := HW9.out.cellv (i := 3) rfl
    have t0 := HT9.out.cellv (i := 0) rfl
    have t1 := HT9.out.cellv (i := 1) rfl
    have t2 := HT9.out.cellv (i := 2) rfl
    have u0 := HU9.out.cellv (i := 0) rfl
    have u1 := HU9.out.cellv (i := 1) rfl
    have u2 := HU9.out.cellv (i := 2) rfl
    have u3 := HU9.out.cellv (i := 3) rfl
    have ft0 := HT9.out.frozen 0
    have ft1 := HT9.out.frozen 1
    have ft2 := HT9.out.frozen 2
    have fu0 := HU9.out.frozen 0
    have fu1 := HU9.out.frozen 1
    have fu2 := HU9.out.frozen 2
    have fu3 := HU9.out.frozen 3
    go_region
    all_goals go_wp2
    have HE := Lib.hid (((((((Ext.set (X := [w.heap.size, w.heap.size + 1]) w9 ⟨w.heap.size, 0, none⟩ (.int .i64 W) (by simp)).trans (Ext.set _ ⟨w.heap.size, 1, none⟩ (.int .i64 H) (by simp))).trans (Ext.set _ ⟨w.heap.size, 2, none⟩ (.slice A n c) (by simp))).trans (Ext.set _ ⟨w.heap.size + 1, 0, none⟩ (.int .i64 (wtX H m + 1)) (by simp))).trans (Ext.set _ ⟨w.heap.size + 1, 1, none⟩ (.int .i64 (wtY H m + wtD H m)) (by simp))).trans (Ext.set _ ⟨w.heap.size + 1, 2, none⟩ (.int .i64 (-1)) (by simp))).trans (Ext.set _ ⟨w.heap.size + 1, 3, none⟩ (.int .i64 (-wtD H m)) (by simp)))
    refine bodyPost_ret ?_ rfl ⟨W, H, A, n, c, g, (wtX H m + 1), (wtY H m + wtD H m), -1, (-wtD H m), rfl, hwL, ((HO9.out.ext (HE.out.trans (Ext.drew _)) (fun b hb h0 => by have := HQL.out h0 b hb; simp; omega)).mono (by have := HL1.out.size; omega)), HL9.out.trans ((HE.out.trans (Ext.drew _)).below (by simp) (by have := HL9.out.size; omega))⟩
    simp [results, Try.results35, go_sem, t0, t1, t2, u0, u1, u2, u3]
end Go.Proofs.Ytbpdjmjkjiddjaa.Base
