/-
  The program's movers: how a symmetry moves points.
-/
import Derived.Test.YtdofeonkgaceeaaDoorSym
import Derived.Test.YtdofeonkgaceeaaDoorCms
import Derived.Test.YtdofeonkgaceeaaDoorShape
import Derived.Laws.EntriesVeiled
namespace Go.Proofs.YtdofeonkgaceeaaDoor.Base
open Go Go.RowKit
set_option linter.unusedVariables false
set_option linter.unusedSimpArgs false

theorem move1 (w : World) (x y : Int) : Calls Tryd.prog 121 #[.agg #[.int .i64 x, .int .i64 y]] w (Gives (.agg #[.int .i64 y, .int .i64 x]) w) := by
  go_enter Tryd.func121, Tryd.ntmps121
  go_wp2
  refine bodyPost_ret ?_ rfl ⟨rfl, by go_grown⟩
  simp [results, Tryd.results121, go_sem]
theorem move2 (w : World) (b : Nat) (W H x y : Int) (hb : Cel w b [.int .i64 W, .int .i64 H]) (w1 : 1 ≤ W) (w2 : W ≤ 8) (x1 : 0 ≤ x) (x2 : x ≤ 16) :
    Calls Tryd.prog 122 #[.agg #[.int .i64 x, .int .i64 y], .pointer (some ⟨b, 0, none⟩)] w (Gives (.agg #[.int .i64 (2 * W - x), .int .i64 y]) w) := by
  have hz := hb.1
  have k0 : w.cell? ⟨b, 0, none⟩ = some (.int .i64 W) := hb.2 0 _ rfl
  clear hb
  go_enter Tryd.func122, Tryd.ntmps122
  go_wp2
  refine bodyPost_ret ?_ rfl ⟨rfl, by go_grown⟩
  simp [results, Tryd.results122, go_sem]
theorem move3 (w : World) (b : Nat) (W H x y : Int) (hb : Cel w b [.int .i64 W, .int .i64 H]) (w1 : 1 ≤ H) (w2 : H ≤ 8) (x1 : 0 ≤ y) (x2 : y ≤ 16) :
    Calls Tryd.prog 123 #[.agg #[.int .i64 x, .int .i64 y], .pointer (some ⟨b, 0, none⟩)] w (Gives (.agg #[.int .i64 x, .int .i64 (2 * H - y)]) w) := by
  have hz := hb.1
  have k1 : w.cell? ⟨b, 1, none⟩ = some (.int .i64 H) := hb.2 1 _ rfl
  clear hb
  go_enter Tryd.func123, Tryd.ntmps123
  go_wp2
  refine bodyPost_ret ?_ rfl ⟨rfl, by go_grown⟩
  simp [results, Tryd.results123, go_sem]
/-- what the bits of a symmetry do, beside the size in block b -/
def symL (b : Nat) : List Value := [.int .i64 4, .func (.func 121) #[] #[], .int .i64 1, .func (.func 122) #[] #[.pointer (some ⟨b, 0, none⟩)], .int .i64 2, .func (.func 123) #[] #[.pointer (some ⟨b, 0, none⟩)]]
def PartsMade (W H : Int) (w : World) (e : Ending) (w' : World) : Prop :=
  e = .returned (.agg #[.int .i64 4, .func (.func 121) #[] #[], .int .i64 1, .func (.func 122) #[] #[.pointer (some ⟨w.heap.size, 0, none⟩)], .int .i64 2, .func (.func 123) #[] #[.pointer (some ⟨w.heap.size, 0, none⟩)]]) ∧ Cel w' w.heap.size [.int .i64 W, .int .i64 H] ∧ Below w.heap.size w w'
theorem symParts_any (w : World) (W H : Int) : Calls Tryd.prog 103 #[.agg #[.int .i64 W, .int .i64 H]] w (PartsMade W H w) := by
  go_enter Tryd.func103, Tryd.ntmps103
  go_wp2
  have h0 := (Cel.new w [.int .i64 W, .int .i64 H] 74).below ((Below.refl _ _).alloc (Nat.le_refl _) (.cells #[.int .i64 4, .func (.func 121) #[] #[], .int .i64 1, .func (.func 122) #[] #[.pointer (some ⟨w.heap.size, 0, none⟩)], .int .i64 2, .func (.func 123) #[] #[.pointer (some ⟨w.heap.size, 0, none⟩)]] 111)) (by simp)
  refine bodyPost_ret ?_ rfl ⟨rfl, h0, by go_grown⟩
  simp [results, Tryd.results103, go_sem]
theorem sizeMoved_any (w : World) (W H s : Int) (hs : inB s 0 7 = true) : Calls Tryd.prog 75 #[.agg #[.int .i64 W, .int .i64 H], .int .i64 s] w (Gives (.agg #[.int .i64 (mvW W H s), .int .i64 (mvH W H s)]) w) := by
  have HE := Lib.hid (fun w => impl_exch hs w)
  by_cases h4 : 4 ≤ s
  · have e1 : mvW W H s = H := by simp [mvW, swB, h4]
    have e2 : mvH W H s = W := by simp [mvH, swB, h4]
    have e3 : decide (4 ≤ s) = true := decide_eq_true h4
    rw [e1, e2]
    rw [e3] at HE
    clear e1 e2 e3 h4 hs
    go_enter Tryd.func75, Tryd.ntmps75
    go_wp2_with (go_at_call 88; refine (HE.out _).mono ?_; rintro e w' ⟨rfl, rfl⟩)
    refine bodyPost_ret ?_ rfl ⟨rfl, by go_grown⟩
    simp [results, Tryd.results75, go_sem]
  · have e1 : mvW W H s = W := by simp [mvW, swB, h4]
    have e2 : mvH W H s = H := by simp [mvH, swB, h4]
    have e3 : decide (4 ≤ s) = false := decide_eq_false h4
    rw [e1, e2]
    rw [e3] at HE
    clear e1 e2 e3 h4 hs
    go_enter Tryd.func75, Tryd.ntmps75
    go_wp2_with (go_at_call 88; refine (HE.out _).mono ?_; rintro e w' ⟨rfl, rfl⟩)
    refine bodyPost_ret ?_ rfl ⟨rfl, by go_grown⟩
    simp [results, Tryd.results75, go_sem]
/-- a function value that moves points of panels of W by H as the symmetry s does -/
def Mov (w : World) (p q b : Nat) (W H s : Int) : Prop :=
  Cel w p (symL b) ∧ Cel w q [.int .i64 s] ∧ Cel w b [.int .i64 (mvW W H s), .int .i64 (mvH W H s)]
def movV (p q : Nat) : Value := .func (.func 104) #[] #[.pointer (some ⟨p, 0, none⟩), .pointer (some ⟨q, 0, none⟩)]
theorem Mov.below {w w' : World} {p q b B : Nat} {W H s : Int} (h : Mov w p q b W H s) (hb : Below B w w') (hB : w.heap.size ≤ B) : Mov w' p q b W H s :=
  ⟨h.1.below hb (Nat.lt_of_lt_of_le h.1.1 hB), h.2.1.below hb (Nat.lt_of_lt_of_le h.2.1.1 hB), h.2.2.below hb (Nat.lt_of_lt_of_le h.2.2.1 hB)⟩
def MovMade (W H s : Int) (w : World) (e : Ending) (w' : World) : Prop :=
  ∃ p q b, e = .returned (.func (.func 104) #[] #[.pointer (some ⟨p, 0, none⟩), .pointer (some ⟨q, 0, none⟩)]) ∧ Mov w' p q b W H s ∧ Below w.heap.size w w' ∧ w.heap.size ≤ p ∧ w.heap.size ≤ q ∧ w.heap.size ≤ b
theorem mover_any (w : World) (W H s : Int) (hs : inB s 0 7 = true) : Calls Tryd.prog 63 #[.agg #[.int .i64 W, .int .i64 H], .int .i64 s] w (MovMade W H s w) := by
  have HS := Lib.hid (fun w => sizeMoved_any w W H s hs)
  have HL := Lib.hid (((Below.refl w.heap.size w).alloc (Nat.le_refl _) (.cells #[.int .i64 W, .int .i64 H] 74)).alloc (by simp) (.cells #[.int .i64 s] 2))
  have hc := Cel.new (w.alloc (.cells #[.int .i64 W, .int .i64 H] 74)) [.int .i64 s] 2
  rw [World.size_alloc] at hc
  have HC := Lib.hid hc
  clear hc
  go_enter Tryd.func63, Tryd.ntmps63
  go_wp2_with fail
  refine (HS.out _).mono ?_
  rintro e w1 ⟨rfl, b1⟩
  have HL1 := Lib.hid (HL.out.trans (b1.mono (by simp; omega)))
  have HC1 := Lib.hid (HC.out.below b1 HC.out.1)
  have z1 : w.heap.size + 1 + 1 ≤ w1.heap.size := by have := b1.size; simp at this; omega
  clear b1 HL HC
  go_wp2_with fail
  refine (symParts_any w1 _ _).mono ?_
  rintro e w2 ⟨rfl, c2, b2⟩
  have HL2 := Lib.hid (HL1.out.trans (b2.mono (by omega)))
  have HC2 := Lib.hid (HC1.out.below b2 HC1.out.1)
  have HD2 := Lib.hid c2
  have z2 := b2.size
  clear b2 c2 HL1 HC1
  go_wp2
  go_ret
  have b3 := (Below.refl w2.heap.size w2).alloc (Nat.le_refl _) (.cells (symL w1.heap.size).toArray 111)
  exact ⟨w2.heap.size, w.heap.size + 1, w1.heap.size, rfl, ⟨Cel.new w2 (symL w1.heap.size) _, HC2.out.below b3 HC2.out.1, HD2.out.below b3 HD2.out.1⟩, HL2.out.trans (b3.mono (by omega)), by omega, by omega, by omega⟩
/-- a point behind k bits of a symmetry -/
def mvXk (W H s x y : Int) (k : Nat) : Int := if k = 0 then x else if k = 1 then (if swB s then y else x) else mvX W H s x y
def mvYk (W H s x y : Int) (k : Nat) : Int := if k = 0 then y else if k ≤ 2 then (if swB s then x else y) else mvY W H s x y
theorem bits4 {s : Int} (h : inB s 0 7 = true) : (bits BinOp.and .i64 s 4 != 0) = swB s ∧ (bits BinOp.and .i64 s 1 != 0) = acB s ∧ (bits BinOp.and .i64 s 2 != 0) = dnB s := by
  rcases eight h with rfl | rfl | rfl | rfl | rfl | rfl | rfl | rfl
  all_goals exact ⟨by kernel_rfl, by kernel_rfl, by kernel_rfl⟩
theorem at_set2 {w : World} {b : Nat} {u v u' v' : Value} {T : TypeId} (h : At w b #[u, v] T) : At ((w.setCell ⟨b, 0, none⟩ u').setCell ⟨b, 1, none⟩ v') b #[u', v'] T := (h.set 0 u').set 1 v'
set_option maxHeartbeats 4000000 in
theorem mover_call (w : World) (p q b : Nat) (W H s x y : Int) (hM : Mov w p q b W H s) (hW : sideB W = true) (hH : sideB H = true) (hs : inB s 0 7 = true) (x1 : 0 ≤ x) (x2 : x ≤ 2 * W) (y1 : 0 ≤ y) (y2 : y ≤ 2 * H) :
    Calls Tryd.prog 104 #[.agg #[.int .i64 x, .int .i64 y], .pointer (some ⟨p, 0, none⟩), .pointer (some ⟨q, 0, none⟩)] w (Gives (.agg #[.int .i64 (mvX W H s x y), .int .i64 (mvY W H s x y)]) w) := by
  obtain ⟨s1, s2⟩ := mv_side (s := s) hW hH
  obtain ⟨a1, a2⟩ := side_mk s1
  obtain ⟨b1, b2⟩ := side_mk s2
  obtain ⟨c1, c2, c3⟩ := hM
  obtain ⟨t4, t1, t2⟩ := bits4 hs
  have hp := c1.1
  have hq := c2.1
  have p0 : w.cell? ⟨p, 0, none⟩ = _ := c1.2 0 _ rfl
  have p1 : w.cell? ⟨p, 1, none⟩ = _ := c1.2 1 _ rfl
  have p2 : w.cell? ⟨p, 2, none⟩ = _ := c1.2 2 _ rfl
  have p3 : w.cell? ⟨p, 3, none⟩ = _ := c1.2 3 _ rfl
  have p4 : w.cell? ⟨p, 4, none⟩ = _ := c1.2 4 _ rfl
  have p5 : w.cell? ⟨p, 5, none⟩ = _ := c1.2 5 _ rfl
  have HQ := Lib.hid c2
  have HB := Lib.hid c3
  have xb : 0 ≤ (if swB s then y else x) ∧ (if swB s then y else x) ≤ 2 * mvW W H s := by
    unfold mvW
    cases swB s <;> simp <;> omega
  have yb : 0 ≤ (if swB s then x else y) ∧ (if swB s then x else y) ≤ 2 * mvH W H s := by
    unfold mvH
    cases swB s <;> simp <;> omega
  clear c1 c2 c3 hs hW hH s1 s2
  have HL0 := Lib.hid ((((Below.refl w.heap.size w).alloc (Nat.le_refl _) (.cells #[.int .i64 x, .int .i64 y] 43)).alloc (by simp) (.cells #[.int .i64 0, .int .i64 0] 43)))
  have HA0 := Lib.hid ((At.new w #[.int .i64 x, .int .i64 y] 43).below ((Below.refl _ _).alloc (Nat.le_refl _) (.cells #[.int .i64 0, .int .i64 0] 43)) (by simp))
  have ha1 := At.new (w.alloc (.cells #[.int .i64 x, .int .i64 y] 43)) #[.int .i64 0, .int .i64 0] 43
  rw [World.size_alloc] at ha1
  have HA1 := Lib.hid ha1
  clear ha1
  have X0 : ∀ w, (Instr.index 111 (.agg #[.int .i64 4, .func (.func 121) #[] #[], .int .i64 1, .func (.func 122) #[] #[.pointer (some ⟨b, 0, none⟩)], .int .i64 2, .func (.func 123) #[] #[.pointer (some ⟨b, 0, none⟩)]]) (.int .i64 0)).run Tryd.prog w = .ok (.agg #[.int .i64 4, .func (.func 121) #[] #[]]) w := fun w => by kernel_rfl
  have X1 : ∀ w, (Instr.index 111 (.agg #[.int .i64 4, .func (.func 121) #[] #[], .int .i64 1, .func (.func 122) #[] #[.pointer (some ⟨b, 0, none⟩)], .int .i64 2, .func (.func 123) #[] #[.pointer (some ⟨b, 0, none⟩)]]) (.int .i64 1)).run Tryd.prog w = .ok (.agg #[.int .i64 1, .func (.func 122) #[] #[.pointer (some ⟨b, 0, none⟩)]]) w := fun w => by kernel_rfl
  have X2 : ∀ w, (Instr.index 111 (.agg #[.int .i64 4, .func (.func 121) #[] #[], .int .i64 1, .func (.func 122) #[] #[.pointer (some ⟨b, 0, none⟩)], .int .i64 2, .func (.func 123) #[] #[.pointer (some ⟨b, 0, none⟩)]]) (.int .i64 2)).run Tryd.prog w = .ok (.agg #[.int .i64 2, .func (.func 123) #[] #[.pointer (some ⟨b, 0, none⟩)]]) w := fun w => by kernel_rfl
  go_enter Tryd.func104, Tryd.ntmps104
  go_wp2
  clear p0 p1 p2 p3 p4 p5
  go_loopw [8] (fun iv wr => ∃ k : Nat, k ≤ 3 ∧ iv = .int .i64 k ∧ Hid (At wr w.heap.size #[.int .i64 (mvXk W H s x y k), .int .i64 (mvYk W H s x y k)] 43) ∧ Hid (At wr (w.heap.size + 1) #[.int .i64 0, .int .i64 0] 43) ∧ Hid (Below w.heap.size w wr)) (fun iv _ => 3 - (intOf iv).toNat)
  case atStart => exact ⟨0, Nat.zero_le _, rfl, HA0, HA1, HL0⟩
  case round =>
    clear HA0 HA1 HL0
    obtain ⟨k, hk, rfl, HA, HZ, HL⟩ := hrel
    have kz := HA.out.lt
    have kz1 := HZ.out.lt
    have g0 : wr.cell? ⟨w.heap.size, 0, none⟩ = some (.int .i64 (mvXk W H s x y k)) := HA.out.cellv (i := 0) rfl
    have g1 : wr.cell? ⟨w.heap.size, 1, none⟩ = some (.int .i64 (mvYk W H s x y k)) := HA.out.cellv (i := 1) rfl
    have f0 := HA.out.frozen 0
    have f1 := HA.out.frozen 1
    have q0 : wr.cell? ⟨q, 0, none⟩ = some (.int .i64 s) := (HQ.out.below HL.out hq).2 0 _ rfl
    have hq' : q < wr.heap.size := (HQ.out.below HL.out hq).1
    have HBr := Lib.hid (HB.out.below HL.out HB.out.1)
    have hk4 : k = 0 ∨ k = 1 ∨ k = 2 ∨ k = 3 := by omega
    rcases hk4 with rfl | rfl | rfl | rfl
    · cases hsw : swB s
      · rw [hsw] at t4
        have HX1 := Lib.hid (show mvXk W H s x y 1 = mvXk W H s x y 0 by simp [mvXk, hsw])
        have HY1 := Lib.hid (show mvYk W H s x y 1 = mvYk W H s x y 0 by simp [mvYk, hsw])
        clear hsw
        have bP := (Below.refl wr.heap.size wr).alloc (Nat.le_refl _) (.cells #[.int .i64 4, .func (.func 121) #[] #[]] 110)
        go_wp2
        go_roundw
        case rel => exact ⟨1, by omega, by go_num, Lib.hid (by rw [HX1.out, HY1.out]; exact HA.out.below bP kz), Lib.hid (HZ.out.below bP kz1), Lib.hid (HL.out.trans (bP.mono HL.out.size))⟩
        case measure => simp [intOf]
      · rw [hsw] at t4
        have HX1 := Lib.hid (show mvXk W H s x y 1 = mvYk W H s x y 0 by simp [mvXk, mvYk, hsw])
        have HY1 := Lib.hid (show mvYk W H s x y 1 = mvXk W H s x y 0 by simp [mvYk, mvXk, hsw])
        clear hsw
        have bP := (Below.refl wr.heap.size wr).alloc (Nat.le_refl _) (.cells #[.int .i64 4, .func (.func 121) #[] #[]] 110)
        go_wp2_with fail
        refine (move1 _ _ _).mono ?_
        rintro e w1 ⟨rfl, bc⟩
        have b2 := bP.trans (bc.mono (by simp))
        have HA1 := Lib.hid (HA.out.below b2 kz)
        have HZ1 := Lib.hid (HZ.out.below b2 kz1)
        have HL1 := Lib.hid (HL.out.trans (b2.mono HL.out.size))
        clear bP bc b2 g0 g1 f0 f1 q0
        have kz2 := HA1.out.lt
        have g0 := HA1.out.cellv (i := 0) rfl
        have g1 := HA1.out.cellv (i := 1) rfl
        have f0 := HA1.out.frozen 0
        have f1 := HA1.out.frozen 1
        go_wp2
        go_roundw
        case rel => exact ⟨1, by omega, by go_num, Lib.hid (by rw [HX1.out, HY1.out]; exact at_set2 HA1.out), Lib.hid ((HZ1.out.setOther (a := ⟨w.heap.size, 0, none⟩) (by simp) _).setOther (a := ⟨w.heap.size, 1, none⟩) (by simp) _), Lib.hid ((HL1.out.setCell (Nat.le_refl _) _).setCell (Nat.le_refl _) _)⟩
        case measure => simp [intOf]
    · cases hsw : acB s
      · rw [hsw] at t1
        have HX1 := Lib.hid (show mvXk W H s x y 2 = mvXk W H s x y 1 by simp [mvXk, mvX, hsw])
        have HY1 := Lib.hid (show mvYk W H s x y 2 = mvYk W H s x y 1 by simp [mvYk])
        clear hsw
        have bP := (Below.refl wr.heap.size wr).alloc (Nat.le_refl _) (.cells #[.int .i64 1, .func (.func 122) #[] #[.pointer (some ⟨b, 0, none⟩)]] 110)
        go_wp2
        go_roundw
        case rel => exact ⟨2, by omega, by go_num, Lib.hid (by rw [HX1.out, HY1.out]; exact HA.out.below bP kz), Lib.hid (HZ.out.below bP kz1), Lib.hid (HL.out.trans (bP.mono HL.out.size))⟩
        case measure => simp [intOf]
      · rw [hsw] at t1
        have HXB := Lib.hid (show 0 ≤ mvXk W H s x y 1 ∧ mvXk W H s x y 1 ≤ 16 from ⟨xb.1, by have := xb.2; show (if swB s then y else x) ≤ 16; omega⟩)
        have HX1 := Lib.hid (show mvXk W H s x y 2 = 2 * mvW W H s - mvXk W H s x y 1 by simp [mvXk, mvX, hsw])
        have HY1 := Lib.hid (show mvYk W H s x y 2 = mvYk W H s x y 1 by simp [mvYk])
        clear hsw
        have bP := (Below.refl wr.heap.size wr).alloc (Nat.le_refl _) (.cells #[.int .i64 1, .func (.func 122) #[] #[.pointer (some ⟨b, 0, none⟩)]] 110)
        go_wp2_with fail
        refine (move2 _ b (mvW W H s) (mvH W H s) _ _ (HBr.out.below bP HBr.out.1) a1 a2 HXB.out.1 HXB.out.2).mono ?_
        rintro e w1 ⟨rfl, bc⟩
        have b2 := bP.trans (bc.mono (by simp))
        have HA1 := Lib.hid (HA.out.below b2 kz)
        have HZ1 := Lib.hid (HZ.out.below b2 kz1)
        have HL1 := Lib.hid (HL.out.trans (b2.mono HL.out.size))
        clear bP bc b2 g0 g1 f0 f1 q0
        have kz2 := HA1.out.lt
        have g0 := HA1.out.cellv (i := 0) rfl
        have g1 := HA1.out.cellv (i := 1) rfl
        have f0 := HA1.out.frozen 0
        have f1 := HA1.out.frozen 1
        go_wp2
        go_roundw
        case rel => exact ⟨2, by omega, by go_num, Lib.hid (by rw [HX1.out, HY1.out]; exact at_set2 HA1.out), Lib.hid ((HZ1.out.setOther (a := ⟨w.heap.size, 0, none⟩) (by simp) _).setOther (a := ⟨w.heap.size, 1, none⟩) (by simp) _), Lib.hid ((HL1.out.setCell (Nat.le_refl _) _).setCell (Nat.le_refl _) _)⟩
        case measure => simp [intOf]
    · cases hsw : dnB s
      · rw [hsw] at t2
        have HX1 := Lib.hid (show mvXk W H s x y 3 = mvXk W H s x y 2 by simp [mvXk])
        have HY1 := Lib.hid (show mvYk W H s x y 3 = mvYk W H s x y 2 by simp [mvYk, mvY, hsw])
        clear hsw
        have bP := (Below.refl wr.heap.size wr).alloc (Nat.le_refl _) (.cells #[.int .i64 2, .func (.func 123) #[] #[.pointer (some ⟨b, 0, none⟩)]] 110)
        go_wp2
        go_roundw
        case rel => exact ⟨3, by omega, by go_num, Lib.hid (by rw [HX1.out, HY1.out]; exact HA.out.below bP kz), Lib.hid (HZ.out.below bP kz1), Lib.hid (HL.out.trans (bP.mono HL.out.size))⟩
        case measure => simp [intOf]
      · rw [hsw] at t2
        have HXB := Lib.hid (show 0 ≤ mvYk W H s x y 2 ∧ mvYk W H s x y 2 ≤ 16 from ⟨yb.1, by have := yb.2; show (if swB s then x else y) ≤ 16; omega⟩)
        have HX1 := Lib.hid (show mvXk W H s x y 3 = mvXk W H s x y 2 by simp [mvXk])
        have HY1 := Lib.hid (show mvYk W H s x y 3 = 2 * mvH W H s - mvYk W H s x y 2 by simp [mvYk, mvY, hsw])
        clear hsw
        have bP := (Below.refl wr.heap.size wr).alloc (Nat.le_refl _) (.cells #[.int .i64 2, .func (.func 123) #[] #[.pointer (some ⟨b, 0, none⟩)]] 110)
        go_wp2_with fail
        refine (move3 _ b (mvW W H s) (mvH W H s) _ _ (HBr.out.below bP HBr.out.1) b1 b2 HXB.out.1 HXB.out.2).mono ?_
        rintro e w1 ⟨rfl, bc⟩
        have b2 := bP.trans (bc.mono (by simp))
        have HA1 := Lib.hid (HA.out.below b2 kz)
        have HZ1 := Lib.hid (HZ.out.below b2 kz1)
        have HL1 := Lib.hid (HL.out.trans (b2.mono HL.out.size))
        clear bP bc b2 g0 g1 f0 f1 q0
        have kz2 := HA1.out.lt
        have g0 := HA1.out.cellv (i := 0) rfl
        have g1 := HA1.out.cellv (i := 1) rfl
        have f0 := HA1.out.frozen 0
        have f1 := HA1.out.frozen 1
        go_wp2
        go_roundw
        case rel => exact ⟨3, by omega, by go_num, Lib.hid (by rw [HX1.out, HY1.out]; exact at_set2 HA1.out), Lib.hid ((HZ1.out.setOther (a := ⟨w.heap.size, 0, none⟩) (by simp) _).setOther (a := ⟨w.heap.size, 1, none⟩) (by simp) _), Lib.hid ((HL1.out.setCell (Nat.le_refl _) _).setCell (Nat.le_refl _) _)⟩
        case measure => simp [intOf]
    · have z0 : wr.cell? ⟨w.heap.size + 1, 0, none⟩ = _ := HZ.out.cellv (i := 0) rfl
      have z1 : wr.cell? ⟨w.heap.size + 1, 1, none⟩ = _ := HZ.out.cellv (i := 1) rfl
      have y0 := HZ.out.frozen 0
      have y1 := HZ.out.frozen 1
      have HX3 := Lib.hid (show mvX W H s x y = mvXk W H s x y 3 from rfl)
      have HY3 := Lib.hid (show mvY W H s x y = mvYk W H s x y 3 from rfl)
      go_wp2
      rw [HX3.out, HY3.out]
      refine bodyPost_ret ?_ rfl ⟨rfl, (HL.out.setCell (by simp) _).setCell (by simp) _⟩
      simp [results, Tryd.results104, go_sem, z0, z1]
end Go.Proofs.YtdofeonkgaceeaaDoor.Base
