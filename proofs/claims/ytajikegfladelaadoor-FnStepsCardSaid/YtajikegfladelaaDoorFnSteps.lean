/- Proved: whatever bytes FnSteps is called with (of at most 3000 each; for longer ones the law answers true at once), it returns true and changes nothing; the table of turns starts as the program's text lays it (the card ties it). -/
import Derived.Test.YtajikegfladelaaDoorCards
import Derived.Test.YtajikegfladelaaDoorTie
import Derived.Test.YtajikegfladelaaDoorBase
import Derived.Test.YtajikegfladelaaDoorPan
import Derived.Test.YtajikegfladelaaDoorShape
import Derived.Test.YtajikegfladelaaDoorWlkC
import Derived.Test.YtajikegfladelaaDoorWlk
import Derived.Test.YtajikegfladelaaDoorSrc
import Derived.Test.YtajikegfladelaaDoorDrw
import Derived.Test.YtajikegfladelaaDoorPnt
import Derived.Test.YtajikegfladelaaDoorTab
import Derived.Test.YtajikegfladelaaDoorA2w
import Derived.Test.YtajikegfladelaaDoorSts
import Derived.WalkKit
import Derived.ProofKit
import Derived.OpenShut
import Derived.ShutString
import Derived.OpenVars
import Derived.Handy
import Derived.Carry
import Derived.Deep.DeepHandedRow
import Derived.Lib.LaidTab
import Derived.Lib.SmallJoins
namespace Go.Proofs.YtajikegfladelaaDoor.fnSteps
open Go.ChangeShapes Go.WideShapes Go.ChangeAt Go.RowKit Go.Joins
open Go.ChangeMaps (open_string shut_string)
open Go.Proofs.YtajikegfladelaaDoor.Base
set_option linter.unusedVariables false
theorem own : ownKnob Tryd.prog.godebug = none := by kernel_rfl
theorem laidOut : laidOutB Tryd.prog = true := by kernel_rfl
theorem gTab : Tryd.prog.globalNamed "loop.example/g00931/impl.turns" = some 0 := by kernel_rfl
theorem gTabType : (Tryd.prog.globals[0]?).map (·.type) = some 153 := by kernel_rfl
theorem cellsI : Tryd.prog.cellsOf 2 = 1 := by kernel_rfl
theorem cellsR : Tryd.prog.cellsOf 152 = 2 := by kernel_rfl
theorem table {W : World} (h : laidMetH Tryd.prog Rows.fnStepsRow.laid W) : Cel W 0 [.int .i64 1, .int .i64 1, .int .i64 (-1), .int .i64 1, .int .i64 1, .int .i64 (-1)] := by
  rw [MakeChecks.laidMetH_plain _ _ _ (by kernel_rfl)] at h
  obtain ⟨ps, ⟨g', t', cs, fuel, p, q, hg', ht', hvar, hd, _, _⟩, _⟩ := h
  obtain rfl := Option.some.inj (gTab.symm.trans hg')
  obtain rfl := Option.some.inj (gTabType.symm.trans ht')
  refine cel_of_cells (by simp) (fun i v hv => ?_)
  rw [World.var?_cell hg' hvar i]
  have hc := cells_of_rows (n := 3) (m := 2) (rows := [[1, 1], [-1, 1], [1, -1]]) Tryd.underlying153 Tryd.underlying152 Tryd.underlying2 cellsR cellsI hd
  match i, hv with
  | 0, hv => obtain rfl := Option.some.inj hv; simpa using hc 0 0 (by decide) (by decide) _ _ rfl rfl
  | 1, hv => obtain rfl := Option.some.inj hv; simpa using hc 0 1 (by decide) (by decide) _ _ rfl rfl
  | 2, hv => obtain rfl := Option.some.inj hv; simpa using hc 1 0 (by decide) (by decide) _ _ rfl rfl
  | 3, hv => obtain rfl := Option.some.inj hv; simpa using hc 1 1 (by decide) (by decide) _ _ rfl rfl
  | 4, hv => obtain rfl := Option.some.inj hv; simpa using hc 2 0 (by decide) (by decide) _ _ rfl rfl
  | 5, hv => obtain rfl := Option.some.inj hv; simpa using hc 2 1 (by decide) (by decide) _ _ rfl rfl
  | i + 6, hv => simp at hv
set_option maxHeartbeats 16000000 in
set_option maxRecDepth 100000 in
theorem walk (w : World) (hT : Cel w 0 [.int .i64 1, .int .i64 1, .int .i64 (-1), .int .i64 1, .int .i64 1, .int .i64 (-1)]) (A0 : Option Addr) (n0 c0 : Nat) (zs0 : Nat → Int) (r0 : Row .u8 w A0 n0 c0 zs0) (A1 : Option Addr) (n1 c1 : Nat) (zs1 : Nat → Int) (r1 : Row .u8 w A1 n1 c1 zs1) :
    Calls Tryd.prog 5 #[.slice A0 n0 c0, .slice A1 n1 c1] w fun e w' => e = .returned (.bool true) ∧ Below w.heap.size w w' := by
  have hm0 : n0 ≤ maxLen := Nat.le_trans r0.1 r0.2.1
  have hm1 : n1 ≤ maxLen := Nat.le_trans r1.1 r1.2.1
  have HR0 := Lib.hid r0
  have HR1 := Lib.hid r1
  have HT0 := Lib.hid hT
  clear r0 r1 hT
  cases hl : longB n0 n1
  · have hl2 : n0 ≤ 3000 ∧ n1 ≤ 3000 := by have := of_decide_eq_false hl; omega
    obtain ⟨hl0, hl1⟩ := hl2
    go_enter Tryd.func5, Tryd.ntmps5
    go_wp2_with fail
    refine (a2Long_any _ A0 A1 n0 c0 n1 c1 hm0 hm1).mono ?_
    rintro e w' ⟨rfl, rfl⟩
    go_wp2_with fail
    refine (a2Walker_any _ A0 n0 c0 zs0 HR0.out (by omega)).mono ?_
    rintro e w1 ⟨W, H, A, n, c, g, x, y, dx, dy, rfl, hw, O1, b1⟩
    have HO1 := Lib.hid O1.row
    have HT1 := Lib.hid (HT0.out.below b1 HT0.out.1)
    have HB1 := Lib.hid b1
    have HW0 := Lib.hid hw
    have hstep := step_go hw
    obtain ⟨-, -, x1, x2, y1, y2, g1, g2⟩ := goW hw
    obtain ⟨-, x3, x4, y3, y4⟩ := goNext hw
    obtain ⟨d1, d2⟩ := sign_bd g1
    obtain ⟨d3, d4⟩ := sign_bd g2
    have dz1 : dx ≠ 0 := by have := sign_yes g1; omega
    have dz2 : dy ≠ 0 := by have := sign_yes g2; omega
    have dn1 : ((-dx) != dx) = true := bne_iff_ne.2 (by omega)
    have dn2 : ((-dy) != dy) = true := bne_iff_ne.2 (by omega)
    have dn3 : ((-dx) == dx) = false := beq_eq_false_iff_ne.2 (by omega)
    have dn4 : ((-dy) == dy) = false := beq_eq_false_iff_ne.2 (by omega)
    have DN1 := Lib.hid dn1
    have DN2 := Lib.hid dn2
    have DN3 := Lib.hid dn3
    have DN4 := Lib.hid dn4
    clear dn1 dn2 dn3 dn4
    have zb := b1.size
    clear O1 b1
    have hcase := turn_cases hw
    obtain ⟨tb, htb⟩ : ∃ tb, decide (tkOf W H g (x + dx) (y + dy) ≠ 0) = tb := ⟨_, rfl⟩
    obtain ⟨e1, he1⟩ : ∃ e1, stDX W H g x y dx dy = e1 := ⟨_, rfl⟩
    obtain ⟨e2, he2⟩ : ∃ e2, stDY W H g x y dx dy = e2 := ⟨_, rfl⟩
    have TC : Hid ((false = tb ∧ dx = e1 ∧ dy = e2) ∨ (true = tb ∧ -dx = e1 ∧ dy = e2) ∨ (true = tb ∧ dx = e1 ∧ -dy = e2)) := by
      rw [← htb, ← he1, ← he2]
      rcases hcase with ⟨u0, u1, u2⟩ | ⟨u0, u1, u2⟩ | ⟨u0, u1, u2⟩ <;> rw [u0, u1, u2]
      · exact Or.inl ⟨rfl, rfl, rfl⟩
      · exact Or.inr (Or.inl ⟨rfl, rfl, rfl⟩)
      · exact Or.inr (Or.inr ⟨rfl, rfl, rfl⟩)
    have eb : -1 ≤ e1 ∧ e1 ≤ 1 ∧ -1 ≤ e2 ∧ e2 ≤ 1 := by rcases TC.out with ⟨-, u1, u2⟩ | ⟨-, u1, u2⟩ | ⟨-, u1, u2⟩ <;> omega
    obtain ⟨eb1, eb2, eb3, eb4⟩ := eb
    rw [he1, he2] at hstep
    have T0 := Lib.hid htb
    have T1 := Lib.hid he1
    have T2 := Lib.hid he2
    have HV0 := Lib.hid hstep
    clear htb he1 he2 hcase hw hstep
    have b1a := (Below.refl w1.heap.size w1).alloc (Nat.le_refl _) (.cells #[.int .i64 W, .int .i64 H, .slice A n c] 35)
    go_wp2_with fail
    have HP1 := Lib.hid (Cel.new w1 [.int .i64 W, .int .i64 H, .slice A n c] 35)
    have HOa := Lib.hid (HO1.out.below b1a (Nat.le_refl _))
    have HTa := Lib.hid (HT1.out.below b1a HT1.out.1)
    have HBa := Lib.hid (HB1.out.trans (b1a.mono HB1.out.size))
    have hza : (w1.alloc (.cells #[.int .i64 W, .int .i64 H, .slice A n c] 35)).heap.size = w1.heap.size + 1 := by simp
    clear b1a HO1 HT1 HB1
    generalize w1.alloc (.cells #[.int .i64 W, .int .i64 H, .slice A n c] 35) = wa at *
    generalize hbP : w1.heap.size = bP at *
    clear hbP
    have HPa := HP1
    clear HP1
    have bN := (Below.refl wa.heap.size wa).alloc (Nat.le_refl _) (.cells #[.int .i64 x, .int .i64 y, .int .i64 dx, .int .i64 dy] 32)
    have HW2 := Lib.hid (Cel.new wa [.int .i64 x, .int .i64 y, .int .i64 dx, .int .i64 dy] 32)
    have HP2 := Lib.hid (HPa.out.below bN HPa.out.1)
    have HO2 := Lib.hid (HOa.out.below bN (Nat.le_refl _))
    have HT2 := Lib.hid (HTa.out.below bN HTa.out.1)
    have HB2 := Lib.hid (HBa.out.trans (bN.mono HBa.out.size))
    clear bN HPa HOa HTa HBa
    rw [hza] at HW2
    clear hza
    generalize wa.alloc (.cells #[.int .i64 x, .int .i64 y, .int .i64 dx, .int .i64 dy] 32) = w2 at *
    refine (step_k _ x y dx dy HO2.out HT2.out HW0.out).mono ?_
    rintro e w3 ⟨rfl, bb⟩
    have HP3 := Lib.hid (HP2.out.below bb HP2.out.1)
    have HW3 := Lib.hid (HW2.out.below bb HW2.out.1)
    have HO3 := Lib.hid (HO2.out.below bb (Nat.le_refl _))
    have HT3 := Lib.hid (HT2.out.below bb HT2.out.1)
    have HB3 := Lib.hid (HB2.out.trans (bb.mono HB2.out.size))
    have zz3 := bb.size
    clear bb HP2 HW2 HO2 HT2 HB2
    rw [T1.out, T2.out]
    have kP_z := HP3.out.1
    have kP_0 := HP3.out.2 0 _ rfl
    have kP_1 := HP3.out.2 1 _ rfl
    have kP_2 := HP3.out.2 2 _ rfl
    go_wp2_with fail
    clear kP_z kP_0 kP_1 kP_2
    have bN := (Below.refl w3.heap.size w3).alloc (Nat.le_refl _) (.cells #[.int .i64 (x + dx), .int .i64 (y + dy), .int .i64 e1, .int .i64 e2] 32)
    have HV4 := Lib.hid (Cel.new w3 [.int .i64 (x + dx), .int .i64 (y + dy), .int .i64 e1, .int .i64 e2] 32)
    have HP4 := Lib.hid (HP3.out.below bN HP3.out.1)
    have HW4 := Lib.hid (HW3.out.below bN HW3.out.1)
    have HO4 := Lib.hid (HO3.out.below bN (Nat.le_refl _))
    have HT4 := Lib.hid (HT3.out.below bN HT3.out.1)
    have HB4 := Lib.hid (HB3.out.trans (bN.mono HB3.out.size))
    clear bN HP3 HW3 HO3 HT3 HB3
    generalize w3.alloc (.cells #[.int .i64 (x + dx), .int .i64 (y + dy), .int .i64 e1, .int .i64 e2] 32) = w4 at *
    generalize hbV : w3.heap.size = bV at *
    have QV := Lib.hid hbV
    clear hbV
    refine (back_k _ ((x + dx)) ((y + dy)) e1 e2 HO4.out HV0.out).mono ?_
    rintro e w5 ⟨rfl, bb⟩
    have HP5 := Lib.hid (HP4.out.below bb HP4.out.1)
    have HW5 := Lib.hid (HW4.out.below bb HW4.out.1)
    have HV5 := Lib.hid (HV4.out.below bb HV4.out.1)
    have HO5 := Lib.hid (HO4.out.below bb (Nat.le_refl _))
    have HT5 := Lib.hid (HT4.out.below bb HT4.out.1)
    have HB5 := Lib.hid (HB4.out.trans (bb.mono HB4.out.size))
    have zz5 := bb.size
    clear bb HP4 HW4 HV4 HO4 HT4 HB4
    have kP_z := HP5.out.1
    have kP_0 := HP5.out.2 0 _ rfl
    have kP_1 := HP5.out.2 1 _ rfl
    have kP_2 := HP5.out.2 2 _ rfl
    have kW_z := HW5.out.1
    have kW_0 := HW5.out.2 0 _ rfl
    have kW_1 := HW5.out.2 1 _ rfl
    have kW_2 := HW5.out.2 2 _ rfl
    have kW_3 := HW5.out.2 3 _ rfl
    go_wp2_with fail
    clear kP_z kP_0 kP_1 kP_2 kW_z kW_0 kW_1 kW_2 kW_3
    have bN := (Below.refl w5.heap.size w5).alloc (Nat.le_refl _) (.cells #[.int .i64 (x + dx + e1), .int .i64 (y + dy + e2), .int .i64 (-e1), .int .i64 (-e2)] 32)
    have HK6 := Lib.hid (Cel.new w5 [.int .i64 (x + dx + e1), .int .i64 (y + dy + e2), .int .i64 (-e1), .int .i64 (-e2)] 32)
    have HP6 := Lib.hid (HP5.out.below bN HP5.out.1)
    have HW6 := Lib.hid (HW5.out.below bN HW5.out.1)
    have HV6 := Lib.hid (HV5.out.below bN HV5.out.1)
    have HO6 := Lib.hid (HO5.out.below bN (Nat.le_refl _))
    have HT6 := Lib.hid (HT5.out.below bN HT5.out.1)
    have HB6 := Lib.hid (HB5.out.trans (bN.mono HB5.out.size))
    clear bN HP5 HW5 HV5 HO5 HT5 HB5
    generalize w5.alloc (.cells #[.int .i64 (x + dx + e1), .int .i64 (y + dy + e2), .int .i64 (-e1), .int .i64 (-e2)] 32) = w6 at *
    generalize hbK : w5.heap.size = bK at *
    have QK := Lib.hid hbK
    clear hbK
    refine (back_k _ x y dx dy HO6.out HW0.out).mono ?_
    rintro e w7 ⟨rfl, bb⟩
    have HP7 := Lib.hid (HP6.out.below bb HP6.out.1)
    have HW7 := Lib.hid (HW6.out.below bb HW6.out.1)
    have HV7 := Lib.hid (HV6.out.below bb HV6.out.1)
    have HK7 := Lib.hid (HK6.out.below bb HK6.out.1)
    have HO7 := Lib.hid (HO6.out.below bb (Nat.le_refl _))
    have HT7 := Lib.hid (HT6.out.below bb HT6.out.1)
    have HB7 := Lib.hid (HB6.out.trans (bb.mono HB6.out.size))
    have zz7 := bb.size
    clear bb HP6 HW6 HV6 HK6 HO6 HT6 HB6
    have kP_z := HP7.out.1
    have kP_0 := HP7.out.2 0 _ rfl
    have kP_1 := HP7.out.2 1 _ rfl
    have kP_2 := HP7.out.2 2 _ rfl
    have kW_z := HW7.out.1
    have kW_0 := HW7.out.2 0 _ rfl
    have kW_1 := HW7.out.2 1 _ rfl
    have kW_2 := HW7.out.2 2 _ rfl
    have kW_3 := HW7.out.2 3 _ rfl
    go_wp2_with fail
    clear kP_z kP_0 kP_1 kP_2 kW_z kW_0 kW_1 kW_2 kW_3
    have bN := (Below.refl w7.heap.size w7).alloc (Nat.le_refl _) (.cells #[.int .i64 (x + dx), .int .i64 (y + dy), .int .i64 (-dx), .int .i64 (-dy)] 32)
    have HH8 := Lib.hid (Cel.new w7 [.int .i64 (x + dx), .int .i64 (y + dy), .int .i64 (-dx), .int .i64 (-dy)] 32)
    have HP8 := Lib.hid (HP7.out.below bN HP7.out.1)
    have HW8 := Lib.hid (HW7.out.below bN HW7.out.1)
    have HV8 := Lib.hid (HV7.out.below bN HV7.out.1)
    have HK8 := Lib.hid (HK7.out.below bN HK7.out.1)
    have HO8 := Lib.hid (HO7.out.below bN (Nat.le_refl _))
    have HT8 := Lib.hid (HT7.out.below bN HT7.out.1)
    have HB8 := Lib.hid (HB7.out.trans (bN.mono HB7.out.size))
    clear bN HP7 HW7 HV7 HK7 HO7 HT7 HB7
    generalize w7.alloc (.cells #[.int .i64 (x + dx), .int .i64 (y + dy), .int .i64 (-dx), .int .i64 (-dy)] 32) = w8 at *
    generalize hbH : w7.heap.size = bH at *
    have QH := Lib.hid hbH
    clear hbH
    refine (turns_k _ x y dx dy HO8.out HW0.out).mono ?_
    rintro e w9 ⟨rfl, bb⟩
    have HP9 := Lib.hid (HP8.out.below bb HP8.out.1)
    have HW9 := Lib.hid (HW8.out.below bb HW8.out.1)
    have HV9 := Lib.hid (HV8.out.below bb HV8.out.1)
    have HK9 := Lib.hid (HK8.out.below bb HK8.out.1)
    have HH9 := Lib.hid (HH8.out.below bb HH8.out.1)
    have HO9 := Lib.hid (HO8.out.below bb (Nat.le_refl _))
    have HT9 := Lib.hid (HT8.out.below bb HT8.out.1)
    have HB9 := Lib.hid (HB8.out.trans (bb.mono HB8.out.size))
    have zz9 := bb.size
    clear bb HP8 HW8 HV8 HK8 HH8 HO8 HT8 HB8
    rw [T0.out]
    have kP_z := HP9.out.1
    have kP_0 := HP9.out.2 0 _ rfl
    have kP_1 := HP9.out.2 1 _ rfl
    have kP_2 := HP9.out.2 2 _ rfl
    have kV_z := HV9.out.1
    have kV_0 := HV9.out.2 0 _ rfl
    have kV_1 := HV9.out.2 1 _ rfl
    have kV_2 := HV9.out.2 2 _ rfl
    have kV_3 := HV9.out.2 3 _ rfl
    go_wp2_with fail
    clear kP_z kP_0 kP_1 kP_2 kV_z kV_0 kV_1 kV_2 kV_3
    refine (vw_k _ ((x + dx)) ((y + dy)) e1 e2 HO9.out HV0.out).mono ?_
    rintro e w10 ⟨rfl, bb⟩
    have HP10 := Lib.hid (HP9.out.below bb HP9.out.1)
    have HW10 := Lib.hid (HW9.out.below bb HW9.out.1)
    have HV10 := Lib.hid (HV9.out.below bb HV9.out.1)
    have HK10 := Lib.hid (HK9.out.below bb HK9.out.1)
    have HH10 := Lib.hid (HH9.out.below bb HH9.out.1)
    have HO10 := Lib.hid (HO9.out.below bb (Nat.le_refl _))
    have HT10 := Lib.hid (HT9.out.below bb HT9.out.1)
    have HB10 := Lib.hid (HB9.out.trans (bb.mono HB9.out.size))
    have zz10 := bb.size
    clear bb HP9 HW9 HV9 HK9 HH9 HO9 HT9 HB9
    have kP_z := HP10.out.1
    have kP_0 := HP10.out.2 0 _ rfl
    have kP_1 := HP10.out.2 1 _ rfl
    have kP_2 := HP10.out.2 2 _ rfl
    have kK_z := HK10.out.1
    have kK_0 := HK10.out.2 0 _ rfl
    have kK_1 := HK10.out.2 1 _ rfl
    have kK_2 := HK10.out.2 2 _ rfl
    have kK_3 := HK10.out.2 3 _ rfl
    go_wp2_with fail
    clear kP_z kP_0 kP_1 kP_2 kK_z kK_0 kK_1 kK_2 kK_3
    refine (vw_k _ ((x + dx + e1)) ((y + dy + e2)) (-e1) (-e2) HO10.out (back_ok HV0.out)).mono ?_
    rintro e w11 ⟨rfl, bb⟩
    have HP11 := Lib.hid (HP10.out.below bb HP10.out.1)
    have HW11 := Lib.hid (HW10.out.below bb HW10.out.1)
    have HV11 := Lib.hid (HV10.out.below bb HV10.out.1)
    have HK11 := Lib.hid (HK10.out.below bb HK10.out.1)
    have HH11 := Lib.hid (HH10.out.below bb HH10.out.1)
    have HO11 := Lib.hid (HO10.out.below bb (Nat.le_refl _))
    have HT11 := Lib.hid (HT10.out.below bb HT10.out.1)
    have HB11 := Lib.hid (HB10.out.trans (bb.mono HB10.out.size))
    have zz11 := bb.size
    clear bb HP10 HW10 HV10 HK10 HH10 HO10 HT10 HB10
    have kP_z := HP11.out.1
    have kP_0 := HP11.out.2 0 _ rfl
    have kP_1 := HP11.out.2 1 _ rfl
    have kP_2 := HP11.out.2 2 _ rfl
    have kK_z := HK11.out.1
    have kK_0 := HK11.out.2 0 _ rfl
    have kK_1 := HK11.out.2 1 _ rfl
    have kK_2 := HK11.out.2 2 _ rfl
    have kK_3 := HK11.out.2 3 _ rfl
    go_wp2_with fail
    clear kP_z kP_0 kP_1 kP_2 kK_z kK_0 kK_1 kK_2 kK_3
    refine (again_k _ x y dx dy e1 e2 HO11.out HT11.out HW0.out T1.out T2.out).mono ?_
    rintro e w12 ⟨rfl, bb⟩
    have HP12 := Lib.hid (HP11.out.below bb HP11.out.1)
    have HW12 := Lib.hid (HW11.out.below bb HW11.out.1)
    have HV12 := Lib.hid (HV11.out.below bb HV11.out.1)
    have HK12 := Lib.hid (HK11.out.below bb HK11.out.1)
    have HH12 := Lib.hid (HH11.out.below bb HH11.out.1)
    have HO12 := Lib.hid (HO11.out.below bb (Nat.le_refl _))
    have HT12 := Lib.hid (HT11.out.below bb HT11.out.1)
    have HB12 := Lib.hid (HB11.out.trans (bb.mono HB11.out.size))
    have zz12 := bb.size
    clear bb HP11 HW11 HV11 HK11 HH11 HO11 HT11 HB11
    rcases TC.out with ⟨t0, t1, t2⟩ | ⟨t0, t1, t2⟩ | ⟨t0, t1, t2⟩
    · subst t0 t1 t2
      have kW_z := HW12.out.1
      have kW_0 := HW12.out.2 0 _ rfl
      have kW_1 := HW12.out.2 1 _ rfl
      have kW_2 := HW12.out.2 2 _ rfl
      have kW_3 := HW12.out.2 3 _ rfl
      have kV_z := HV12.out.1
      have kV_0 := HV12.out.2 0 _ rfl
      have kV_1 := HV12.out.2 1 _ rfl
      have kV_2 := HV12.out.2 2 _ rfl
      have kV_3 := HV12.out.2 3 _ rfl
      have kH_z := HH12.out.1
      have kH_0 := HH12.out.2 0 _ rfl
      have kH_1 := HH12.out.2 1 _ rfl
      have kH_2 := HH12.out.2 2 _ rfl
      have kH_3 := HH12.out.2 3 _ rfl
      have dn1 := DN1.out
      have dn2 := DN2.out
      have dn3 := DN3.out
      have dn4 := DN4.out
      go_wp2_with fail
      all_goals (try clear dn1 dn2 dn3 dn4)
      clear kW_z kW_0 kW_1 kW_2 kW_3 kV_z kV_0 kV_1 kV_2 kV_3 kH_z kH_0 kH_1 kH_2 kH_3
      have bN := (Below.refl w12.heap.size w12).alloc (Nat.le_refl _) (.cells #[.int .i64 (x + dx), .int .i64 (y + dy), .int .i64 (-dx), .int .i64 (-dy)] 32)
      have HA13 := Lib.hid (Cel.new w12 [.int .i64 (x + dx), .int .i64 (y + dy), .int .i64 (-dx), .int .i64 (-dy)] 32)
      have HP13 := Lib.hid (HP12.out.below bN HP12.out.1)
      have HW13 := Lib.hid (HW12.out.below bN HW12.out.1)
      have HV13 := Lib.hid (HV12.out.below bN HV12.out.1)
      have HK13 := Lib.hid (HK12.out.below bN HK12.out.1)
      have HH13 := Lib.hid (HH12.out.below bN HH12.out.1)
      have HO13 := Lib.hid (HO12.out.below bN (Nat.le_refl _))
      have HT13 := Lib.hid (HT12.out.below bN HT12.out.1)
      have HB13 := Lib.hid (HB12.out.trans (bN.mono HB12.out.size))
      clear bN HP12 HW12 HV12 HK12 HH12 HO12 HT12 HB12
      generalize w12.alloc (.cells #[.int .i64 (x + dx), .int .i64 (y + dy), .int .i64 (-dx), .int .i64 (-dy)] 32) = w13 at *
      generalize hbA : w12.heap.size = bA at *
      have QA := Lib.hid hbA
      clear hbA
      refine (a2At_any _ A1 n1 c1 zs1 0 30 (HR1.out.below HB13.out (Nat.le_refl _)) (by omega) (by omega) (by omega) hl1).mono ?_
      rintro e wx ⟨a, rfl, a1, a2, rfl⟩
      go_wp2_with fail
      refine (a2At_any _ A1 n1 c1 zs1 1 30 (HR1.out.below HB13.out (Nat.le_refl _)) (by omega) (by omega) (by omega) hl1).mono ?_
      rintro e wx ⟨b, rfl, c1', c2', rfl⟩
      have kP_z := HP13.out.1
      have kP_0 := HP13.out.2 0 _ rfl
      have kP_1 := HP13.out.2 1 _ rfl
      have kP_2 := HP13.out.2 2 _ rfl
      have kW_z := HW13.out.1
      have kW_0 := HW13.out.2 0 _ rfl
      have kW_1 := HW13.out.2 1 _ rfl
      have kW_2 := HW13.out.2 2 _ rfl
      have kW_3 := HW13.out.2 3 _ rfl
      go_wp2_with fail
      clear kP_z kP_0 kP_1 kP_2 kW_z kW_0 kW_1 kW_2 kW_3
      obtain ⟨X, hX⟩ : ∃ X, stps W H g a.toNat (x, y, dx, dy) = X := ⟨_, rfl⟩
      have HX0 := Lib.hid (show wkB W H n g X.1 X.2.1 X.2.2.1 X.2.2.2 = true from hX ▸ stps_ok (show okW W H n g (x, y, dx, dy) = true from HW0.out) a.toNat)
      have SX := Lib.hid hX
      clear hX
      refine (steps_k _ x y dx dy a X HO13.out HT13.out HW0.out a1 (by omega) SX.out).mono ?_
      rintro e w14 ⟨rfl, bb⟩
      have HP14 := Lib.hid (HP13.out.below bb HP13.out.1)
      have HW14 := Lib.hid (HW13.out.below bb HW13.out.1)
      have HV14 := Lib.hid (HV13.out.below bb HV13.out.1)
      have HK14 := Lib.hid (HK13.out.below bb HK13.out.1)
      have HH14 := Lib.hid (HH13.out.below bb HH13.out.1)
      have HA14 := Lib.hid (HA13.out.below bb HA13.out.1)
      have HO14 := Lib.hid (HO13.out.below bb (Nat.le_refl _))
      have HT14 := Lib.hid (HT13.out.below bb HT13.out.1)
      have HB14 := Lib.hid (HB13.out.trans (bb.mono HB13.out.size))
      have zz14 := bb.size
      clear bb HP13 HW13 HV13 HK13 HH13 HA13 HO13 HT13 HB13
      have kP_z := HP14.out.1
      have kP_0 := HP14.out.2 0 _ rfl
      have kP_1 := HP14.out.2 1 _ rfl
      have kP_2 := HP14.out.2 2 _ rfl
      go_wp2_with fail
      clear kP_z kP_0 kP_1 kP_2
      have bN := (Below.refl w14.heap.size w14).alloc (Nat.le_refl _) (.cells #[.int .i64 X.1, .int .i64 X.2.1, .int .i64 X.2.2.1, .int .i64 X.2.2.2] 32)
      have HX15 := Lib.hid (Cel.new w14 [.int .i64 X.1, .int .i64 X.2.1, .int .i64 X.2.2.1, .int .i64 X.2.2.2] 32)
      have HP15 := Lib.hid (HP14.out.below bN HP14.out.1)
      have HW15 := Lib.hid (HW14.out.below bN HW14.out.1)
      have HV15 := Lib.hid (HV14.out.below bN HV14.out.1)
      have HK15 := Lib.hid (HK14.out.below bN HK14.out.1)
      have HH15 := Lib.hid (HH14.out.below bN HH14.out.1)
      have HA15 := Lib.hid (HA14.out.below bN HA14.out.1)
      have HO15 := Lib.hid (HO14.out.below bN (Nat.le_refl _))
      have HT15 := Lib.hid (HT14.out.below bN HT14.out.1)
      have HB15 := Lib.hid (HB14.out.trans (bN.mono HB14.out.size))
      clear bN HP14 HW14 HV14 HK14 HH14 HA14 HO14 HT14 HB14
      generalize w14.alloc (.cells #[.int .i64 X.1, .int .i64 X.2.1, .int .i64 X.2.2.1, .int .i64 X.2.2.2] 32) = w15 at *
      generalize hbX : w14.heap.size = bX at *
      have QX := Lib.hid hbX
      clear hbX
      refine (vw_k _ X.1 X.2.1 X.2.2.1 X.2.2.2 HO15.out HX0.out).mono ?_
      rintro e w16 ⟨rfl, bb⟩
      have HP16 := Lib.hid (HP15.out.below bb HP15.out.1)
      have HW16 := Lib.hid (HW15.out.below bb HW15.out.1)
      have HV16 := Lib.hid (HV15.out.below bb HV15.out.1)
      have HK16 := Lib.hid (HK15.out.below bb HK15.out.1)
      have HH16 := Lib.hid (HH15.out.below bb HH15.out.1)
      have HA16 := Lib.hid (HA15.out.below bb HA15.out.1)
      have HX16 := Lib.hid (HX15.out.below bb HX15.out.1)
      have HO16 := Lib.hid (HO15.out.below bb (Nat.le_refl _))
      have HT16 := Lib.hid (HT15.out.below bb HT15.out.1)
      have HB16 := Lib.hid (HB15.out.trans (bb.mono HB15.out.size))
      have zz16 := bb.size
      clear bb HP15 HW15 HV15 HK15 HH15 HA15 HX15 HO15 HT15 HB15
      have kP_z := HP16.out.1
      have kP_0 := HP16.out.2 0 _ rfl
      have kP_1 := HP16.out.2 1 _ rfl
      have kP_2 := HP16.out.2 2 _ rfl
      have kX_z := HX16.out.1
      have kX_0 := HX16.out.2 0 _ rfl
      have kX_1 := HX16.out.2 1 _ rfl
      have kX_2 := HX16.out.2 2 _ rfl
      have kX_3 := HX16.out.2 3 _ rfl
      go_wp2_with fail
      clear kP_z kP_0 kP_1 kP_2 kX_z kX_0 kX_1 kX_2 kX_3
      obtain ⟨Y, hY⟩ : ∃ Y, stps W H g b.toNat X = Y := ⟨_, rfl⟩
      have SY := Lib.hid hY
      have SZ := Lib.hid (show stps W H g (a + b).toNat (x, y, dx, dy) = Y by rw [show (a + b).toNat = a.toNat + b.toNat by omega, stps_add, SX.out, hY])
      clear hY
      refine (steps_k _ X.1 X.2.1 X.2.2.1 X.2.2.2 b Y HO16.out HT16.out HX0.out c1' (by omega) SY.out).mono ?_
      rintro e w17 ⟨rfl, bb⟩
      have HP17 := Lib.hid (HP16.out.below bb HP16.out.1)
      have HW17 := Lib.hid (HW16.out.below bb HW16.out.1)
      have HV17 := Lib.hid (HV16.out.below bb HV16.out.1)
      have HK17 := Lib.hid (HK16.out.below bb HK16.out.1)
      have HH17 := Lib.hid (HH16.out.below bb HH16.out.1)
      have HA17 := Lib.hid (HA16.out.below bb HA16.out.1)
      have HX17 := Lib.hid (HX16.out.below bb HX16.out.1)
      have HO17 := Lib.hid (HO16.out.below bb (Nat.le_refl _))
      have HT17 := Lib.hid (HT16.out.below bb HT16.out.1)
      have HB17 := Lib.hid (HB16.out.trans (bb.mono HB16.out.size))
      have zz17 := bb.size
      clear bb HP16 HW16 HV16 HK16 HH16 HA16 HX16 HO16 HT16 HB16
      have kP_z := HP17.out.1
      have kP_0 := HP17.out.2 0 _ rfl
      have kP_1 := HP17.out.2 1 _ rfl
      have kP_2 := HP17.out.2 2 _ rfl
      have kW_z := HW17.out.1
      have kW_0 := HW17.out.2 0 _ rfl
      have kW_1 := HW17.out.2 1 _ rfl
      have kW_2 := HW17.out.2 2 _ rfl
      have kW_3 := HW17.out.2 3 _ rfl
      go_wp2_with fail
      clear kP_z kP_0 kP_1 kP_2 kW_z kW_0 kW_1 kW_2 kW_3
      have bN := (Below.refl w17.heap.size w17).alloc (Nat.le_refl _) (.cells #[.int .i64 Y.1, .int .i64 Y.2.1, .int .i64 Y.2.2.1, .int .i64 Y.2.2.2] 32)
      have HY18 := Lib.hid (Cel.new w17 [.int .i64 Y.1, .int .i64 Y.2.1, .int .i64 Y.2.2.1, .int .i64 Y.2.2.2] 32)
      have HP18 := Lib.hid (HP17.out.below bN HP17.out.1)
      have HW18 := Lib.hid (HW17.out.below bN HW17.out.1)
      have HV18 := Lib.hid (HV17.out.below bN HV17.out.1)
      have HK18 := Lib.hid (HK17.out.below bN HK17.out.1)
      have HH18 := Lib.hid (HH17.out.below bN HH17.out.1)
      have HA18 := Lib.hid (HA17.out.below bN HA17.out.1)
      have HX18 := Lib.hid (HX17.out.below bN HX17.out.1)
      have HO18 := Lib.hid (HO17.out.below bN (Nat.le_refl _))
      have HT18 := Lib.hid (HT17.out.below bN HT17.out.1)
      have HB18 := Lib.hid (HB17.out.trans (bN.mono HB17.out.size))
      clear bN HP17 HW17 HV17 HK17 HH17 HA17 HX17 HO17 HT17 HB17
      generalize w17.alloc (.cells #[.int .i64 Y.1, .int .i64 Y.2.1, .int .i64 Y.2.2.1, .int .i64 Y.2.2.2] 32) = w18 at *
      generalize hbY : w17.heap.size = bY at *
      have QY := Lib.hid hbY
      clear hbY
      refine (steps_k _ x y dx dy (a + b) Y HO18.out HT18.out HW0.out (by omega) (by omega) SZ.out).mono ?_
      rintro e w19 ⟨rfl, bb⟩
      have HP19 := Lib.hid (HP18.out.below bb HP18.out.1)
      have HW19 := Lib.hid (HW18.out.below bb HW18.out.1)
      have HV19 := Lib.hid (HV18.out.below bb HV18.out.1)
      have HK19 := Lib.hid (HK18.out.below bb HK18.out.1)
      have HH19 := Lib.hid (HH18.out.below bb HH18.out.1)
      have HA19 := Lib.hid (HA18.out.below bb HA18.out.1)
      have HX19 := Lib.hid (HX18.out.below bb HX18.out.1)
      have HY19 := Lib.hid (HY18.out.below bb HY18.out.1)
      have HO19 := Lib.hid (HO18.out.below bb (Nat.le_refl _))
      have HT19 := Lib.hid (HT18.out.below bb HT18.out.1)
      have HB19 := Lib.hid (HB18.out.trans (bb.mono HB18.out.size))
      have zz19 := bb.size
      clear bb HP18 HW18 HV18 HK18 HH18 HA18 HX18 HY18 HO18 HT18 HB18
      have kY_z := HY19.out.1
      have kY_0 := HY19.out.2 0 _ rfl
      have kY_1 := HY19.out.2 1 _ rfl
      have kY_2 := HY19.out.2 2 _ rfl
      have kY_3 := HY19.out.2 3 _ rfl
      go_wp2
      go_ret
      exact ⟨rfl, HB19.out.alloc HB19.out.size _⟩
    · subst t0 t1 t2
      have kW_z := HW12.out.1
      have kW_0 := HW12.out.2 0 _ rfl
      have kW_1 := HW12.out.2 1 _ rfl
      have kW_2 := HW12.out.2 2 _ rfl
      have kW_3 := HW12.out.2 3 _ rfl
      have kV_z := HV12.out.1
      have kV_0 := HV12.out.2 0 _ rfl
      have kV_1 := HV12.out.2 1 _ rfl
      have kV_2 := HV12.out.2 2 _ rfl
      have kV_3 := HV12.out.2 3 _ rfl
      have kH_z := HH12.out.1
      have kH_0 := HH12.out.2 0 _ rfl
      have kH_1 := HH12.out.2 1 _ rfl
      have kH_2 := HH12.out.2 2 _ rfl
      have kH_3 := HH12.out.2 3 _ rfl
      have dn1 := DN1.out
      have dn2 := DN2.out
      have dn3 := DN3.out
      have dn4 := DN4.out
      go_wp2_with fail
      all_goals (try clear dn1 dn2 dn3 dn4)
      clear kW_z kW_0 kW_1 kW_2 kW_3 kV_z kV_0 kV_1 kV_2 kV_3 kH_z kH_0 kH_1 kH_2 kH_3
      have bN := (Below.refl w12.heap.size w12).alloc (Nat.le_refl _) (.cells #[.int .i64 (x + dx), .int .i64 (y + dy), .int .i64 (-dx), .int .i64 (-dy)] 32)
      have HA13 := Lib.hid (Cel.new w12 [.int .i64 (x + dx), .int .i64 (y + dy), .int .i64 (-dx), .int .i64 (-dy)] 32)
      have HP13 := Lib.hid (HP12.out.below bN HP12.out.1)
      have HW13 := Lib.hid (HW12.out.below bN HW12.out.1)
      have HV13 := Lib.hid (HV12.out.below bN HV12.out.1)
      have HK13 := Lib.hid (HK12.out.below bN HK12.out.1)
      have HH13 := Lib.hid (HH12.out.below bN HH12.out.1)
      have HO13 := Lib.hid (HO12.out.below bN (Nat.le_refl _))
      have HT13 := Lib.hid (HT12.out.below bN HT12.out.1)
      have HB13 := Lib.hid (HB12.out.trans (bN.mono HB12.out.size))
      clear bN HP12 HW12 HV12 HK12 HH12 HO12 HT12 HB12
      generalize w12.alloc (.cells #[.int .i64 (x + dx), .int .i64 (y + dy), .int .i64 (-dx), .int .i64 (-dy)] 32) = w13 at *
      generalize hbA : w12.heap.size = bA at *
      have QA := Lib.hid hbA
      clear hbA
      refine (a2At_any _ A1 n1 c1 zs1 0 30 (HR1.out.below HB13.out (Nat.le_refl _)) (by omega) (by omega) (by omega) hl1).mono ?_
      rintro e wx ⟨a, rfl, a1, a2, rfl⟩
      go_wp2_with fail
      refine (a2At_any _ A1 n1 c1 zs1 1 30 (HR1.out.below HB13.out (Nat.le_refl _)) (by omega) (by omega) (by omega) hl1).mono ?_
      rintro e wx ⟨b, rfl, c1', c2', rfl⟩
      have kP_z := HP13.out.1
      have kP_0 := HP13.out.2 0 _ rfl
      have kP_1 := HP13.out.2 1 _ rfl
      have kP_2 := HP13.out.2 2 _ rfl
      have kW_z := HW13.out.1
      have kW_0 := HW13.out.2 0 _ rfl
      have kW_1 := HW13.out.2 1 _ rfl
      have kW_2 := HW13.out.2 2 _ rfl
      have kW_3 := HW13.out.2 3 _ rfl
      go_wp2_with fail
      clear kP_z kP_0 kP_1 kP_2 kW_z kW_0 kW_1 kW_2 kW_3
      obtain ⟨X, hX⟩ : ∃ X, stps W H g a.toNat (x, y, dx, dy) = X := ⟨_, rfl⟩
      have HX0 := Lib.hid (show wkB W H n g X.1 X.2.1 X.2.2.1 X.2.2.2 = true from hX ▸ stps_ok (show okW W H n g (x, y, dx, dy) = true from HW0.out) a.toNat)
      have SX := Lib.hid hX
      clear hX
      refine (steps_k _ x y dx dy a X HO13.out HT13.out HW0.out a1 (by omega) SX.out).mono ?_
      rintro e w14 ⟨rfl, bb⟩
      have HP14 := Lib.hid (HP13.out.below bb HP13.out.1)
      have HW14 := Lib.hid (HW13.out.below bb HW13.out.1)
      have HV14 := Lib.hid (HV13.out.below bb HV13.out.1)
      have HK14 := Lib.hid (HK13.out.below bb HK13.out.1)
      have HH14 := Lib.hid (HH13.out.below bb HH13.out.1)
      have HA14 := Lib.hid (HA13.out.below bb HA13.out.1)
      have HO14 := Lib.hid (HO13.out.below bb (Nat.le_refl _))
      have HT14 := Lib.hid (HT13.out.below bb HT13.out.1)
      have HB14 := Lib.hid (HB13.out.trans (bb.mono HB13.out.size))
      have zz14 := bb.size
      clear bb HP13 HW13 HV13 HK13 HH13 HA13 HO13 HT13 HB13
      have kP_z := HP14.out.1
      have kP_0 := HP14.out.2 0 _ rfl
      have kP_1 := HP14.out.2 1 _ rfl
      have kP_2 := HP14.out.2 2 _ rfl
      go_wp2_with fail
      clear kP_z kP_0 kP_1 kP_2
      have bN := (Below.refl w14.heap.size w14).alloc (Nat.le_refl _) (.cells #[.int .i64 X.1, .int .i64 X.2.1, .int .i64 X.2.2.1, .int .i64 X.2.2.2] 32)
      have HX15 := Lib.hid (Cel.new w14 [.int .i64 X.1, .int .i64 X.2.1, .int .i64 X.2.2.1, .int .i64 X.2.2.2] 32)
      have HP15 := Lib.hid (HP14.out.below bN HP14.out.1)
      have HW15 := Lib.hid (HW14.out.below bN HW14.out.1)
      have HV15 := Lib.hid (HV14.out.below bN HV14.out.1)
      have HK15 := Lib.hid (HK14.out.below bN HK14.out.1)
      have HH15 := Lib.hid (HH14.out.below bN HH14.out.1)
      have HA15 := Lib.hid (HA14.out.below bN HA14.out.1)
      have HO15 := Lib.hid (HO14.out.below bN (Nat.le_refl _))
      have HT15 := Lib.hid (HT14.out.below bN HT14.out.1)
      have HB15 := Lib.hid (HB14.out.trans (bN.mono HB14.out.size))
      clear bN HP14 HW14 HV14 HK14 HH14 HA14 HO14 HT14 HB14
      generalize w14.alloc (.cells #[.int .i64 X.1, .int .i64 X.2.1, .int .i64 X.2.2.1, .int .i64 X.2.2.2] 32) = w15 at *
      generalize hbX : w14.heap.size = bX at *
      have QX := Lib.hid hbX
      clear hbX
      refine (vw_k _ X.1 X.2.1 X.2.2.1 X.2.2.2 HO15.out HX0.out).mono ?_
      rintro e w16 ⟨rfl, bb⟩
      have HP16 := Lib.hid (HP15.out.below bb HP15.out.1)
      have HW16 := Lib.hid (HW15.out.below bb HW15.out.1)
      have HV16 := Lib.hid (HV15.out.below bb HV15.out.1)
      have HK16 := Lib.hid (HK15.out.below bb HK15.out.1)
      have HH16 := Lib.hid (HH15.out.below bb HH15.out.1)
      have HA16 := Lib.hid (HA15.out.below bb HA15.out.1)
      have HX16 := Lib.hid (HX15.out.below bb HX15.out.1)
      have HO16 := Lib.hid (HO15.out.below bb (Nat.le_refl _))
      have HT16 := Lib.hid (HT15.out.below bb HT15.out.1)
      have HB16 := Lib.hid (HB15.out.trans (bb.mono HB15.out.size))
      have zz16 := bb.size
      clear bb HP15 HW15 HV15 HK15 HH15 HA15 HX15 HO15 HT15 HB15
      have kP_z := HP16.out.1
      have kP_0 := HP16.out.2 0 _ rfl
      have kP_1 := HP16.out.2 1 _ rfl
      have kP_2 := HP16.out.2 2 _ rfl
      have kX_z := HX16.out.1
      have kX_0 := HX16.out.2 0 _ rfl
      have kX_1 := HX16.out.2 1 _ rfl
      have kX_2 := HX16.out.2 2 _ rfl
      have kX_3 := HX16.out.2 3 _ rfl
      go_wp2_with fail
      clear kP_z kP_0 kP_1 kP_2 kX_z kX_0 kX_1 kX_2 kX_3
      obtain ⟨Y, hY⟩ : ∃ Y, stps W H g b.toNat X = Y := ⟨_, rfl⟩
      have SY := Lib.hid hY
      have SZ := Lib.hid (show stps W H g (a + b).toNat (x, y, dx, dy) = Y by rw [show (a + b).toNat = a.toNat + b.toNat by omega, stps_add, SX.out, hY])
      clear hY
      refine (steps_k _ X.1 X.2.1 X.2.2.1 X.2.2.2 b Y HO16.out HT16.out HX0.out c1' (by omega) SY.out).mono ?_
      rintro e w17 ⟨rfl, bb⟩
      have HP17 := Lib.hid (HP16.out.below bb HP16.out.1)
      have HW17 := Lib.hid (HW16.out.below bb HW16.out.1)
      have HV17 := Lib.hid (HV16.out.below bb HV16.out.1)
      have HK17 := Lib.hid (HK16.out.below bb HK16.out.1)
      have HH17 := Lib.hid (HH16.out.below bb HH16.out.1)
      have HA17 := Lib.hid (HA16.out.below bb HA16.out.1)
      have HX17 := Lib.hid (HX16.out.below bb HX16.out.1)
      have HO17 := Lib.hid (HO16.out.below bb (Nat.le_refl _))
      have HT17 := Lib.hid (HT16.out.below bb HT16.out.1)
      have HB17 := Lib.hid (HB16.out.trans (bb.mono HB16.out.size))
      have zz17 := bb.size
      clear bb HP16 HW16 HV16 HK16 HH16 HA16 HX16 HO16 HT16 HB16
      have kP_z := HP17.out.1
      have kP_0 := HP17.out.2 0 _ rfl
      have kP_1 := HP17.out.2 1 _ rfl
      have kP_2 := HP17.out.2 2 _ rfl
      have kW_z := HW17.out.1
      have kW_0 := HW17.out.2 0 _ rfl
      have kW_1 := HW17.out.2 1 _ rfl
      have kW_2 := HW17.out.2 2 _ rfl
      have kW_3 := HW17.out.2 3 _ rfl
      go_wp2_with fail
      clear kP_z kP_0 kP_1 kP_2 kW_z kW_0 kW_1 kW_2 kW_3
      have bN := (Below.refl w17.heap.size w17).alloc (Nat.le_refl _) (.cells #[.int .i64 Y.1, .int .i64 Y.2.1, .int .i64 Y.2.2.1, .int .i64 Y.2.2.2] 32)
      have HY18 := Lib.hid (Cel.new w17 [.int .i64 Y.1, .int .i64 Y.2.1, .int .i64 Y.2.2.1, .int .i64 Y.2.2.2] 32)
      have HP18 := Lib.hid (HP17.out.below bN HP17.out.1)
      have HW18 := Lib.hid (HW17.out.below bN HW17.out.1)
      have HV18 := Lib.hid (HV17.out.below bN HV17.out.1)
      have HK18 := Lib.hid (HK17.out.below bN HK17.out.1)
      have HH18 := Lib.hid (HH17.out.below bN HH17.out.1)
      have HA18 := Lib.hid (HA17.out.below bN HA17.out.1)
      have HX18 := Lib.hid (HX17.out.below bN HX17.out.1)
      have HO18 := Lib.hid (HO17.out.below bN (Nat.le_refl _))
      have HT18 := Lib.hid (HT17.out.below bN HT17.out.1)
      have HB18 := Lib.hid (HB17.out.trans (bN.mono HB17.out.size))
      clear bN HP17 HW17 HV17 HK17 HH17 HA17 HX17 HO17 HT17 HB17
      generalize w17.alloc (.cells #[.int .i64 Y.1, .int .i64 Y.2.1, .int .i64 Y.2.2.1, .int .i64 Y.2.2.2] 32) = w18 at *
      generalize hbY : w17.heap.size = bY at *
      have QY := Lib.hid hbY
      clear hbY
      refine (steps_k _ x y dx dy (a + b) Y HO18.out HT18.out HW0.out (by omega) (by omega) SZ.out).mono ?_
      rintro e w19 ⟨rfl, bb⟩
      have HP19 := Lib.hid (HP18.out.below bb HP18.out.1)
      have HW19 := Lib.hid (HW18.out.below bb HW18.out.1)
      have HV19 := Lib.hid (HV18.out.below bb HV18.out.1)
      have HK19 := Lib.hid (HK18.out.below bb HK18.out.1)
      have HH19 := Lib.hid (HH18.out.below bb HH18.out.1)
      have HA19 := Lib.hid (HA18.out.below bb HA18.out.1)
      have HX19 := Lib.hid (HX18.out.below bb HX18.out.1)
      have HY19 := Lib.hid (HY18.out.below bb HY18.out.1)
      have HO19 := Lib.hid (HO18.out.below bb (Nat.le_refl _))
      have HT19 := Lib.hid (HT18.out.below bb HT18.out.1)
      have HB19 := Lib.hid (HB18.out.trans (bb.mono HB18.out.size))
      have zz19 := bb.size
      clear bb HP18 HW18 HV18 HK18 HH18 HA18 HX18 HY18 HO18 HT18 HB18
      have kY_z := HY19.out.1
      have kY_0 := HY19.out.2 0 _ rfl
      have kY_1 := HY19.out.2 1 _ rfl
      have kY_2 := HY19.out.2 2 _ rfl
      have kY_3 := HY19.out.2 3 _ rfl
      go_wp2
      go_ret
      exact ⟨rfl, HB19.out.alloc HB19.out.size _⟩
    · subst t0 t1 t2
      have kW_z := HW12.out.1
      have kW_0 := HW12.out.2 0 _ rfl
      have kW_1 := HW12.out.2 1 _ rfl
      have kW_2 := HW12.out.2 2 _ rfl
      have kW_3 := HW12.out.2 3 _ rfl
      have kV_z := HV12.out.1
      have kV_0 := HV12.out.2 0 _ rfl
      have kV_1 := HV12.out.2 1 _ rfl
      have kV_2 := HV12.out.2 2 _ rfl
      have kV_3 := HV12.out.2 3 _ rfl
      have kH_z := HH12.out.1
      have kH_0 := HH12.out.2 0 _ rfl
      have kH_1 := HH12.out.2 1 _ rfl
      have kH_2 := HH12.out.2 2 _ rfl
      have kH_3 := HH12.out.2 3 _ rfl
      have dn1 := DN1.out
      have dn2 := DN2.out
      have dn3 := DN3.out
      have dn4 := DN4.out
      go_wp2_with fail
      all_goals (try clear dn1 dn2 dn3 dn4)
      clear kW_z kW_0 kW_1 kW_2 kW_3 kV_z kV_0 kV_1 kV_2 kV_3 kH_z kH_0 kH_1 kH_2 kH_3
      have bN := (Below.refl w12.heap.size w12).alloc (Nat.le_refl _) (.cells #[.int .i64 (x + dx), .int .i64 (y + dy), .int .i64 (-dx), .int .i64 (-dy)] 32)
      have HA13 := Lib.hid (Cel.new w12 [.int .i64 (x + dx), .int .i64 (y + dy), .int .i64 (-dx), .int .i64 (-dy)] 32)
      have HP13 := Lib.hid (HP12.out.below bN HP12.out.1)
      have HW13 := Lib.hid (HW12.out.below bN HW12.out.1)
      have HV13 := Lib.hid (HV12.out.below bN HV12.out.1)
      have HK13 := Lib.hid (HK12.out.below bN HK12.out.1)
      have HH13 := Lib.hid (HH12.out.below bN HH12.out.1)
      have HO13 := Lib.hid (HO12.out.below bN (Nat.le_refl _))
      have HT13 := Lib.hid (HT12.out.below bN HT12.out.1)
      have HB13 := Lib.hid (HB12.out.trans (bN.mono HB12.out.size))
      clear bN HP12 HW12 HV12 HK12 HH12 HO12 HT12 HB12
      generalize w12.alloc (.cells #[.int .i64 (x + dx), .int .i64 (y + dy), .int .i64 (-dx), .int .i64 (-dy)] 32) = w13 at *
      generalize hbA : w12.heap.size = bA at *
      have QA := Lib.hid hbA
      clear hbA
      refine (a2At_any _ A1 n1 c1 zs1 0 30 (HR1.out.below HB13.out (Nat.le_refl _)) (by omega) (by omega) (by omega) hl1).mono ?_
      rintro e wx ⟨a, rfl, a1, a2, rfl⟩
      go_wp2_with fail
      refine (a2At_any _ A1 n1 c1 zs1 1 30 (HR1.out.below HB13.out (Nat.le_refl _)) (by omega) (by omega) (by omega) hl1).mono ?_
      rintro e wx ⟨b, rfl, c1', c2', rfl⟩
      have kP_z := HP13.out.1
      have kP_0 := HP13.out.2 0 _ rfl
      have kP_1 := HP13.out.2 1 _ rfl
      have kP_2 := HP13.out.2 2 _ rfl
      have kW_z := HW13.out.1
      have kW_0 := HW13.out.2 0 _ rfl
      have kW_1 := HW13.out.2 1 _ rfl
      have kW_2 := HW13.out.2 2 _ rfl
      have kW_3 := HW13.out.2 3 _ rfl
      go_wp2_with fail
      clear kP_z kP_0 kP_1 kP_2 kW_z kW_0 kW_1 kW_2 kW_3
      obtain ⟨X, hX⟩ : ∃ X, stps W H g a.toNat (x, y, dx, dy) = X := ⟨_, rfl⟩
      have HX0 := Lib.hid (show wkB W H n g X.1 X.2.1 X.2.2.1 X.2.2.2 = true from hX ▸ stps_ok (show okW W H n g (x, y, dx, dy) = true from HW0.out) a.toNat)
      have SX := Lib.hid hX
      clear hX
      refine (steps_k _ x y dx dy a X HO13.out HT13.out HW0.out a1 (by omega) SX.out).mono ?_
      rintro e w14 ⟨rfl, bb⟩
      have HP14 := Lib.hid (HP13.out.below bb HP13.out.1)
      have HW14 := Lib.hid (HW13.out.below bb HW13.out.1)
      have HV14 := Lib.hid (HV13.out.below bb HV13.out.1)
      have HK14 := Lib.hid (HK13.out.below bb HK13.out.1)
      have HH14 := Lib.hid (HH13.out.below bb HH13.out.1)
      have HA14 := Lib.hid (HA13.out.below bb HA13.out.1)
      have HO14 := Lib.hid (HO13.out.below bb (Nat.le_refl _))
      have HT14 := Lib.hid (HT13.out.below bb HT13.out.1)
      have HB14 := Lib.hid (HB13.out.trans (bb.mono HB13.out.size))
      have zz14 := bb.size
      clear bb HP13 HW13 HV13 HK13 HH13 HA13 HO13 HT13 HB13
      have kP_z := HP14.out.1
      have kP_0 := HP14.out.2 0 _ rfl
      have kP_1 := HP14.out.2 1 _ rfl
      have kP_2 := HP14.out.2 2 _ rfl
      go_wp2_with fail
      clear kP_z kP_0 kP_1 kP_2
      have bN := (Below.refl w14.heap.size w14).alloc (Nat.le_refl _) (.cells #[.int .i64 X.1, .int .i64 X.2.1, .int .i64 X.2.2.1, .int .i64 X.2.2.2] 32)
      have HX15 := Lib.hid (Cel.new w14 [.int .i64 X.1, .int .i64 X.2.1, .int .i64 X.2.2.1, .int .i64 X.2.2.2] 32)
      have HP15 := Lib.hid (HP14.out.below bN HP14.out.1)
      have HW15 := Lib.hid (HW14.out.below bN HW14.out.1)
      have HV15 := Lib.hid (HV14.out.below bN HV14.out.1)
      have HK15 := Lib.hid (HK14.out.below bN HK14.out.1)
      have HH15 := Lib.hid (HH14.out.below bN HH14.out.1)
      have HA15 := Lib.hid (HA14.out.below bN HA14.out.1)
      have HO15 := Lib.hid (HO14.out.below bN (Nat.le_refl _))
      have HT15 := Lib.hid (HT14.out.below bN HT14.out.1)
      have HB15 := Lib.hid (HB14.out.trans (bN.mono HB14.out.size))
      clear bN HP14 HW14 HV14 HK14 HH14 HA14 HO14 HT14 HB14
      generalize w14.alloc (.cells #[.int .i64 X.1, .int .i64 X.2.1, .int .i64 X.2.2.1, .int .i64 X.2.2.2] 32) = w15 at *
      generalize hbX : w14.heap.size = bX at *
      have QX := Lib.hid hbX
      clear hbX
      refine (vw_k _ X.1 X.2.1 X.2.2.1 X.2.2.2 HO15.out HX0.out).mono ?_
      rintro e w16 ⟨rfl, bb⟩
      have HP16 := Lib.hid (HP15.out.below bb HP15.out.1)
      have HW16 := Lib.hid (HW15.out.below bb HW15.out.1)
      have HV16 := Lib.hid (HV15.out.below bb HV15.out.1)
      have HK16 := Lib.hid (HK15.out.below bb HK15.out.1)
      have HH16 := Lib.hid (HH15.out.below bb HH15.out.1)
      have HA16 := Lib.hid (HA15.out.below bb HA15.out.1)
      have HX16 := Lib.hid (HX15.out.below bb HX15.out.1)
      have HO16 := Lib.hid (HO15.out.below bb (Nat.le_refl _))
      have HT16 := Lib.hid (HT15.out.below bb HT15.out.1)
      have HB16 := Lib.hid (HB15.out.trans (bb.mono HB15.out.size))
      have zz16 := bb.size
      clear bb HP15 HW15 HV15 HK15 HH15 HA15 HX15 HO15 HT15 HB15
      have kP_z := HP16.out.1
      have kP_0 := HP16.out.2 0 _ rfl
      have kP_1 := HP16.out.2 1 _ rfl
      have kP_2 := HP16.out.2 2 _ rfl
      have kX_z := HX16.out.1
      have kX_0 := HX16.out.2 0 _ rfl
      have kX_1 := HX16.out.2 1 _ rfl
      have kX_2 := HX16.out.2 2 _ rfl
      have kX_3 := HX16.out.2 3 _ rfl
      go_wp2_with fail
      clear kP_z kP_0 kP_1 kP_2 kX_z kX_0 kX_1 kX_2 kX_3
      obtain ⟨Y, hY⟩ : ∃ Y, stps W H g b.toNat X = Y := ⟨_, rfl⟩
      have SY := Lib.hid hY
      have SZ := Lib.hid (show stps W H g (a + b).toNat (x, y, dx, dy) = Y by rw [show (a + b).toNat = a.toNat + b.toNat by omega, stps_add, SX.out, hY])
      clear hY
      refine (steps_k _ X.1 X.2.1 X.2.2.1 X.2.2.2 b Y HO16.out HT16.out HX0.out c1' (by omega) SY.out).mono ?_
      rintro e w17 ⟨rfl, bb⟩
      have HP17 := Lib.hid (HP16.out.below bb HP16.out.1)
      have HW17 := Lib.hid (HW16.out.below bb HW16.out.1)
      have HV17 := Lib.hid (HV16.out.below bb HV16.out.1)
      have HK17 := Lib.hid (HK16.out.below bb HK16.out.1)
      have HH17 := Lib.hid (HH16.out.below bb HH16.out.1)
      have HA17 := Lib.hid (HA16.out.below bb HA16.out.1)
      have HX17 := Lib.hid (HX16.out.below bb HX16.out.1)
      have HO17 := Lib.hid (HO16.out.below bb (Nat.le_refl _))
      have HT17 := Lib.hid (HT16.out.below bb HT16.out.1)
      have HB17 := Lib.hid (HB16.out.trans (bb.mono HB16.out.size))
      have zz17 := bb.size
      clear bb HP16 HW16 HV16 HK16 HH16 HA16 HX16 HO16 HT16 HB16
      have kP_z := HP17.out.1
      have kP_0 := HP17.out.2 0 _ rfl
      have kP_1 := HP17.out.2 1 _ rfl
      have kP_2 := HP17.out.2 2 _ rfl
      have kW_z := HW17.out.1
      have kW_0 := HW17.out.2 0 _ rfl
      have kW_1 := HW17.out.2 1 _ rfl
      have kW_2 := HW17.out.2 2 _ rfl
      have kW_3 := HW17.out.2 3 _ rfl
      go_wp2_with fail
      clear kP_z kP_0 kP_1 kP_2 kW_z kW_0 kW_1 kW_2 kW_3
      have bN := (Below.refl w17.heap.size w17).alloc (Nat.le_refl _) (.cells #[.int .i64 Y.1, .int .i64 Y.2.1, .int .i64 Y.2.2.1, .int .i64 Y.2.2.2] 32)
      have HY18 := Lib.hid (Cel.new w17 [.int .i64 Y.1, .int .i64 Y.2.1, .int .i64 Y.2.2.1, .int .i64 Y.2.2.2] 32)
      have HP18 := Lib.hid (HP17.out.below bN HP17.out.1)
      have HW18 := Lib.hid (HW17.out.below bN HW17.out.1)
      have HV18 := Lib.hid (HV17.out.below bN HV17.out.1)
      have HK18 := Lib.hid (HK17.out.below bN HK17.out.1)
      have HH18 := Lib.hid (HH17.out.below bN HH17.out.1)
      have HA18 := Lib.hid (HA17.out.below bN HA17.out.1)
      have HX18 := Lib.hid (HX17.out.below bN HX17.out.1)
      have HO18 := Lib.hid (HO17.out.below bN (Nat.le_refl _))
      have HT18 := Lib.hid (HT17.out.below bN HT17.out.1)
      have HB18 := Lib.hid (HB17.out.trans (bN.mono HB17.out.size))
      clear bN HP17 HW17 HV17 HK17 HH17 HA17 HX17 HO17 HT17 HB17
      generalize w17.alloc (.cells #[.int .i64 Y.1, .int .i64 Y.2.1, .int .i64 Y.2.2.1, .int .i64 Y.2.2.2] 32) = w18 at *
      generalize hbY : w17.heap.size = bY at *
      have QY := Lib.hid hbY
      clear hbY
      refine (steps_k _ x y dx dy (a + b) Y HO18.out HT18.out HW0.out (by omega) (by omega) SZ.out).mono ?_
      rintro e w19 ⟨rfl, bb⟩
      have HP19 := Lib.hid (HP18.out.below bb HP18.out.1)
      have HW19 := Lib.hid (HW18.out.below bb HW18.out.1)
      have HV19 := Lib.hid (HV18.out.below bb HV18.out.1)
      have HK19 := Lib.hid (HK18.out.below bb HK18.out.1)
      have HH19 := Lib.hid (HH18.out.below bb HH18.out.1)
      have HA19 := Lib.hid (HA18.out.below bb HA18.out.1)
      have HX19 := Lib.hid (HX18.out.below bb HX18.out.1)
      have HY19 := Lib.hid (HY18.out.below bb HY18.out.1)
      have HO19 := Lib.hid (HO18.out.below bb (Nat.le_refl _))
      have HT19 := Lib.hid (HT18.out.below bb HT18.out.1)
      have HB19 := Lib.hid (HB18.out.trans (bb.mono HB18.out.size))
      have zz19 := bb.size
      clear bb HP18 HW18 HV18 HK18 HH18 HA18 HX18 HY18 HO18 HT18 HB18
      have kY_z := HY19.out.1
      have kY_0 := HY19.out.2 0 _ rfl
      have kY_1 := HY19.out.2 1 _ rfl
      have kY_2 := HY19.out.2 2 _ rfl
      have kY_3 := HY19.out.2 3 _ rfl
      go_wp2
      go_ret
      exact ⟨rfl, HB19.out.alloc HB19.out.size _⟩
  · go_enter Tryd.func5, Tryd.ntmps5
    go_wp2_with fail
    refine (a2Long_any _ A0 A1 n0 c0 n1 c1 hm0 hm1).mono ?_
    rintro e w' ⟨rfl, rfl⟩
    go_wp2
    go_ret
    exact ⟨rfl, Below.refl _ _⟩

set_option maxRecDepth 100000 in
theorem contract (H : Type) (enc : TypeId × Value → H) (W : World) (base : Nat) (args : Array Value) (ds gs : List (DataW H)) (before : List MemPlace)
    (hval0 : ∀ (j : Nat) t v, Tryd.f5.params[j]? = some t → args[j]? = some v → Value.okWide Tryd.prog W .any base t v)
    (hW : DataW.Whole enc Tryd.prog Tryd.f5.params.toList Rows.fnStepsSpec.vars false W args.toList ds gs before) (hL : laidMetH Tryd.prog Rows.fnStepsRow.laid W) :
    Calls Tryd.prog 5 args W fun e W' => ∃ v, e = .returned v ∧ Rows.fnStepsSpec.post enc Tryd.prog Tryd.f5 false true false false W args v W' := by
  have hval : ∀ (j : Nat) t v, Tryd.f5.params[j]? = some t → args[j]? = some v → Value.okWide Tryd.prog W .any base t v := hval0
  have hW' := hW
  obtain ⟨p, q, hA0, hV, rfl, hfz, hnd⟩ := hW
  have hA : DataW.TrodAll enc Tryd.prog W 0 (fun _ => true) true Tryd.f5.params.toList args.toList ds p := hA0
  rw [Tryd.params5] at hA hval
  obtain ⟨v0, vs0, d0, ds0, p0, q0, hargs, rfl, rfl, h0, tl0⟩ := trodAll_cons hA
  obtain ⟨v1, vs1, d1, ds1, p1, q1, rfl, rfl, rfl, h1, tl1⟩ := trodAll_cons tl0
  obtain ⟨rfl, rfl, rfl⟩ := trodAll_nil tl1
  obtain rfl : args = #[v0, v1] := by cases args; simp_all
  have k0 := h0
  have lt0 : ∀ x ∈ p0, x.block < W.heap.size := by obtain ⟨m, hm⟩ := k0; exact DataW.trod_lt m _ _ _ hm
  have k1 := h1
  have lt1 : ∀ x ∈ p1, x.block < W.heap.size := by obtain ⟨m, hm⟩ := k1; exact DataW.trod_lt m _ _ _ hm
  obtain ⟨A0, n0, c0, rfl⟩ := okWide_slice Tryd.underlying43 (hval 0 43 v0 rfl rfl)
  obtain ⟨zs0, r0⟩ : ∃ zs, Row .u8 W A0 n0 c0 zs := by
    obtain ⟨fuel, hf⟩ := h0
    obtain ⟨A', n', c', zs, e2, r⟩ := row_of Tryd.underlying43 Tryd.underlying5 (by kernel_rfl) hf (fun x hx => lt0 x hx)
    simp [Value.cells] at e2
    obtain ⟨rfl, rfl, rfl⟩ := e2
    exact ⟨zs, r⟩
  obtain ⟨A1, n1, c1, rfl⟩ := okWide_slice Tryd.underlying43 (hval 1 43 v1 rfl rfl)
  obtain ⟨zs1, r1⟩ : ∃ zs, Row .u8 W A1 n1 c1 zs := by
    obtain ⟨fuel, hf⟩ := h1
    obtain ⟨A', n', c', zs, e2, r⟩ := row_of Tryd.underlying43 Tryd.underlying5 (by kernel_rfl) hf (fun x hx => lt1 x hx)
    simp [Value.cells] at e2
    obtain ⟨rfl, rfl, rfl⟩ := e2
    exact ⟨zs, r⟩
  clear hA0 hval0
  refine (walk W (table hL) A0 n0 c0 zs0 r0 A1 n1 c1 zs1 r1).mono fun e W' ⟨he, bel⟩ => ?_
  subst he
  match gs, hV with
  | [g1], hV =>
    exact ⟨_, rfl, _, _, _, [], _, q, hW', trodAll_mk1 (shut_bool Tryd.underlying4 _), (trodAll_cons_mk (Below.trod laidOut (by kernel_rfl) (of_decide_eq_true (by kernel_rfl)) k0 bel lt0) (trodAll_cons_mk (Below.trod laidOut (by kernel_rfl) (of_decide_eq_true (by kernel_rfl)) k1 bel lt1) trodAll_mk0)), Below.trodVars laidOut bel (by kernel_rfl) hV, bel.frame _, fun h => by cases h⟩

/-- A WORLD FOR THE WITNESS: the settled one, the table holding what its initialiser lays. -/
noncomputable def laidWorld (os : Os) : World :=
  { World.holding Tryd.prog os ⟨#[], #[], []⟩ with heap := (World.holding Tryd.prog os ⟨#[], #[], []⟩).heap.modify 0 fun
      | .cells _ t frozen => .cells #[.int .i64 1, .int .i64 1, .int .i64 (-1), .int .i64 1, .int .i64 1, .int .i64 (-1)] t frozen
      | o => o }
theorem laid_met (os : Os) : laidMet Tryd.prog Rows.fnStepsRow.laid ((laidWorld os).forCall (fun _ _ => 0) ⟨#[], #[.slice none 0 0, .slice none 0 0], []⟩).memory :=
  laidMet_of_run' 8 (by kernel_rfl) (by kernel_rfl)
theorem reads (os : Os) {H : Type} (enc : TypeId × Value → H) : ∃ gs places, DataW.whole enc Tryd.prog ((laidWorld os).forCall (fun _ _ => 0) ⟨#[], #[.slice none 0 0, .slice none 0 0], []⟩).memory Tryd.f5.params.toList Rows.fnStepsSpec.vars false (#[.slice none 0 0, .slice none 0 0] : Array Value).toList 8 = some ([.nil, .nil], gs, places) :=
  ⟨[Rows.laid_loop_example_g00931_impl_turns], [.cell 0 0, .cell 0 1, .cell 0 2, .cell 0 3, .cell 0 4, .cell 0 5], by kernel_rfl⟩

set_option maxRecDepth 100000 in
theorem lifted (os : Os) (started : os.Started) (H : Type) (enc : TypeId × Value → H) (F : Stop.Interp) :
    ReturnsInHanded {} Tryd.checked os 5 .any ((OpenSpec.ofChange Rows.fnStepsSpec).preRow enc Tryd.prog Tryd.f5 Rows.fnStepsRow.domain false Rows.fnStepsRow.laid) (((OpenSpec.ofChange Rows.fnStepsSpec).at F).post enc Tryd.prog Tryd.f5 false true false false) := by
  obtain ⟨gs, places, hx⟩ := reads os enc
  refine returnsInHanded_of_row (C := Tryd.checked) (s := OpenSpec.ofChange Rows.fnStepsSpec) own started (by kernel_rfl) Tryd.func5
    (witness_row_at (enc := enc) (C := Tryd.checked) false (laidWorld os) #[.slice none 0 0, .slice none 0 0] rfl (by kernel_rfl) (by kernel_rfl) (by kernel_rfl)
      (OpenSpec.preRow_of_cond 8 hx (by kernel_rfl) (fun k hk => by cases hk) (by kernel_rfl) (laid_met os))) ?_
  intro W base args ds gs before hval hW _ _ _ hL _ _
  exact contract H enc W base args ds gs before hval hW hL

theorem said : Rows.FnStepsSaid :=
  OpenClaim.holds_of_cond 5 Tryd.f5 rfl rfl rfl rfl rfl rfl rfl ⟨rfl, rfl, rfl, rfl, rfl⟩ rfl rfl rfl rfl rfl (by kernel_rfl) Tryd.func5 (by kernel_rfl)
    (of_decide_eq_true (by kernel_rfl)) (by unfold Func.isWrapper; first | (rw [if_pos (by decide +kernel)]; kernel_rfl) | (rw [if_neg (by decide +kernel)]; exact ⟨rfl, rfl⟩))
    (fun os started H enc _ F => by rw [OpenClaim.pre_eq_preRow]; exact lifted os started H enc F)


theorem plain (f : FuncId) (fn : Func) (hf : Tryd.pinned.checked.prog.funcNamed "loop.example/g00931/laws.FnSteps" = some f) (hfn : Tryd.pinned.checked.prog.funcs[f]? = some fn) :
    false = Tryd.pinned.checked.prog.looks [] ∧ ∀ (j : Nat) t, fn.params[j]? = some t → Tryd.pinned.checked.prog.wantsStandIn t = false := by
  obtain rfl : f = 5 := Option.some.inj ((show Tryd.prog.funcNamed "loop.example/g00931/laws.FnSteps" = some 5 by kernel_rfl).symm.trans hf) |>.symm
  obtain rfl : fn = Tryd.f5 := (Option.some.inj (Tryd.func5.symm.trans hfn)).symm
  refine ⟨by kernel_rfl, fun j t ht => ?_⟩
  rw [Tryd.params5] at ht
  match j, ht with
  | 0, ht =>
    have e : t = 43 := by simpa using ht.symm
    subst e
    exact (show Tryd.prog.wantsStandIn 43 = false by kernel_rfl)
  | 1, ht =>
    have e : t = 43 := by simpa using ht.symm
    subst e
    exact (show Tryd.prog.wantsStandIn 43 = false by kernel_rfl)
  | j + 2, ht => simp at ht

theorem card : Rows.FnStepsCardSaid :=
  Claim7.holds_tied_plain_at .later [] _ _ _ _ said (fun _ h => by cases h) (by kernel_rfl) (fun _ h => by cases h) fnSteps_row_tie rfl ⟨rfl, rfl⟩ (by kernel_rfl) rfl plain (by kernel_rfl)
#print axioms card
end Go.Proofs.YtajikegfladelaaDoor.fnSteps
