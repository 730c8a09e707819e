/- Proved: whatever bytes FnPlainWalks is called with (of at most 3000 each; for longer ones the law answers true at once), it returns true and changes nothing. No condition. -/
import Derived.Test.YtfgbfmpolhilcabRows
import Derived.Test.YtfgbfmpolhilcabBase
import Derived.Test.YtfgbfmpolhilcabPan
import Derived.Test.YtfgbfmpolhilcabNew
import Derived.Test.YtfgbfmpolhilcabSrc
import Derived.Test.YtfgbfmpolhilcabDrw
import Derived.Test.YtfgbfmpolhilcabPnt
import Derived.Test.YtfgbfmpolhilcabA2w
import Derived.Test.YtfgbfmpolhilcabPwk
import Derived.WalkKit
import Derived.ProofKit
import Derived.OpenShut
import Derived.ShutString
import Derived.ChangeOld
import Derived.Below
import Derived.Lib.SmallJoins
namespace Go.Proofs.Ytfgbfmpolhilcab.fnPlainWalks
open Go.ChangeShapes Go.WideShapes Go.ChangeAt Go.RowKit Go.Joins
open Go.ChangeMaps (open_string shut_string)
open Go.Proofs.Ytfgbfmpolhilcab.Base
set_option linter.unusedVariables false
theorem own : ownKnob Try.prog.godebug = none := by kernel_rfl
theorem laidOut : laidOutB Try.prog = true := by kernel_rfl

set_option maxHeartbeats 8000000 in
set_option maxRecDepth 100000 in
theorem walk (w : World) (A0 : Option Addr) (n0 c0 : Nat) (zs0 : Nat → Int) (r0 : Row .u8 w A0 n0 c0 zs0) (A1 : Option Addr) (n1 c1 : Nat) (zs1 : Nat → Int) (r1 : Row .u8 w A1 n1 c1 zs1) :
    Calls Try.prog 14 #[.slice A0 n0 c0, .slice A1 n1 c1] w fun e w' => e = .returned (.bool true) ∧ Below w.heap.size w w' := by
  have hm0 : n0 ≤ maxLen := Nat.le_trans r0.1 r0.2.1
  have hm1 : n1 ≤ maxLen := Nat.le_trans r1.1 r1.2.1
  have HR0 := Lib.hid r0
  have HR1w := Lib.hid r1
  clear r0 r1
  cases hl : longB n0 n1
  · have hl2 : n0 ≤ 3000 ∧ n1 ≤ 3000 := by have := of_decide_eq_false hl; omega
    obtain ⟨hl0, hl1⟩ := hl2
    go_enter Try.func14, Try.ntmps14
    go_wp2_with fail
    refine (a2Long_any _ A0 A1 n0 c0 n1 c1 hm0 hm1).mono ?_
    rintro e w' ⟨rfl, rfl⟩
    go_wp2_with fail
    refine (a2Walker_any _ A0 n0 c0 zs0 HR0.out (by omega)).mono ?_
    rintro e v1 ⟨W, H, A, n, c, g, x, y, dx, dy, rfl, hw, O1, b1⟩
    obtain ⟨hv, hg⟩ := wk_valid hw
    obtain ⟨hW, hH, -, -⟩ := validB_yes hv
    obtain ⟨a1, a2⟩ := side_mk hW
    obtain ⟨e1, e2⟩ := side_mk hH
    obtain ⟨i1, i2⟩ := inner_bd' hW hH
    have hlc := lcI_bd (a := W) (b := H) (by omega) (by omega) (by omega) (by omega)
    have hl56 : lcI W H ≤ 64 := by
      have := lc_small hW hH
      omega
    have hl1' : 1 ≤ lcI W H := (lc_small hW hH).1
    obtain ⟨ll, hll⟩ : ∃ ll, lcI W H = ll := ⟨_, rfl⟩
    rw [hll] at hlc hl56 hl1'
    have HLL := Lib.hid hll
    have HG := Lib.hid hg
    have HW0 := Lib.hid hW
    have HH0 := Lib.hid hH
    obtain ⟨N, hN⟩ : ∃ N : Nat, (N : Int) = inner W H := ⟨(inner W H).toNat, by omega⟩
    have HN := Lib.hid hN
    have HB1 := Lib.hid b1
    have HR11 := Lib.hid (HR1w.out.below b1 (Nat.le_refl _))
    clear hv hw hg hW hH i1 i2 hll hN b1 O1 HR0
    go_wp2_with fail
    have bN := (Below.refl v1.heap.size v1).alloc (Nat.le_refl _) (.cells #[.int .i64 W, .int .i64 H, .slice A n c] 57)
    have HQ1a := Lib.hid (Cel.new v1 [.int .i64 W, .int .i64 H, .slice A n c] 57)
    have HR11a := Lib.hid (HR11.out.below bN (Nat.le_refl _))
    have HB1a := Lib.hid (HB1.out.trans (bN.mono HB1.out.size))
    have zz1a := (bN).size
    clear HR11 HB1
    clear bN
    have hza : (v1.alloc (.cells #[.int .i64 W, .int .i64 H, .slice A n c] 57)).heap.size = v1.heap.size + 1 := by simp
    generalize v1.alloc (.cells #[.int .i64 W, .int .i64 H, .slice A n c] 57) = v1a at *
    generalize hbQ : v1.heap.size = bQ at *
    have QQ := Lib.hid hbQ
    clear hbQ
    have bN := (Below.refl v1a.heap.size v1a).alloc (Nat.le_refl _) (.cells #[.int .i64 x, .int .i64 y, .int .i64 dx, .int .i64 dy] 61)
    have HW2 := Lib.hid (Cel.new v1a [.int .i64 x, .int .i64 y, .int .i64 dx, .int .i64 dy] 61)
    have HQ2 := Lib.hid (HQ1a.out.below bN HQ1a.out.1)
    have HR12 := Lib.hid (HR11a.out.below bN (Nat.le_refl _))
    have HB2 := Lib.hid (HB1a.out.trans (bN.mono HB1a.out.size))
    have zz2 := (bN).size
    clear HQ1a HR11a HB1a
    clear bN
    rw [hza] at HW2
    clear hza
    generalize v1a.alloc (.cells #[.int .i64 x, .int .i64 y, .int .i64 dx, .int .i64 dy] 61) = v2 at *
    refine (specNewPanel_ok _ W H N HW0.out HH0.out HN.out).mono ?_
    rintro e v3 ⟨A2, c2, rfl, R3, bb⟩
    have HQ3 := Lib.hid (HQ2.out.below bb HQ2.out.1)
    have HW3 := Lib.hid (HW2.out.below bb HW2.out.1)
    have HR13 := Lib.hid (HR12.out.below bb (Nat.le_refl _))
    have HB3 := Lib.hid (HB2.out.trans (bb.mono HB2.out.size))
    have zz3 := (bb).size
    clear HQ2 HW2 HR12 HB2
    clear bb
    have HZ3 := Lib.hid R3.row
    clear R3
    go_wp2_with fail
    have bN := (Below.refl v3.heap.size v3).alloc (Nat.le_refl _) (.cells #[.int .i64 W, .int .i64 H, .slice A2 N c2] 57)
    have HP4 := Lib.hid (Cel.new v3 [.int .i64 W, .int .i64 H, .slice A2 N c2] 57)
    have HQ4 := Lib.hid (HQ3.out.below bN HQ3.out.1)
    have HW4 := Lib.hid (HW3.out.below bN HW3.out.1)
    have HR14 := Lib.hid (HR13.out.below bN (Nat.le_refl _))
    have HZ4 := Lib.hid (HZ3.out.below bN (Nat.le_refl _))
    have HB4 := Lib.hid (HB3.out.trans (bN.mono HB3.out.size))
    have zz4 := (bN).size
    clear HQ3 HW3 HR13 HZ3 HB3
    clear bN
    generalize v3.alloc (.cells #[.int .i64 W, .int .i64 H, .slice A2 N c2] 57) = v4 at *
    generalize hbP : v3.heap.size = bP at *
    have QP := Lib.hid hbP
    clear hbP
    refine (a2At_any _ A1 n1 c1 zs1 0 256 HR14.out (by omega) (by omega) (by omega) hl1).mono ?_
    rintro e w' ⟨s, rfl, s1, s2, rfl⟩
    have HIS := Lib.hid (show inB s 0 1000000000000 = true from decide_eq_true ⟨s1, by omega⟩)
    obtain ⟨X, hX⟩ : ∃ X, mvE (2 * W) x dx s = X := ⟨_, rfl⟩
    obtain ⟨Y, hY⟩ : ∃ Y, mvE (2 * H) y dy s = Y := ⟨_, rfl⟩
    obtain ⟨DX, hDX⟩ : ∃ DX, mvG (2 * W) x dx s = DX := ⟨_, rfl⟩
    obtain ⟨DY, hDY⟩ : ∃ DY, mvG (2 * H) y dy s = DY := ⟨_, rfl⟩
    have HV := Lib.hid (show _ ∧ _ ∧ _ ∧ _ from ⟨hX, hY, hDX, hDY⟩)
    clear hX hY hDX hDY
    have kP_z := HP4.out.1
    have kP_0 := HP4.out.2 0 _ rfl
    have kP_1 := HP4.out.2 1 _ rfl
    have kP_2 := HP4.out.2 2 _ rfl
    have kW_z := HW4.out.1
    have kW_0 := HW4.out.2 0 _ rfl
    have kW_1 := HW4.out.2 1 _ rfl
    have kW_2 := HW4.out.2 2 _ rfl
    have kW_3 := HW4.out.2 3 _ rfl
    go_wp2_with fail
    clear kP_z kP_0 kP_1 kP_2 kW_z kW_0 kW_1 kW_2 kW_3
    refine (plw_k _ HW0.out HH0.out HG.out HIS.out HV.out).mono ?_
    rintro e v5 ⟨rfl, bb⟩
    have HQ5 := Lib.hid (HQ4.out.below bb HQ4.out.1)
    have HW5 := Lib.hid (HW4.out.below bb HW4.out.1)
    have HP5 := Lib.hid (HP4.out.below bb HP4.out.1)
    have HR15 := Lib.hid (HR14.out.below bb (Nat.le_refl _))
    have HZ5 := Lib.hid (HZ4.out.below bb (Nat.le_refl _))
    have HB5 := Lib.hid (HB4.out.trans (bb.mono HB4.out.size))
    have zz5 := (bb).size
    clear HQ4 HW4 HP4 HR14 HZ4 HB4
    clear bb
    have kP_z := HP5.out.1
    have kP_0 := HP5.out.2 0 _ rfl
    have kP_1 := HP5.out.2 1 _ rfl
    have kP_2 := HP5.out.2 2 _ rfl
    have kW_z := HW5.out.1
    have kW_0 := HW5.out.2 0 _ rfl
    have kW_1 := HW5.out.2 1 _ rfl
    have kW_2 := HW5.out.2 2 _ rfl
    have kW_3 := HW5.out.2 3 _ rfl
    go_wp2_with fail
    clear kP_z kP_0 kP_1 kP_2 kW_z kW_0 kW_1 kW_2 kW_3
    have bN := (Below.refl v5.heap.size v5).alloc (Nat.le_refl _) (.cells #[.int .i64 X, .int .i64 Y, .int .i64 DX, .int .i64 DY] 61)
    have HA6 := Lib.hid (Cel.new v5 [.int .i64 X, .int .i64 Y, .int .i64 DX, .int .i64 DY] 61)
    have HQ6 := Lib.hid (HQ5.out.below bN HQ5.out.1)
    have HW6 := Lib.hid (HW5.out.below bN HW5.out.1)
    have HP6 := Lib.hid (HP5.out.below bN HP5.out.1)
    have HR16 := Lib.hid (HR15.out.below bN (Nat.le_refl _))
    have HZ6 := Lib.hid (HZ5.out.below bN (Nat.le_refl _))
    have HB6 := Lib.hid (HB5.out.trans (bN.mono HB5.out.size))
    have zz6 := (bN).size
    clear HQ5 HW5 HP5 HR15 HZ5 HB5
    clear bN
    generalize v5.alloc (.cells #[.int .i64 X, .int .i64 Y, .int .i64 DX, .int .i64 DY] 61) = v6 at *
    generalize hbA : v5.heap.size = bA at *
    have QA := Lib.hid hbA
    clear hbA
    refine (wsteps_k _ HZ6.out HW0.out HH0.out HN.out HG.out s1 s2 HV.out).mono ?_
    rintro e v7 ⟨rfl, bb⟩
    have HQ7 := Lib.hid (HQ6.out.below bb HQ6.out.1)
    have HW7 := Lib.hid (HW6.out.below bb HW6.out.1)
    have HP7 := Lib.hid (HP6.out.below bb HP6.out.1)
    have HA7 := Lib.hid (HA6.out.below bb HA6.out.1)
    have HR17 := Lib.hid (HR16.out.below bb (Nat.le_refl _))
    have HZ7 := Lib.hid (HZ6.out.below bb (Nat.le_refl _))
    have HB7 := Lib.hid (HB6.out.trans (bb.mono HB6.out.size))
    have zz7 := (bb).size
    clear HQ6 HW6 HP6 HA6 HR16 HZ6 HB6
    clear bb
    have kP_z := HP7.out.1
    have kP_0 := HP7.out.2 0 _ rfl
    have kP_1 := HP7.out.2 1 _ rfl
    have kP_2 := HP7.out.2 2 _ rfl
    have kW_z := HW7.out.1
    have kW_0 := HW7.out.2 0 _ rfl
    have kW_1 := HW7.out.2 1 _ rfl
    have kW_2 := HW7.out.2 2 _ rfl
    have kW_3 := HW7.out.2 3 _ rfl
    go_wp2_with fail
    clear kP_z kP_0 kP_1 kP_2 kW_z kW_0 kW_1 kW_2 kW_3
    have bN := (Below.refl v7.heap.size v7).alloc (Nat.le_refl _) (.cells #[.int .i64 X, .int .i64 Y, .int .i64 DX, .int .i64 DY] 61)
    have HE8 := Lib.hid (Cel.new v7 [.int .i64 X, .int .i64 Y, .int .i64 DX, .int .i64 DY] 61)
    have HQ8 := Lib.hid (HQ7.out.below bN HQ7.out.1)
    have HW8 := Lib.hid (HW7.out.below bN HW7.out.1)
    have HP8 := Lib.hid (HP7.out.below bN HP7.out.1)
    have HA8 := Lib.hid (HA7.out.below bN HA7.out.1)
    have HR18 := Lib.hid (HR17.out.below bN (Nat.le_refl _))
    have HZ8 := Lib.hid (HZ7.out.below bN (Nat.le_refl _))
    have HB8 := Lib.hid (HB7.out.trans (bN.mono HB7.out.size))
    have zz8 := (bN).size
    clear HQ7 HW7 HP7 HA7 HR17 HZ7 HB7
    clear bN
    generalize v7.alloc (.cells #[.int .i64 X, .int .i64 Y, .int .i64 DX, .int .i64 DY] 61) = v8 at *
    generalize hbE : v7.heap.size = bE at *
    have QE := Lib.hid hbE
    clear hbE
    refine (pret_k _ HW0.out HH0.out HG.out HLL.out).mono ?_
    rintro e v9 ⟨rfl, bb⟩
    have HQ9 := Lib.hid (HQ8.out.below bb HQ8.out.1)
    have HW9 := Lib.hid (HW8.out.below bb HW8.out.1)
    have HP9 := Lib.hid (HP8.out.below bb HP8.out.1)
    have HA9 := Lib.hid (HA8.out.below bb HA8.out.1)
    have HE9 := Lib.hid (HE8.out.below bb HE8.out.1)
    have HR19 := Lib.hid (HR18.out.below bb (Nat.le_refl _))
    have HZ9 := Lib.hid (HZ8.out.below bb (Nat.le_refl _))
    have HB9 := Lib.hid (HB8.out.trans (bb.mono HB8.out.size))
    have zz9 := (bb).size
    clear HQ8 HW8 HP8 HA8 HE8 HR18 HZ8 HB8
    clear bb
    have kP_z := HP9.out.1
    have kP_0 := HP9.out.2 0 _ rfl
    have kP_1 := HP9.out.2 1 _ rfl
    have kP_2 := HP9.out.2 2 _ rfl
    have kW_z := HW9.out.1
    have kW_0 := HW9.out.2 0 _ rfl
    have kW_1 := HW9.out.2 1 _ rfl
    have kW_2 := HW9.out.2 2 _ rfl
    have kW_3 := HW9.out.2 3 _ rfl
    go_wp2_with fail
    clear kP_z kP_0 kP_1 kP_2 kW_z kW_0 kW_1 kW_2 kW_3
    refine (home_k _ HW0.out HH0.out HG.out HLL.out).mono ?_
    rintro e v10 ⟨rfl, bb⟩
    have HQ10 := Lib.hid (HQ9.out.below bb HQ9.out.1)
    have HW10 := Lib.hid (HW9.out.below bb HW9.out.1)
    have HP10 := Lib.hid (HP9.out.below bb HP9.out.1)
    have HA10 := Lib.hid (HA9.out.below bb HA9.out.1)
    have HE10 := Lib.hid (HE9.out.below bb HE9.out.1)
    have HR110 := Lib.hid (HR19.out.below bb (Nat.le_refl _))
    have HZ10 := Lib.hid (HZ9.out.below bb (Nat.le_refl _))
    have HB10 := Lib.hid (HB9.out.trans (bb.mono HB9.out.size))
    have zz10 := (bb).size
    clear HQ9 HW9 HP9 HA9 HE9 HR19 HZ9 HB9
    clear bb
    have bN := (Below.refl v10.heap.size v10).alloc (Nat.le_refl _) (.cells #[.int .i64 x, .int .i64 y, .int .i64 dx, .int .i64 dy] 61)
    have HK11 := Lib.hid (Cel.new v10 [.int .i64 x, .int .i64 y, .int .i64 dx, .int .i64 dy] 61)
    have HQ11 := Lib.hid (HQ10.out.below bN HQ10.out.1)
    have HW11 := Lib.hid (HW10.out.below bN HW10.out.1)
    have HP11 := Lib.hid (HP10.out.below bN HP10.out.1)
    have HA11 := Lib.hid (HA10.out.below bN HA10.out.1)
    have HE11 := Lib.hid (HE10.out.below bN HE10.out.1)
    have HR111 := Lib.hid (HR110.out.below bN (Nat.le_refl _))
    have HZ11 := Lib.hid (HZ10.out.below bN (Nat.le_refl _))
    have HB11 := Lib.hid (HB10.out.trans (bN.mono HB10.out.size))
    have zz11 := (bN).size
    clear HQ10 HW10 HP10 HA10 HE10 HR110 HZ10 HB10
    clear bN
    have eX : (X == X) = true := beq_self_eq_true _
    have eY : (Y == Y) = true := beq_self_eq_true _
    have eDX : (DX == DX) = true := beq_self_eq_true _
    have eDY : (DY == DY) = true := beq_self_eq_true _
    have ex : (x == x) = true := beq_self_eq_true _
    have ey : (y == y) = true := beq_self_eq_true _
    have edx : (dx == dx) = true := beq_self_eq_true _
    have edy : (dy == dy) = true := beq_self_eq_true _
    have kP_z := HP11.out.1
    have kP_0 := HP11.out.2 0 _ rfl
    have kP_1 := HP11.out.2 1 _ rfl
    have kP_2 := HP11.out.2 2 _ rfl
    have kW_z := HW11.out.1
    have kW_0 := HW11.out.2 0 _ rfl
    have kW_1 := HW11.out.2 1 _ rfl
    have kW_2 := HW11.out.2 2 _ rfl
    have kW_3 := HW11.out.2 3 _ rfl
    have kA_z := HA11.out.1
    have kA_0 := HA11.out.2 0 _ rfl
    have kA_1 := HA11.out.2 1 _ rfl
    have kA_2 := HA11.out.2 2 _ rfl
    have kA_3 := HA11.out.2 3 _ rfl
    have kE_z := HE11.out.1
    have kE_0 := HE11.out.2 0 _ rfl
    have kE_1 := HE11.out.2 1 _ rfl
    have kE_2 := HE11.out.2 2 _ rfl
    have kE_3 := HE11.out.2 3 _ rfl
    have kK_z := HK11.out.1
    have kK_0 := HK11.out.2 0 _ rfl
    have kK_1 := HK11.out.2 1 _ rfl
    have kK_2 := HK11.out.2 2 _ rfl
    have kK_3 := HK11.out.2 3 _ rfl
    go_wp2_with fail
    clear kP_z kP_0 kP_1 kP_2 kW_z kW_0 kW_1 kW_2 kW_3 kA_z kA_0 kA_1 kA_2 kA_3 kE_z kE_0 kE_1 kE_2 kE_3 kK_z kK_0 kK_1 kK_2 kK_3
    generalize v10.alloc (.cells #[.int .i64 x, .int .i64 y, .int .i64 dx, .int .i64 dy] 61) = v11 at *
    refine (far_k _ HW0.out HH0.out HG.out HLL.out HIS.out s2 HV.out).mono ?_
    rintro e v12 ⟨rfl, bb⟩
    have HQ12 := Lib.hid (HQ11.out.below bb HQ11.out.1)
    have HW12 := Lib.hid (HW11.out.below bb HW11.out.1)
    have HP12 := Lib.hid (HP11.out.below bb HP11.out.1)
    have HA12 := Lib.hid (HA11.out.below bb HA11.out.1)
    have HE12 := Lib.hid (HE11.out.below bb HE11.out.1)
    have HK12 := Lib.hid (HK11.out.below bb HK11.out.1)
    have HR112 := Lib.hid (HR111.out.below bb (Nat.le_refl _))
    have HZ12 := Lib.hid (HZ11.out.below bb (Nat.le_refl _))
    have HB12 := Lib.hid (HB11.out.trans (bb.mono HB11.out.size))
    have zz12 := (bb).size
    clear HQ11 HW11 HP11 HA11 HE11 HK11 HR111 HZ11 HB11
    clear bb
    have bN := (Below.refl v12.heap.size v12).alloc (Nat.le_refl _) (.cells #[.int .i64 X, .int .i64 Y, .int .i64 DX, .int .i64 DY] 61)
    have HT13 := Lib.hid (Cel.new v12 [.int .i64 X, .int .i64 Y, .int .i64 DX, .int .i64 DY] 61)
    have HQ13 := Lib.hid (HQ12.out.below bN HQ12.out.1)
    have HW13 := Lib.hid (HW12.out.below bN HW12.out.1)
    have HP13 := Lib.hid (HP12.out.below bN HP12.out.1)
    have HA13 := Lib.hid (HA12.out.below bN HA12.out.1)
    have HE13 := Lib.hid (HE12.out.below bN HE12.out.1)
    have HK13 := Lib.hid (HK12.out.below bN HK12.out.1)
    have HR113 := Lib.hid (HR112.out.below bN (Nat.le_refl _))
    have HZ13 := Lib.hid (HZ12.out.below bN (Nat.le_refl _))
    have HB13 := Lib.hid (HB12.out.trans (bN.mono HB12.out.size))
    have zz13 := (bN).size
    clear HQ12 HW12 HP12 HA12 HE12 HK12 HR112 HZ12 HB12
    clear bN
    have kW_z := HW13.out.1
    have kW_0 := HW13.out.2 0 _ rfl
    have kW_1 := HW13.out.2 1 _ rfl
    have kW_2 := HW13.out.2 2 _ rfl
    have kW_3 := HW13.out.2 3 _ rfl
    have kA_z := HA13.out.1
    have kA_0 := HA13.out.2 0 _ rfl
    have kA_1 := HA13.out.2 1 _ rfl
    have kA_2 := HA13.out.2 2 _ rfl
    have kA_3 := HA13.out.2 3 _ rfl
    have kE_z := HE13.out.1
    have kE_0 := HE13.out.2 0 _ rfl
    have kE_1 := HE13.out.2 1 _ rfl
    have kE_2 := HE13.out.2 2 _ rfl
    have kE_3 := HE13.out.2 3 _ rfl
    have kT_z := HT13.out.1
    have kT_0 := HT13.out.2 0 _ rfl
    have kT_1 := HT13.out.2 1 _ rfl
    have kT_2 := HT13.out.2 2 _ rfl
    have kT_3 := HT13.out.2 3 _ rfl
    have hm0 : 0 ≤ s % (4 * ll) := Int.emod_nonneg _ (by omega)
    by_cases c0 : s = 0
    · have d0 : (s == 0) = true := beq_iff_eq.2 c0
      clear c0
      go_wp2
      go_ret
      exact ⟨rfl, HB13.out⟩
    · have d0 : (s == 0) = false := beq_eq_false_iff_ne.2 c0
      clear c0
      by_cases c1 : s % (4 * ll) = 0
      · have d1 : (s % (4 * ll) == 0) = true := beq_iff_eq.2 c1
        clear c1
        go_wp2
        go_ret
        exact ⟨rfl, HB13.out⟩
      · have d1 : (s % (4 * ll) == 0) = false := beq_eq_false_iff_ne.2 c1
        have HNB := Lib.hid (show ¬ (X = x ∧ Y = y ∧ DX = dx ∧ DY = dy) from fun h => c1 (by obtain ⟨h1, h2, h3, h4⟩ := h; subst h1 h2 h3 h4; exact back_when HW0.out HH0.out HG.out HLL.out s1 HV.out))
        clear c1
        by_cases f1 : X = x
        · by_cases f2 : Y = y
          · by_cases f3 : DX = dx
            · have f4 : DY ≠ dy := fun h => HNB.out ⟨f1, f2, f3, h⟩
              have g1 : (X == x) = true := beq_iff_eq.2 f1
              have g2 : (Y == y) = true := beq_iff_eq.2 f2
              have g3 : (DX == dx) = true := beq_iff_eq.2 f3
              have g4 : (DY == dy) = false := beq_eq_false_iff_ne.2 f4
              clear f1 f2 f3 f4
              go_wp2
              go_ret
              exact ⟨rfl, HB13.out⟩
            · have g1 : (X == x) = true := beq_iff_eq.2 f1
              have g2 : (Y == y) = true := beq_iff_eq.2 f2
              have g3 : (DX == dx) = false := beq_eq_false_iff_ne.2 f3
              clear f1 f2 f3
              go_wp2
              go_ret
              exact ⟨rfl, HB13.out⟩
          · have g1 : (X == x) = true := beq_iff_eq.2 f1
            have g2 : (Y == y) = false := beq_eq_false_iff_ne.2 f2
            clear f1 f2
            go_wp2
            go_ret
            exact ⟨rfl, HB13.out⟩
        · have g1 : (X == x) = false := beq_eq_false_iff_ne.2 f1
          clear f1
          go_wp2
          go_ret
          exact ⟨rfl, HB13.out⟩
  · go_enter Try.func14, Try.ntmps14
    go_wp2_with fail
    refine (a2Long_any _ A0 A1 n0 c0 n1 c1 hm0 hm1).mono ?_
    rintro e w' ⟨rfl, rfl⟩
    go_wp2
    go_ret
    exact ⟨rfl, Below.refl _ _⟩

set_option maxRecDepth 100000 in
theorem lifted (os : Os) (started : os.Started) (H : Type) (enc : TypeId × Value → H) :
    ReturnsInHanded {} Try.checked os 14 .any (Rows.fnPlainWalksSpec.pre6 enc Try.prog Try.f14 Rows.fnPlainWalksRow.domain false) (Rows.fnPlainWalksSpec.post enc Try.prog Try.f14 false true false false) := by
  refine returnsInHanded_of_change (C := Try.checked) own started (by kernel_rfl) Try.func14
    (ChangeSpec.witness6 (enc := enc) (C := Try.checked) false ⟨#[], #[.slice none 0 0, .slice none 0 0], []⟩ 8 (by kernel_rfl) (by kernel_rfl) (by kernel_rfl) (by kernel_rfl)) ?_
  intro W base args ds gs before hval0 hW hcnd _
  have hval : ∀ (j : Nat) t v, Try.f14.params[j]? = some t → args[j]? = some v → Value.okWide Try.prog W .any base t v := hval0
  have hW' := hW
  obtain ⟨p, q, hA0, hV, rfl, hfz, hnd⟩ := hW
  have hA : DataW.TrodAll enc Try.prog W 0 (fun _ => true) true Try.f14.params.toList args.toList ds p := hA0
  rw [Try.params14] at hA hval
  obtain ⟨v0, vs0, d0, ds0, p0, q0, hargs, rfl, rfl, h0, tl0⟩ := trodAll_cons hA
  obtain ⟨v1, vs1, d1, ds1, p1, q1, rfl, rfl, rfl, h1, tl1⟩ := trodAll_cons tl0
  obtain ⟨rfl, rfl, rfl⟩ := trodAll_nil tl1
  obtain rfl : args = #[v0, v1] := by cases args; simp_all
  obtain ⟨rfl, rfl⟩ := trodVars_none hV
  have k0 := h0
  have lt0 : ∀ x ∈ p0, x.block < W.heap.size := by obtain ⟨m, hm⟩ := k0; exact DataW.trod_lt m _ _ _ hm
  have k1 := h1
  have lt1 : ∀ x ∈ p1, x.block < W.heap.size := by obtain ⟨m, hm⟩ := k1; exact DataW.trod_lt m _ _ _ hm
  obtain ⟨A0, n0, c0, rfl⟩ := okWide_slice Try.underlying44 (hval 0 44 v0 rfl rfl)
  obtain ⟨zs0, r0⟩ : ∃ zs, Row .u8 W A0 n0 c0 zs := by
    obtain ⟨fuel, hf⟩ := h0
    obtain ⟨A', n', c', zs, e2, r⟩ := row_of Try.underlying44 Try.underlying5 (by kernel_rfl) hf (fun x hx => lt0 x hx)
    simp [Value.cells] at e2
    obtain ⟨rfl, rfl, rfl⟩ := e2
    exact ⟨zs, r⟩
  obtain ⟨A1, n1, c1, rfl⟩ := okWide_slice Try.underlying44 (hval 1 44 v1 rfl rfl)
  obtain ⟨zs1, r1⟩ : ∃ zs, Row .u8 W A1 n1 c1 zs := by
    obtain ⟨fuel, hf⟩ := h1
    obtain ⟨A', n', c', zs, e2, r⟩ := row_of Try.underlying44 Try.underlying5 (by kernel_rfl) hf (fun x hx => lt1 x hx)
    simp [Value.cells] at e2
    obtain ⟨rfl, rfl, rfl⟩ := e2
    exact ⟨zs, r⟩
  clear hA0 hval0
  refine (walk W A0 n0 c0 zs0 r0 A1 n1 c1 zs1 r1).mono fun e W' ⟨he, bel⟩ => ?_
  subst he
  exact ⟨_, rfl, _, _, _, [], _, [], hW', trodAll_mk1 (shut_bool Try.underlying4 _), (trodAll_cons_mk (Below.trod laidOut (by kernel_rfl) (of_decide_eq_true (by kernel_rfl)) k0 bel lt0) (trodAll_cons_mk (Below.trod laidOut (by kernel_rfl) (of_decide_eq_true (by kernel_rfl)) k1 bel lt1) trodAll_mk0)), rfl, bel.frame _, fun h => by cases h⟩

theorem over : Rows.fnPlainWalksRow.holds Try.pinned (OpenSpec.ofChange Rows.fnPlainWalksSpec) :=
  OpenClaim.holds_of_wide 14 Try.f14 rfl rfl rfl rfl rfl rfl rfl ⟨rfl, rfl, rfl, rfl, rfl⟩ rfl rfl rfl rfl rfl (by kernel_rfl) Try.func14 (by kernel_rfl)
    (of_decide_eq_true (by kernel_rfl)) (by unfold Func.isWrapper; first | (rw [if_pos (by decide +kernel)]; kernel_rfl) | (rw [if_neg (by decide +kernel)]; exact ⟨rfl, rfl⟩))
    (fun os started H enc _ => lifted os started H enc)

theorem proved : Rows.FnPlainWalksSaid := over
#print axioms proved
end Go.Proofs.Ytfgbfmpolhilcab.fnPlainWalks
