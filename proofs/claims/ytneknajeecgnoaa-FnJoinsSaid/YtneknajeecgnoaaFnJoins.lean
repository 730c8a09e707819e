/- Proved: whatever bytes FnJoins is called with (of at most 3000 each; for longer ones the law answers true at once), it returns true and changes nothing. No condition. -/
import Derived.Test.YtneknajeecgnoaaRows
import Derived.Test.YtneknajeecgnoaaBase
import Derived.Test.YtneknajeecgnoaaPan
import Derived.Test.YtneknajeecgnoaaNew
import Derived.Test.YtneknajeecgnoaaSrc
import Derived.Test.YtneknajeecgnoaaDrw
import Derived.Test.YtneknajeecgnoaaPnt
import Derived.Test.YtneknajeecgnoaaUfm
import Derived.WalkKit
import Derived.ProofKit
import Derived.OpenShut
import Derived.ShutString
import Derived.ChangeOld
import Derived.Below
import Derived.Lib.SmallJoins
namespace Go.Proofs.Ytneknajeecgnoaa.fnJoins
open Go.ChangeShapes Go.WideShapes Go.ChangeAt Go.RowKit Go.Joins
open Go.ChangeMaps (open_string shut_string)
open Go.Proofs.Ytneknajeecgnoaa.Base
set_option linter.unusedVariables false
theorem own : ownKnob Try.prog.godebug = none := by kernel_rfl
theorem laidOut : laidOutB Try.prog = true := by kernel_rfl

set_option maxHeartbeats 8000000 in
set_option maxRecDepth 100000 in
theorem walk (w : World) (A0 : Option Addr) (n0 c0 : Nat) (zs0 : Nat → Int) (r0 : Row .u8 w A0 n0 c0 zs0) (A1 : Option Addr) (n1 c1 : Nat) (zs1 : Nat → Int) (r1 : Row .u8 w A1 n1 c1 zs1) :
    Calls Try.prog 3 #[.slice A0 n0 c0, .slice A1 n1 c1] w fun e w' => e = .returned (.bool true) ∧ Below w.heap.size w w' := by
  have hm0 : n0 ≤ maxLen := Nat.le_trans r0.1 r0.2.1
  have hm1 : n1 ≤ maxLen := Nat.le_trans r1.1 r1.2.1
  have HR0 := Lib.hid r0
  have HR1 := Lib.hid r1
  clear r0 r1
  cases hl : longB n0 n1
  · have hl0 : n0 ≤ 3000 ∧ n1 ≤ 3000 := by have := of_decide_eq_false hl; omega
    obtain ⟨hl0, hl1⟩ := hl0
    go_enter Try.func3, Try.ntmps3
    go_wp2_with fail
    refine (a2Long_any _ A0 A1 n0 c0 n1 c1 hm0 hm1).mono ?_
    rintro e w' ⟨rfl, rfl⟩
    rw [hl]
    go_wp2_with fail
    refine (a2Joined_any w A0 n0 c0 zs0 HR0.out (by omega)).mono ?_
    rintro e w1 ⟨⟨A, n, c, f, B, m, d, g, rfl, hV, h14, rA, rB⟩, b1⟩
    have hn1 := hV.n1
    have hmn := hV.le
    have bN := (Below.refl w1.heap.size w1).alloc (Nat.le_refl _) (.cells #[.slice A n c, .slice B m d] 26)
    have HJ2 := Lib.hid (Cel.new w1 [.slice A n c, .slice B m d] 26)
    have HA2 := Lib.hid (rA.row.below bN (Nat.le_refl _))
    have HB2 := Lib.hid (rB.row.below bN (Nat.le_refl _))
    have HW2 := Lib.hid (b1.trans (bN.mono b1.size))
    have HV := Lib.hid hV
    have k0 := HJ2.out.2 0 _ rfl
    have k1 := HJ2.out.2 1 _ rfl
    have kz := HJ2.out.1
    obtain ⟨va, hva⟩ : ∃ va, atV n1 zs1 0 n = va := ⟨_, rfl⟩
    obtain ⟨vb, hvb⟩ : ∃ vb, atV n1 zs1 1 n = vb := ⟨_, rfl⟩
    have hab := atV_bd (n := n1) (f := zs1) (a := 0) (m := (n : Int)) (by omega)
    have hbb := atV_bd (n := n1) (f := zs1) (a := 1) (m := (n : Int)) (by omega)
    rw [hva] at hab
    rw [hvb] at hbb
    obtain ⟨a, rfl⟩ : ∃ a : Nat, va = a := ⟨va.toNat, by omega⟩
    obtain ⟨b, rfl⟩ : ∃ b : Nat, vb = b := ⟨vb.toNat, by omega⟩
    have HVA := Lib.hid hva
    have HVB := Lib.hid hvb
    have han : a < n := by omega
    have hbn : b < n := by omega
    clear b1 bN rA rB hV hva hvb
    go_wp2_with fail
    refine (a2At_is _ A1 n1 c1 zs1 0 n (HR1.out.below HW2.out (Nat.le_refl _)) (by omega) (by omega) (by omega) hl1).mono ?_
    rintro e w2 ⟨rfl, hw⟩
    rw [HVA.out]
    subst hw
    go_wp2_with fail
    refine (a2At_is _ A1 n1 c1 zs1 1 n (HR1.out.below HW2.out (Nat.le_refl _)) (by omega) (by omega) (by omega) hl1).mono ?_
    rintro e w2 ⟨rfl, hw⟩
    rw [HVB.out]
    subst hw
    obtain ⟨x, hx⟩ : ∃ x, upN f m a = x := ⟨_, rfl⟩
    obtain ⟨y, hy⟩ : ∃ y, upN f m b = y := ⟨_, rfl⟩
    obtain ⟨f0, m0, g0, hc⟩ : ∃ f0 m0 g0, JCase f m g x y f0 m0 g0 := by
      by_cases e : x = y
      · exact ⟨f, m, g, .inl ⟨e, rfl, rfl, rfl⟩⟩
      · exact ⟨_, _, _, .inr ⟨e, rfl, rfl, rfl⟩⟩
    obtain ⟨hV0, hup, hms⟩ := HV.out.jcase han hbn hx hy hc
    have HJN := Lib.hid (jl_join _ HA2.out HB2.out HV.out han hbn hx hy hc)
    have HJC := Lib.hid hc
    have HXY := Lib.hid (And.intro hx hy)
    have HV0 := Lib.hid hV0
    have hm0n := hV0.le
    obtain ⟨r, hr⟩ : ∃ r, upN f0 m0 a = r := ⟨_, rfl⟩
    rw [hr] at hup
    have HRA := Lib.hid hr
    have HRB := Lib.hid hup.symm
    have HMS := Lib.hid hms
    clear hx hy hc hV0 hup hr hms HVA HVB
    generalize hbj : w1.heap.size = pj at *
    have hwj : pj ≤ w1.heap.size := by omega
    generalize w1.alloc (.cells #[.slice A n c, .slice B m d] 26) = w2 at *
    go_wp2_with fail
    refine HJN.out.mono ?_
    rintro e w3 ⟨AX, cX, BX, dX, rfl, J3, b3⟩
    have bN := (Below.refl w3.heap.size w3).alloc (Nat.le_refl _) (.cells #[.slice AX n cX, .slice BX m0 dX] 26)
    have b4 := b3.trans (bN.mono b3.size)
    have HJ4 := Lib.hid (HJ2.out.below b4 HJ2.out.1)
    have HX4 := Lib.hid (Cel.new w3 [.slice AX n cX, .slice BX m0 dX] 26)
    have HA4 := Lib.hid (HA2.out.below b4 (Nat.le_refl _))
    have HB4 := Lib.hid (HB2.out.below b4 (Nat.le_refl _))
    have HC4 := Lib.hid (J3.1.row.below bN (Nat.le_refl _))
    have HD4 := Lib.hid (J3.2.1.row.below bN (Nat.le_refl _))
    have HW4 := Lib.hid (HW2.out.trans (b4.mono HW2.out.size))
    clear b3 bN b4 J3 HJN k0 k1 kz HJ2 HA2 HB2 HW2
    obtain ⟨Y, hY⟩ : ∃ Y : Int, (n : Int) - m = Y := ⟨_, rfl⟩
    obtain ⟨X, hX⟩ : ∃ X : Int, (n : Int) - m0 = X := ⟨_, rfl⟩
    have HYY := Lib.hid hY
    have HXX := Lib.hid hX
    have hYb : 0 ≤ Y ∧ Y ≤ 14 := by omega
    have hXb : 0 ≤ X ∧ X ≤ 14 := by omega
    have HQ : Hid (X = Y ∨ X = Y - 1) := Lib.hid (by rcases HMS.out with ⟨-, h⟩ | ⟨-, h⟩ <;> omega)
    have HCY := Lib.hid (fun w (h1 : Row .i64 w A n c f) (h2 : Row .i64 w B m d g) => hY ▸ jl_count w h1 h2 HV.out)
    have HCX := Lib.hid (fun w A c B d (h1 : Row .i64 w A n c f0) (h2 : Row .i64 w B m0 d g0) => hX ▸ jl_count w (A := A) (c := c) (B := B) (d := d) h1 h2 HV0.out)
    clear hY hX
    have j0 := HJ4.out.2 0 _ rfl
    have j1 := HJ4.out.2 1 _ rfl
    have jz := HJ4.out.1
    go_wp2_with fail
    generalize hbx : w3.heap.size = px at *
    generalize w3.alloc (.cells #[.slice AX n cX, .slice BX m0 dX] 26) = w4 at *
    clear hbx
    clear j0 j1 jz
    refine (HCY.out _ HA4.out HB4.out).mono ?_
    rintro e w5 ⟨rfl, b5⟩
    have HJ5 := Lib.hid (HJ4.out.below b5 HJ4.out.1)
    have HX5 := Lib.hid (HX4.out.below b5 HX4.out.1)
    have HA5 := Lib.hid (HA4.out.below b5 (Nat.le_refl _))
    have HB5 := Lib.hid (HB4.out.below b5 (Nat.le_refl _))
    have HC5 := Lib.hid (HC4.out.below b5 (Nat.le_refl _))
    have HD5 := Lib.hid (HD4.out.below b5 (Nat.le_refl _))
    have HW5 := Lib.hid (HW4.out.trans (b5.mono HW4.out.size))
    clear b5 HJ4 HX4 HA4 HB4 HC4 HD4 HW4
    have x0 := HX5.out.2 0 _ rfl
    have x1 := HX5.out.2 1 _ rfl
    have xz := HX5.out.1
    go_wp2_with fail
    clear x0 x1 xz
    refine (jl_valid _ HC5.out HD5.out HV0.out).mono ?_
    rintro e w6 ⟨rfl, b6⟩
    have HJ6 := Lib.hid (HJ5.out.below b6 HJ5.out.1)
    have HX6 := Lib.hid (HX5.out.below b6 HX5.out.1)
    have HA6 := Lib.hid (HA5.out.below b6 (Nat.le_refl _))
    have HB6 := Lib.hid (HB5.out.below b6 (Nat.le_refl _))
    have HC6 := Lib.hid (HC5.out.below b6 (Nat.le_refl _))
    have HD6 := Lib.hid (HD5.out.below b6 (Nat.le_refl _))
    have HW6 := Lib.hid (HW5.out.trans (b6.mono HW5.out.size))
    clear b6 HJ5 HX5 HA5 HB5 HC5 HD5 HW5
    have x0 := HX6.out.2 0 _ rfl
    have x1 := HX6.out.2 1 _ rfl
    have xz := HX6.out.1
    go_wp2_with fail
    clear x0 x1 xz
    refine (HCX.out _ _ _ _ _ HC6.out HD6.out).mono ?_
    rintro e w7 ⟨rfl, b7⟩
    have HJ7 := Lib.hid (HJ6.out.below b7 HJ6.out.1)
    have HX7 := Lib.hid (HX6.out.below b7 HX6.out.1)
    have HA7 := Lib.hid (HA6.out.below b7 (Nat.le_refl _))
    have HB7 := Lib.hid (HB6.out.below b7 (Nat.le_refl _))
    have HC7 := Lib.hid (HC6.out.below b7 (Nat.le_refl _))
    have HD7 := Lib.hid (HD6.out.below b7 (Nat.le_refl _))
    have HW7 := Lib.hid (HW6.out.trans (b7.mono HW6.out.size))
    clear b7 HJ6 HX6 HA6 HB6 HC6 HD6 HW6
    have x0 := HX7.out.2 0 _ rfl
    have x1 := HX7.out.2 1 _ rfl
    have xz := HX7.out.1
    go_wp2_with fail
    clear x0 x1 xz
    refine (jl_group _ HC7.out HD7.out HV0.out han HRA.out).mono ?_
    rintro e w8 ⟨rfl, b8⟩
    have HJ8 := Lib.hid (HJ7.out.below b8 HJ7.out.1)
    have HX8 := Lib.hid (HX7.out.below b8 HX7.out.1)
    have HA8 := Lib.hid (HA7.out.below b8 (Nat.le_refl _))
    have HB8 := Lib.hid (HB7.out.below b8 (Nat.le_refl _))
    have HC8 := Lib.hid (HC7.out.below b8 (Nat.le_refl _))
    have HD8 := Lib.hid (HD7.out.below b8 (Nat.le_refl _))
    have HW8 := Lib.hid (HW7.out.trans (b8.mono HW7.out.size))
    clear b8 HJ7 HX7 HA7 HB7 HC7 HD7 HW7
    have x0 := HX8.out.2 0 _ rfl
    have x1 := HX8.out.2 1 _ rfl
    have xz := HX8.out.1
    go_wp2_with fail
    clear x0 x1 xz
    refine (jl_group _ HC8.out HD8.out HV0.out hbn HRB.out).mono ?_
    rintro e w9 ⟨rfl, b9⟩
    have HJ9 := Lib.hid (HJ8.out.below b9 HJ8.out.1)
    have HX9 := Lib.hid (HX8.out.below b9 HX8.out.1)
    have HA9 := Lib.hid (HA8.out.below b9 (Nat.le_refl _))
    have HB9 := Lib.hid (HB8.out.below b9 (Nat.le_refl _))
    have HC9 := Lib.hid (HC8.out.below b9 (Nat.le_refl _))
    have HD9 := Lib.hid (HD8.out.below b9 (Nat.le_refl _))
    have HW9 := Lib.hid (HW8.out.trans (b9.mono HW8.out.size))
    clear b9 HJ8 HX8 HA8 HB8 HC8 HD8 HW8
    go_upto_region 14 with (fail)
    go_cut [106] (fun s wx => s = .bool false ∧ wx = w9)
    case first =>
      rcases HQ.out with hq | hq
      · have e1 : (X != Y) = false := by simp [hq]
        clear hq
        go_wp2_with fail
        go_meet
        exact ⟨rfl, rfl⟩
      · have e1 : (X != Y) = true := by simp; omega
        have e2 : (X != Y - 1) = false := by simp [hq]
        clear hq
        go_wp2_with fail
        go_meet
        exact ⟨rfl, rfl⟩
    case rest =>
      obtain ⟨rfl, hw⟩ := hcut
      subst hw
      have hgl := jl_len HV0.out
      have hgn := (gs_grp (rt := upN f0 m0) n).toN
      obtain ⟨len, h1⟩ : ∃ len, (gs (upN f0 m0) n).2.length = len := ⟨_, rfl⟩
      obtain ⟨N, h2⟩ : ∃ N, (fun i => ((gs (upN f0 m0) n).2.getD i []).length) = N := ⟨_, rfl⟩
      obtain ⟨F, h3⟩ : ∃ F, (fun i j => ((gs (upN f0 m0) n).2.getD i []).getD j 0) = F := ⟨_, rfl⟩
      have HGS := Lib.hid (fun w (r1 : Row .i64 w AX n cX f0) (r2 : Row .i64 w BX m0 dX g0) => jl_groups w r1 r2 HV0.out h1 h2 h3)
      rw [h1, h2, h3] at hgn
      rw [h1] at hgl
      have HGN := Lib.hid hgn
      have hlx : ((len : Int) != X) = false := by have := HXX.out; simp; omega
      have hln : len ≤ 14 := by omega
      have hsum := hgn.sum
      have HSUM := Lib.hid hsum
      clear h1 h2 h3 hgn hgl hsum
      have x0 := HX9.out.2 0 _ rfl
      have x1 := HX9.out.2 1 _ rfl
      have xz := HX9.out.1
      go_wp2_with fail
      clear x0 x1 xz
      refine (HGS.out _ HC9.out HD9.out).mono ?_
      rintro e w10 ⟨AG, cG, PG, CG, rfl, LG, b10⟩
      have HLG := Lib.hid LG
      clear LG HGS
      have HJ10 := Lib.hid (HJ9.out.below b10 HJ9.out.1)
      have HX10 := Lib.hid (HX9.out.below b10 HX9.out.1)
      have HA10 := Lib.hid (HA9.out.below b10 (Nat.le_refl _))
      have HB10 := Lib.hid (HB9.out.below b10 (Nat.le_refl _))
      have HC10 := Lib.hid (HC9.out.below b10 (Nat.le_refl _))
      have HD10 := Lib.hid (HD9.out.below b10 (Nat.le_refl _))
      have HW10 := Lib.hid (HW9.out.trans (b10.mono HW9.out.size))
      clear b10 HJ9 HX9 HA9 HB9 HC9 HD9 HW9
      have hcm := HLG.out.cm
      have hnc := HLG.out.nc
      unfold maxLen at hcm
      go_wp2_with fail
      clear hlx
      go_loopw [21, 22, 23] (fun sv lv iv wr => ∃ i : Nat, i ≤ len ∧ iv = .int .i64 (i : Int) ∧ sv = .int .i64 (offs N i : Int) ∧ lv = .int .i64 (lastV F i) ∧ Hid (Below w10.heap.size w10 wr)) (fun _ _ iv _ => len - (intOf iv).toNat)
      case atStart => exact ⟨0, Nat.zero_le _, rfl, rfl, rfl, Lib.hid (Below.refl _ _)⟩
      case round =>
        obtain ⟨i, hi, rfl, rfl, rfl, HBr⟩ := hrel
        have HLr := Lib.hid (HLG.out.below HBr.out (Nat.le_refl _))
        by_cases hlt : i < len
        · obtain ⟨gb, hgb, -, hgl, hgc⟩ := HLr.out.out (by omega)
          subst hgb
          have hci := hgc i hlt
          have hq1 := HGN.out.ne i hlt
          have hll := last_lt HGN.out hlt
          have hbd := HGN.out.bd i hlt
          have hq2 : offs N i + N i ≤ offs N len := offs_mono (N := N) (show i + 1 ≤ len by omega)
          have hsm := HSUM.out
          obtain ⟨b2, o2, hP, -, hb2, hcc⟩ := (HLr.out.row i hlt).2.2.2 (by omega)
          have hcb := (HLr.out.row i hlt).2.1
          have hcn := (HLr.out.row i hlt).1
          unfold maxLen at hcb
          rw [hP] at hci
          have hasc := HGN.out.asc i hlt
          have HST := Lib.hid (show offs N (i + 1) = offs N i + N i from rfl)
          have HLS := Lib.hid (show lastV F (i + 1) = F i 0 from by unfold lastV; rw [if_neg (by omega)]; rfl)
          have HCC := Lib.hid (fun j (hj : j < N i) => (hcc j hj).1)
          have HASC := Lib.hid hasc
          have hz0 := (hcc 0 (by omega)).1
          rw [Nat.add_zero] at hz0
          have hb0 := hbd 0 (by omega)
          have HBD := Lib.hid hbd
          clear hgc hcc hasc hP hbd
          generalize offs N i = S at *
          generalize lastV F i = z at *
          generalize hqq : N i = q at *
          obtain ⟨u0, hu0⟩ : ∃ u0, F i 0 = u0 := ⟨_, rfl⟩
          rw [hu0] at hz0 hll hb0 HLS
          have hne : ((q : Int) == 0) = false := by simp; omega
          have hgt : decide (u0 ≤ z) = false := by simp; omega
          have HCI := Lib.hid hci
          have HGL := Lib.hid hgl
          have hSb : S + q ≤ 14 := by omega
          clear hu0 hll hq2 hsm
          go_wp2_with fail
          clear hz0 hci hne hgt
          generalize hwo : wr = wo at *
          clear hwo wr
          go_loopw [24] (fun kv ws => ∃ k : Nat, k + 1 ≤ q ∧ kv = .int .i64 ((k : Int) + 1) ∧ Hid (Below wo.heap.size wo ws)) (fun kv _ => q - (intOf kv).toNat)
          case atStart => exact ⟨0, by omega, rfl, Lib.hid (Below.refl _ _)⟩
          case round =>
            obtain ⟨k, hk, rfl, HBs⟩ := hrel
            have hci := (HBs.out.cell (p := ⟨gb, i, none⟩) HGL.out).trans HCI.out
            have hgs : gb < wr.heap.size := Nat.lt_of_lt_of_le HGL.out HBs.out.size
            by_cases hkq : k + 1 < q
            · have hk1 := (HBs.out.cell (p := ⟨b2, o2 + (k + 1), none⟩) hb2).trans (HCC.out (k + 1) (by omega))
              have hk0 := (HBs.out.cell (p := ⟨b2, o2 + k, none⟩) hb2).trans (HCC.out k (by omega))
              have hlt1 := HASC.out (k + 1) (by omega) (by omega)
              have hbs : b2 < wr.heap.size := Nat.lt_of_lt_of_le hb2 HBs.out.size
              rw [show k + 1 - 1 = k by omega] at hlt1
              generalize F i (k + 1) = v1 at *
              generalize F i k = v0 at *
              have hcmp : decide (v1 ≤ v0) = false := by simp; omega
              clear hlt1
              go_wp2_with fail
              go_quiet (fail)
              go_wp2
              go_roundw
              case rel => exact ⟨k + 1, by omega, by go_num, Lib.hid (below_drewN HBs.out _)⟩
              case measure => simp [intOf]; omega
            · obtain rfl : q = k + 1 := by omega
              go_wp2
              go_roundw
              case rel => exact ⟨i + 1, by omega, by go_num, by rw [HST.out]; first | rfl | go_num | (simp; done) | (simp; omega), by rw [HLS.out], Lib.hid (HBr.out.trans (HBs.out.mono HBr.out.size))⟩
              case measure => simp [intOf]; omega
        · obtain rfl : i = len := by omega
          rw [HSUM.out]
          have b11 := HBr.out
          have HJ11 := Lib.hid (HJ10.out.below b11 HJ10.out.1)
          have HX11 := Lib.hid (HX10.out.below b11 HX10.out.1)
          have HA11 := Lib.hid (HA10.out.below b11 (Nat.le_refl _))
          have HB11 := Lib.hid (HB10.out.below b11 (Nat.le_refl _))
          have HC11 := Lib.hid (HC10.out.below b11 (Nat.le_refl _))
          have HD11 := Lib.hid (HD10.out.below b11 (Nat.le_refl _))
          have HW11 := Lib.hid (HW10.out.trans (b11.mono HW10.out.size))
          clear b11 HJ10 HX10 HA10 HB10 HC10 HD10 HW10
          generalize hwv : wr = w11 at *
          clear hwv wr
          rcases HMS.out with ⟨hxy, hm⟩ | ⟨hxy, hm⟩
          · have hXY : X = Y := by have := HXX.out; have := HYY.out; omega
            have e1 : (X == Y) = true := by simp [hXY]
            have hsj : sjB n f0 m0 g0 n f m g = true := by
              rcases HJC.out with ⟨-, h1, h2, h3⟩ | ⟨h1, -⟩
              · rw [h1, h2, h3]
                unfold sjB
                rw [eqRows_yes (fun _ _ => rfl), eqRows_yes (fun _ _ => rfl)]
                rfl
              · exact absurd hxy h1
            have HSJ := Lib.hid (hsj ▸ spec_sameJoined w11 AX n cX f0 BX m0 dX g0 A n c f B m d g HC11.out HD11.out HA11.out HB11.out)
            have x0 := HX11.out.2 0 _ rfl
            have x1 := HX11.out.2 1 _ rfl
            have xz := HX11.out.1
            have j0 := HJ11.out.2 0 _ rfl
            have j1 := HJ11.out.2 1 _ rfl
            have jz := HJ11.out.1
            clear hXY hsj hxy hm
            go_wp2_with fail
            refine HSJ.out.mono ?_
            rintro e w12 ⟨rfl, b12⟩
            go_wp2
            go_ret
            exact ⟨rfl, HW11.out.trans (b12.mono HW11.out.size)⟩
          · have hXY : X = Y - 1 := by have := HXX.out; have := HYY.out; omega
            have e1 : (X == Y) = false := by simp; omega
            obtain ⟨z, hgz, hff, hgg⟩ := undo_join HV.out han hbn HXY.out.1 HXY.out.2 HJC.out hxy
            subst hm
            have hUJ := impl_undo_ok w11 AX n cX f0 BX m dX g0 z HC11.out HD11.out (vj_mk HV0.out) hgz
            have HUJ := Lib.hid hUJ
            have HFF := Lib.hid hff
            have HGG := Lib.hid hgg
            have x0 := HX11.out.2 0 _ rfl
            have x1 := HX11.out.2 1 _ rfl
            have xz := HX11.out.1
            clear hXY hUJ hff hgg hgz hxy
            go_wp2_with fail
            clear x0 x1 xz
            refine HUJ.out.mono ?_
            rintro e w12 ⟨AY, cY, BY, dY, rfl, J12, b12⟩
            have bN := (Below.refl w12.heap.size w12).alloc (Nat.le_refl _) (.cells #[.slice AY n cY, .slice BY m dY] 26)
            have bQ := b12.trans (bN.mono b12.size)
            have HY := Lib.hid (Cel.new w12 [.slice AY n cY, .slice BY m dY] 26)
            have HU := Lib.hid (J12.1.row.below bN (Nat.le_refl _))
            have HV2 := Lib.hid (J12.2.1.row.below bN (Nat.le_refl _))
            have HJ13 := Lib.hid (HJ11.out.below bQ HJ11.out.1)
            have HX13 := Lib.hid (HX11.out.below bQ HX11.out.1)
            have HA13 := Lib.hid (HA11.out.below bQ (Nat.le_refl _))
            have HB13 := Lib.hid (HB11.out.below bQ (Nat.le_refl _))
            have HC13 := Lib.hid (HC11.out.below bQ (Nat.le_refl _))
            have HD13 := Lib.hid (HD11.out.below bQ (Nat.le_refl _))
            have HW13 := Lib.hid (HW11.out.trans (bQ.mono HW11.out.size))
            clear bQ HJ11 HX11 HA11 HB11 HC11 HD11 HW11
            have hsj : sjB n (putF f0 z z) m g0 n f m g = true := by
              unfold sjB
              rw [eqRows_yes HFF.out, eqRows_yes HGG.out]
              rfl
            have HSJ := Lib.hid (hsj ▸ spec_sameJoined _ AY n cY (putF f0 z z) BY m dY g0 A n c f B m d g HU.out HV2.out HA13.out HB13.out)
            have y0 := HY.out.2 0 _ rfl
            have y1 := HY.out.2 1 _ rfl
            have yz := HY.out.1
            have j0 := HJ13.out.2 0 _ rfl
            have j1 := HJ13.out.2 1 _ rfl
            have jz := HJ13.out.1
            clear b12 bN J12 hsj HUJ
            go_wp2_with fail
            refine HSJ.out.mono ?_
            rintro e w14 ⟨rfl, b14⟩
            go_wp2
            go_ret
            exact ⟨rfl, HW13.out.trans (b14.mono HW13.out.size)⟩
  · go_enter Try.func3, Try.ntmps3
    go_wp2_with fail
    refine (a2Long_any _ A0 A1 n0 c0 n1 c1 hm0 hm1).mono ?_
    rintro e w' ⟨rfl, rfl⟩
    rw [hl]
    go_wp2
    go_ret
    exact ⟨rfl, Below.refl _ _⟩

set_option maxRecDepth 100000 in
theorem lifted (os : Os) (started : os.Started) (H : Type) (enc : TypeId × Value → H) :
    ReturnsInHanded {} Try.checked os 3 .any (Rows.fnJoinsSpec.pre6 enc Try.prog Try.f3 Rows.fnJoinsRow.domain false) (Rows.fnJoinsSpec.post enc Try.prog Try.f3 false true false false) := by
  refine returnsInHanded_of_change (C := Try.checked) own started (by kernel_rfl) Try.func3
    (ChangeSpec.witness6 (enc := enc) (C := Try.checked) false ⟨#[], #[.slice none 0 0, .slice none 0 0], []⟩ 8 (by kernel_rfl) (by kernel_rfl) (by kernel_rfl) (by kernel_rfl)) ?_
  intro W base args ds gs before hval0 hW hcnd _
  have hval : ∀ (j : Nat) t v, Try.f3.params[j]? = some t → args[j]? = some v → Value.okWide Try.prog W .any base t v := hval0
  have hW' := hW
  obtain ⟨p, q, hA0, hV, rfl, hfz, hnd⟩ := hW
  have hA : DataW.TrodAll enc Try.prog W 0 (fun _ => true) true Try.f3.params.toList args.toList ds p := hA0
  rw [Try.params3] at hA hval
  obtain ⟨v0, vs0, d0, ds0, p0, q0, hargs, rfl, rfl, h0, tl0⟩ := trodAll_cons hA
  obtain ⟨v1, vs1, d1, ds1, p1, q1, rfl, rfl, rfl, h1, tl1⟩ := trodAll_cons tl0
  obtain ⟨rfl, rfl, rfl⟩ := trodAll_nil tl1
  obtain rfl : args = #[v0, v1] := by cases args; simp_all
  obtain ⟨rfl, rfl⟩ := trodVars_none hV
  have k0 := h0
  have lt0 : ∀ x ∈ p0, x.block < W.heap.size := by obtain ⟨m, hm⟩ := k0; exact DataW.trod_lt m _ _ _ hm
  have k1 := h1
  have lt1 : ∀ x ∈ p1, x.block < W.heap.size := by obtain ⟨m, hm⟩ := k1; exact DataW.trod_lt m _ _ _ hm
  obtain ⟨A0, n0, c0, rfl⟩ := okWide_slice Try.underlying22 (hval 0 22 v0 rfl rfl)
  obtain ⟨zs0, r0⟩ : ∃ zs, Row .u8 W A0 n0 c0 zs := by
    obtain ⟨fuel, hf⟩ := h0
    obtain ⟨A', n', c', zs, e2, r⟩ := row_of Try.underlying22 Try.underlying5 (by kernel_rfl) hf (fun x hx => lt0 x hx)
    simp [Value.cells] at e2
    obtain ⟨rfl, rfl, rfl⟩ := e2
    exact ⟨zs, r⟩
  obtain ⟨A1, n1, c1, rfl⟩ := okWide_slice Try.underlying22 (hval 1 22 v1 rfl rfl)
  obtain ⟨zs1, r1⟩ : ∃ zs, Row .u8 W A1 n1 c1 zs := by
    obtain ⟨fuel, hf⟩ := h1
    obtain ⟨A', n', c', zs, e2, r⟩ := row_of Try.underlying22 Try.underlying5 (by kernel_rfl) hf (fun x hx => lt1 x hx)
    simp [Value.cells] at e2
    obtain ⟨rfl, rfl, rfl⟩ := e2
    exact ⟨zs, r⟩
  clear hA0 hval0
  refine (walk W A0 n0 c0 zs0 r0 A1 n1 c1 zs1 r1).mono fun e W' ⟨he, bel⟩ => ?_
  subst he
  exact ⟨_, rfl, _, _, _, [], _, [], hW', trodAll_mk1 (shut_bool Try.underlying4 _), (trodAll_cons_mk (Below.trod laidOut (by kernel_rfl) (of_decide_eq_true (by kernel_rfl)) k0 bel lt0) (trodAll_cons_mk (Below.trod laidOut (by kernel_rfl) (of_decide_eq_true (by kernel_rfl)) k1 bel lt1) trodAll_mk0)), rfl, bel.frame _, fun h => by cases h⟩

theorem over : Rows.fnJoinsRow.holds Try.pinned (OpenSpec.ofChange Rows.fnJoinsSpec) :=
  OpenClaim.holds_of_wide 3 Try.f3 rfl rfl rfl rfl rfl rfl rfl ⟨rfl, rfl, rfl, rfl, rfl⟩ rfl rfl rfl rfl rfl (by kernel_rfl) Try.func3 (by kernel_rfl)
    (of_decide_eq_true (by kernel_rfl)) (by unfold Func.isWrapper; first | (rw [if_pos (by decide +kernel)]; kernel_rfl) | (rw [if_neg (by decide +kernel)]; exact ⟨rfl, rfl⟩))
    (fun os started H enc _ => lifted os started H enc)

theorem proved : Rows.FnJoinsSaid := over
#print axioms proved
end Go.Proofs.Ytneknajeecgnoaa.fnJoins
