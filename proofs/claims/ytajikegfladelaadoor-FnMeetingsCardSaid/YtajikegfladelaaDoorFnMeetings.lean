/- Proved: whatever bytes FnMeetings is called with (of at most 3000 each; for longer ones the law answers true at once), it returns true and changes nothing; the table of turns starts as the program's text lays it (the card ties it). -/
import Derived.Test.YtajikegfladelaaDoorCards
import Derived.Test.YtajikegfladelaaDoorTie
import Derived.Test.YtajikegfladelaaDoorBase
import Derived.Test.YtajikegfladelaaDoorPan
import Derived.Test.YtajikegfladelaaDoorShape
import Derived.Test.YtajikegfladelaaDoorWlkC
import Derived.Test.YtajikegfladelaaDoorWlk
import Derived.Test.YtajikegfladelaaDoorSrc
import Derived.Test.YtajikegfladelaaDoorDrw
import Derived.Test.YtajikegfladelaaDoorPnt
import Derived.Test.YtajikegfladelaaDoorTab
import Derived.Test.YtajikegfladelaaDoorThk
import Derived.WalkKit
import Derived.ProofKit
import Derived.OpenShut
import Derived.ShutString
import Derived.OpenVars
import Derived.Handy
import Derived.Carry
import Derived.Deep.DeepHandedRow
import Derived.Lib.LaidTab
import Derived.Lib.SmallJoins
namespace Go.Proofs.YtajikegfladelaaDoor.fnMeetings
open Go.ChangeShapes Go.WideShapes Go.ChangeAt Go.RowKit Go.Joins
open Go.ChangeMaps (open_string shut_string)
open Go.Proofs.YtajikegfladelaaDoor.Base
set_option linter.unusedVariables false
theorem own : ownKnob Tryd.prog.godebug = none := by kernel_rfl
theorem laidOut : laidOutB Tryd.prog = true := by kernel_rfl
theorem gTab : Tryd.prog.globalNamed "loop.example/g00931/impl.turns" = some 0 := by kernel_rfl
theorem gTabType : (Tryd.prog.globals[0]?).map (·.type) = some 153 := by kernel_rfl
theorem cellsI : Tryd.prog.cellsOf 2 = 1 := by kernel_rfl
theorem cellsR : Tryd.prog.cellsOf 152 = 2 := by kernel_rfl
theorem table {W : World} (h : laidMetH Tryd.prog Rows.fnMeetingsRow.laid W) : Cel W 0 [.int .i64 1, .int .i64 1, .int .i64 (-1), .int .i64 1, .int .i64 1, .int .i64 (-1)] := by
  rw [MakeChecks.laidMetH_plain _ _ _ (by kernel_rfl)] at h
  obtain ⟨ps, ⟨g', t', cs, fuel, p, q, hg', ht', hvar, hd, _, _⟩, _⟩ := h
  obtain rfl := Option.some.inj (gTab.symm.trans hg')
  obtain rfl := Option.some.inj (gTabType.symm.trans ht')
  refine cel_of_cells (by simp) (fun i v hv => ?_)
  rw [World.var?_cell hg' hvar i]
  have hc := cells_of_rows (n := 3) (m := 2) (rows := [[1, 1], [-1, 1], [1, -1]]) Tryd.underlying153 Tryd.underlying152 Tryd.underlying2 cellsR cellsI hd
  match i, hv with
  | 0, hv => obtain rfl := Option.some.inj hv; simpa using hc 0 0 (by decide) (by decide) _ _ rfl rfl
  | 1, hv => obtain rfl := Option.some.inj hv; simpa using hc 0 1 (by decide) (by decide) _ _ rfl rfl
  | 2, hv => obtain rfl := Option.some.inj hv; simpa using hc 1 0 (by decide) (by decide) _ _ rfl rfl
  | 3, hv => obtain rfl := Option.some.inj hv; simpa using hc 1 1 (by decide) (by decide) _ _ rfl rfl
  | 4, hv => obtain rfl := Option.some.inj hv; simpa using hc 2 0 (by decide) (by decide) _ _ rfl rfl
  | 5, hv => obtain rfl := Option.some.inj hv; simpa using hc 2 1 (by decide) (by decide) _ _ rfl rfl
  | i + 6, hv => simp at hv
theorem gTab2 : Tryd.prog.globalNamed "loop.example/g00931/impl.directions" = some 2 := by kernel_rfl
theorem gTabType2 : (Tryd.prog.globals[2]?).map (·.type) = some 193 := by kernel_rfl
theorem table2 {W : World} (h : laidMetH Tryd.prog Rows.fnMeetingsRow.laid W) : Cel W 2 [.int .i64 (-1), .int .i64 (-1), .int .i64 1, .int .i64 (-1), .int .i64 (-1), .int .i64 1, .int .i64 1, .int .i64 1] := by
  rw [MakeChecks.laidMetH_plain _ _ _ (by kernel_rfl)] at h
  obtain ⟨ps, ⟨_, _, _, _, _, _, _, _, _, _, ⟨g', t', cs, fuel, p, q, hg', ht', hvar, hd, _, _⟩, _⟩, _⟩ := h
  obtain rfl := Option.some.inj (gTab2.symm.trans hg')
  obtain rfl := Option.some.inj (gTabType2.symm.trans ht')
  refine cel_of_cells (by simp) (fun i v hv => ?_)
  rw [World.var?_cell hg' hvar i]
  have hc := cells_of_rows (n := 4) (m := 2) (rows := [[-1, -1], [1, -1], [-1, 1], [1, 1]]) Tryd.underlying193 Tryd.underlying152 Tryd.underlying2 cellsR cellsI hd
  match i, hv with
  | 0, hv => obtain rfl := Option.some.inj hv; simpa using hc 0 0 (by decide) (by decide) _ _ rfl rfl
  | 1, hv => obtain rfl := Option.some.inj hv; simpa using hc 0 1 (by decide) (by decide) _ _ rfl rfl
  | 2, hv => obtain rfl := Option.some.inj hv; simpa using hc 1 0 (by decide) (by decide) _ _ rfl rfl
  | 3, hv => obtain rfl := Option.some.inj hv; simpa using hc 1 1 (by decide) (by decide) _ _ rfl rfl
  | 4, hv => obtain rfl := Option.some.inj hv; simpa using hc 2 0 (by decide) (by decide) _ _ rfl rfl
  | 5, hv => obtain rfl := Option.some.inj hv; simpa using hc 2 1 (by decide) (by decide) _ _ rfl rfl
  | 6, hv => obtain rfl := Option.some.inj hv; simpa using hc 3 0 (by decide) (by decide) _ _ rfl rfl
  | 7, hv => obtain rfl := Option.some.inj hv; simpa using hc 3 1 (by decide) (by decide) _ _ rfl rfl
  | i + 8, hv => simp at hv
theorem tables {W : World} (h : laidMetH Tryd.prog Rows.fnMeetingsRow.laid W) : Tabs W := Tabs.mk_ (table h) (table2 h)
set_option maxHeartbeats 16000000 in
set_option maxRecDepth 100000 in
theorem walk (w : World) (hT : Tabs w) (A0 : Option Addr) (n0 c0 : Nat) (zs0 : Nat → Int) (r0 : Row .u8 w A0 n0 c0 zs0) (A1 : Option Addr) (n1 c1 : Nat) (zs1 : Nat → Int) (r1 : Row .u8 w A1 n1 c1 zs1) :
    Calls Tryd.prog 9 #[.slice A0 n0 c0, .slice A1 n1 c1] w fun e w' => e = .returned (.bool true) ∧ Below w.heap.size w w' := by
  have hm0 : n0 ≤ maxLen := Nat.le_trans r0.1 r0.2.1
  have hm1 : n1 ≤ maxLen := Nat.le_trans r1.1 r1.2.1
  have HR0 := Lib.hid r0
  have HR1 := Lib.hid r1
  have HT0 := Lib.hid hT
  clear r0 r1 hT
  cases hl : longB n0 n1
  · have hl2 : n0 ≤ 3000 ∧ n1 ≤ 3000 := by have := of_decide_eq_false hl; omega
    obtain ⟨hl0, hl1⟩ := hl2
    go_enter Tryd.func9, Tryd.ntmps9
    go_wp2_with fail
    refine (a2Long_any _ A0 A1 n0 c0 n1 c1 hm0 hm1).mono ?_
    rintro e w' ⟨rfl, rfl⟩
    go_wp2_with fail
    refine (a2Panel_any _ A0 n0 c0 zs0 HR0.out (by omega)).mono ?_
    rintro e w1 ⟨W, H, A, n, c, g, rfl, hW, hH, hW5, hH5, hni, hK, O1, b1⟩
    have hv := valid_mk hW hH hni hK
    have hi := inner_bd hW hH
    have hn112 : n ≤ 112 := by omega
    have hcn := cnN_le hv
    have HV := Lib.hid hv
    have hnc := O1.1
    have hcm := O1.2.1
    unfold maxLen at hcm
    have bN := (Below.refl w1.heap.size w1).alloc (Nat.le_refl _) (.cells #[.int .i64 W, .int .i64 H, .slice A n c] 35)
    have HP2 := Lib.hid (Cel.new w1 [.int .i64 W, .int .i64 H, .slice A n c] 35)
    have HO2 := Lib.hid (O1.row.below bN (Nat.le_refl _))
    have HT2 := Lib.hid ((HT0.out.below b1 HT0.out.1).below bN (HT0.out.below b1 HT0.out.1).1)
    have HB2 := Lib.hid (b1.trans (bN.mono b1.size))
    clear hv hi hni hW hH hW5 hH5 hK O1 b1 bN
    go_wp2_with fail
    generalize w1.alloc (.cells #[.int .i64 W, .int .i64 H, .slice A n c] 35) = w2 at *
    generalize w1.heap.size = bp at *
    refine (curves_k _ HO2.out HV.out).mono ?_
    rintro e w3 ⟨rfl, b3⟩
    have HP3 := Lib.hid (HP2.out.below b3 HP2.out.1)
    have HO3 := Lib.hid (HO2.out.below b3 (Nat.le_refl _))
    have HT3 := Lib.hid (HT2.out.below b3 HT2.out.1)
    have HB3 := Lib.hid (HB2.out.trans (b3.mono HB2.out.size))
    have z3 := b3.size
    clear HP2 HO2 HT2 HB2
    clear b3
    obtain ⟨N, hN⟩ : ∃ N, cnN W H g = N := ⟨_, rfl⟩
    rw [hN] at hcn ⊢
    have HN := Lib.hid hN
    clear hN
    have kP_z := HP3.out.1
    have kP_0 := HP3.out.2 0 _ rfl
    have kP_1 := HP3.out.2 1 _ rfl
    have kP_2 := HP3.out.2 2 _ rfl
    go_wp2_with fail
    clear kP_z kP_0 kP_1 kP_2
    refine (breaks_k _ HO3.out HV.out).mono ?_
    rintro e w4 ⟨rfl, b4⟩
    have HP4 := Lib.hid (HP3.out.below b4 HP3.out.1)
    have HO4 := Lib.hid (HO3.out.below b4 (Nat.le_refl _))
    have HT4 := Lib.hid (HT3.out.below b4 HT3.out.1)
    have HB4 := Lib.hid (HB3.out.trans (b4.mono HB3.out.size))
    have z4 := b4.size
    clear HP3 HO3 HT3 HB3
    clear b4
    obtain ⟨B, hB⟩ : ∃ B, cntK 0 g n = B := ⟨_, rfl⟩
    rw [hB]
    have HBr := Lib.hid hB
    have hbb := cntK_bd 0 g n
    rw [hB] at hbb
    obtain ⟨hb0, hb1⟩ := hbb
    clear hB
    have kP_z := HP4.out.1
    have kP_0 := HP4.out.2 0 _ rfl
    have kP_1 := HP4.out.2 1 _ rfl
    have kP_2 := HP4.out.2 2 _ rfl
    go_wp2
    clear kP_z kP_0 kP_1 kP_2
    go_loopw [10, 11] (fun tv av wr => ∃ (a : Nat) (t : Int), a ≤ N ∧ av = .int .i64 a ∧ tv = .int .i64 t ∧ Hid (t = (smB (rowS (crN W H g n)) a : Nat)) ∧ Hid (Below w4.heap.size w4 wr)) (fun _ av _ => 300 - (intOf av).toNat)
    case atStart => exact ⟨0, 0, Nat.zero_le _, rfl, rfl, Lib.hid rfl, Lib.hid (Below.refl _ _)⟩
    case round =>
      obtain ⟨a, t, ha, rfl, rfl, HTt, HJ⟩ := hrel
      have HP5 := Lib.hid (HP4.out.below HJ.out HP4.out.1)
      have HO5 := Lib.hid (HO4.out.below HJ.out (Nat.le_refl _))
      have HT5 := Lib.hid (HT4.out.below HJ.out HT4.out.1)
      have HB5 := Lib.hid (HB4.out.trans (HJ.out.mono HB4.out.size))
      have z5 := HJ.out.size
      by_cases hlt : a < N
      · have HLT := Lib.hid (show a < cnN W H g by rw [HN.out]; exact hlt)
        obtain ⟨q, hq⟩ : ∃ q, crN W H g n a a = q := ⟨_, rfl⟩
        have hp := crN_part HV.out HLT.out (Nat.zero_le a)
        rw [hq] at hp
        have ht := HTt.out
        have t0 : 0 ≤ t := by omega
        have t1 : t + q ≤ 112 := by omega
        have HQ := Lib.hid hq
        clear hp ht hq
        have kP_z := HP5.out.1
        have kP_0 := HP5.out.2 0 _ rfl
        have kP_1 := HP5.out.2 1 _ rfl
        have kP_2 := HP5.out.2 2 _ rfl
        go_wp2_with fail
        clear kP_z kP_0 kP_1 kP_2
        refine (self_k _ a HO5.out HT5.out HV.out HLT.out).mono ?_
        rintro e w6 ⟨rfl, b6⟩
        rw [HQ.out]
        have HP6 := Lib.hid (HP5.out.below b6 HP5.out.1)
        have HO6 := Lib.hid (HO5.out.below b6 (Nat.le_refl _))
        have HT6 := Lib.hid (HT5.out.below b6 HT5.out.1)
        have HB6 := Lib.hid (HB5.out.trans (b6.mono HB5.out.size))
        have z6 := b6.size
        have HJ6 := Lib.hid (HJ.out.trans (b6.mono HJ.out.size))
        clear HP5 HO5 HT5 HB5
        clear b6 HJ
        have qn : decide ((q : Int) < 0) = false := by simp
        go_wp2
        clear qn
        go_loopw [10, 14] (fun tv bv wx => ∃ (b : Nat) (u : Int), b ≤ a ∧ bv = .int .i64 b ∧ tv = .int .i64 u ∧ Hid (u = t + q + (smB (crN W H g n a) b : Nat)) ∧ Hid (Below w6.heap.size w6 wx)) (fun _ bv _ => 300 - (intOf bv).toNat)
        case atStart => exact ⟨0, _, Nat.zero_le _, rfl, rfl, Lib.hid (by show _ = t + q + (0 : Int); omega), Lib.hid (Below.refl _ _)⟩
        case round =>
          obtain ⟨b, u, hb, rfl, rfl, HU, HJ2⟩ := hrel
          have HP7 := Lib.hid (HP6.out.below HJ2.out HP6.out.1)
          have HO7 := Lib.hid (HO6.out.below HJ2.out (Nat.le_refl _))
          have HT7 := Lib.hid (HT6.out.below HJ2.out HT6.out.1)
          have HB7 := Lib.hid (HB6.out.trans (HJ2.out.mono HB6.out.size))
          have z7 := HJ2.out.size
          by_cases hlt2 : b < a
          · obtain ⟨r, hr⟩ : ∃ r, crN W H g n a b = r := ⟨_, rfl⟩
            have hev := crN_even (a := a) (b := b) HV.out (by omega)
            have hp := crN_part (b := b + 1) HV.out HLT.out (by omega)
            rw [smB_succ, hr, HQ.out] at hp
            rw [hr] at hev
            have hu := HU.out
            have ht := HTt.out
            have u0 : 0 ≤ u := by omega
            have u1 : u + r ≤ 112 := by omega
            have HU2 := Lib.hid (show u + r = t + q + (smB (crN W H g n a) (b + 1) : Nat) by rw [smB_succ, hr]; omega)
            have HRr := Lib.hid hr
            have HEV := Lib.hid hev
            clear hp hu ht hr hev
            have kP_z := HP7.out.1
            have kP_0 := HP7.out.2 0 _ rfl
            have kP_1 := HP7.out.2 1 _ rfl
            have kP_2 := HP7.out.2 2 _ rfl
            go_wp2_with fail
            clear kP_z kP_0 kP_1 kP_2
            refine (common_k _ a b HO7.out HT7.out HV.out HLT.out hlt2).mono ?_
            rintro e w8 ⟨rfl, b8⟩
            rw [HRr.out]
            have rn : decide ((r : Int) < 0) = false := by simp
            have hev := HEV.out
            have rm : (r : Int).tmod 2 = 0 := by rw [show (r : Int).tmod 2 = ((r % 2 : Nat) : Int) from rfl, hev]; rfl
            have rm2 : (r : Int) % 2 = 0 := by omega
            clear hev
            go_wp2
            clear rn rm rm2
            go_roundw
            case rel => exact ⟨b + 1, _, by omega, by go_num, rfl, HU2, Lib.hid (HJ2.out.trans (b8.mono HJ2.out.size))⟩
            case measure => simp [intOf]; omega
          · obtain rfl : b = a := by omega
            go_wp2
            go_roundw
            case rel =>
              refine ⟨b + 1, _, by omega, by go_num, rfl, Lib.hid ?_, Lib.hid (HJ6.out.trans (HJ2.out.mono HJ6.out.size))⟩
              have hu := HU.out
              have ht := HTt.out
              have hq := HQ.out
              rw [smB_succ]
              show _ = ((_ + (crN W H g n b b + smB (crN W H g n b) b) : Nat) : Int)
              omega
            case measure => simp [intOf]; omega
      · obtain rfl : a = N := by omega
        have hs := crN_sum HV.out
        rw [HN.out, HBr.out] at hs
        obtain rfl : t = B := HTt.out.trans hs
        clear hs HTt HJ
        clear HP4 HO4 HT4 HB4
        have hbe : (t != t) = false := by simp
        by_cases hn0 : n = 0
        · subst hn0
          have kP_z := HP5.out.1
          have kP_0 := HP5.out.2 0 _ rfl
          have kP_1 := HP5.out.2 1 _ rfl
          have kP_2 := HP5.out.2 2 _ rfl
          go_wp2
          go_ret
          exact ⟨rfl, HB5.out⟩
        · have hne : ((n : Int) == 0) = false := by simp; omega
          have hn1 : 1 ≤ n := by omega
          clear hn0
          have kP_z := HP5.out.1
          have kP_0 := HP5.out.2 0 _ rfl
          have kP_1 := HP5.out.2 1 _ rfl
          have kP_2 := HP5.out.2 2 _ rfl
          go_wp2_with fail
          obtain ⟨kv, hkv⟩ : ∃ kv, a2V n1 zs1 0 n = kv := ⟨_, rfl⟩
          have hkb := a2V_bd (n := n1) (f := zs1) (at' := 0) (m := n) (by omega)
          rw [hkv] at hkb
          obtain ⟨k0, k1⟩ := hkb
          have HK := Lib.hid hkv
          clear hkv
          have HRA := Lib.hid (HR1.out.below HB5.out (Nat.le_refl _))
          refine wp_region_stab [some 94, some 95, some 96, some 97, some 98, some 99, some 100, some 93, some 101, some 102, some 17, none, some 18] [94, 95, 96, 97, 98, 99, 100, 93, 101, 102, 17, 18] [] [(11, 10)]
            [(fun a lo hi v w' => v = .agg #[.int .i64 W, .int .i64 H, .slice A n c]),
              (fun a lo hi v w' => v = .slice A1 n1 c1),
              (fun a lo hi v w' => v = .pointer (some ⟨bp, 2, none⟩)),
              (fun a lo hi v w' => v = .slice A n c),
              (fun a lo hi v w' => v = .int .i64 n),
              (fun a lo hi v w' => v = .int .i64 kv),
              (fun a lo hi v w' => v = .tuple #[.agg #[.int .i64 (ptX W kv), .int .i64 (ptY W kv)], .int .i64 0]),
              (fun a lo hi v w' => v = .tuple #[.agg #[.int .i64 (ptX W kv), .int .i64 (ptY W kv)], .int .i64 0]),
              (fun a lo hi v w' => v = .agg #[.int .i64 (ptX W kv), .int .i64 (ptY W kv)]),
              (fun a lo hi v w' => v = .int .i64 0),
              (fun a lo hi v w' => v = .pointer (some ⟨lo, 0, none⟩) ∧ hi = lo + 1 ∧ At w' lo #[.int .i64 0, .int .i64 0] 30),
              (fun a lo hi v w' => a.getD 0 undef = .pointer (some ⟨lo, 0, none⟩) ∧ lo < hi ∧ At w' lo #[.int .i64 (ptX W kv), .int .i64 (ptY W kv)] 30),
              (fun a lo hi v w' => v = .int .i64 0)]
            [[], [], [], [2], [3], [1, 4], [0, 5], [6], [7], [7], [], [10, 8], [9]] [[], [], [], [], [], [], [], [], [], [], [], [17], []] (by kernel_rfl) (by kernel_rfl) (fun k hk => absurd hk List.not_mem_nil) ?gS ?gO ?gR
          case gS => exact ⟨fun _ _ _ _ _ _ h _ => h, fun _ _ _ _ _ _ h _ => h, fun _ _ _ _ _ _ h _ => h, fun _ _ _ _ _ _ h _ => h, fun _ _ _ _ _ _ h _ => h, fun _ _ _ _ _ _ h _ => h, fun _ _ _ _ _ _ h _ => h, fun _ _ _ _ _ _ h _ => h, fun _ _ _ _ _ _ h _ => h, fun _ _ _ _ _ _ h _ => h, fun _ _ _ _ _ _ ⟨h1, h2, h3⟩ e => ⟨h1, h2, h3.same e (.inr ⟨Nat.le_refl _, by omega⟩)⟩, fun _ _ _ _ _ _ ⟨h1, h2, h3⟩ e => ⟨h1, h2, h3.same e (.inr ⟨Nat.le_refl _, h2⟩)⟩, fun _ _ _ _ _ _ h _ => h, trivial⟩
          case gO =>
            refine ⟨?o0, ?o1, ?o2, ?o3, ?o4, ?o5, ?o6, ?o7, ?o8, ?o9, ?o10, ?o11, ?o12, trivial⟩
            case o0 =>
              intro vs iv wk hx hf
              have ezz : bp < wk.heap.size := Nat.lt_of_lt_of_le kP_z hx.size
              have e0 : wk.cell? ⟨bp, 0, none⟩ = some (.int .i64 W) := hx.cell kP_0 (by simp)
              have e1 : wk.cell? ⟨bp, 1, none⟩ = some (.int .i64 H) := hx.cell kP_1 (by simp)
              have e2 : wk.cell? ⟨bp, 2, none⟩ = some (.slice A n c) := hx.cell kP_2 (by simp)
              intro K' hK
              simp only [setA, setT, List.setIfInBounds_toArray, List.set_cons_zero, List.set_cons_succ]
              go_simp
              refine hK.out _ (.agg #[.int .i64 W, .int .i64 H, .slice A n c]) _ ?_ ?_
              · simp only [setA, setT, List.setIfInBounds_toArray, List.set_cons_zero, List.set_cons_succ, Act.put]
              · exact ⟨Ext.refl _ _, rfl⟩
            case o1 =>
              intro vs iv wk hx hf
              intro K' hK
              simp only [setA, setT, List.setIfInBounds_toArray, List.set_cons_zero, List.set_cons_succ]
              go_simp
              refine hK.out _ (.slice A1 n1 c1) _ ?_ ?_
              · simp only [setA, setT, List.setIfInBounds_toArray, List.set_cons_zero, List.set_cons_succ, Act.put]
              · exact ⟨Ext.refl _ _, rfl⟩
            case o2 =>
              intro vs iv wk hx hf
              intro K' hK
              simp only [setA, setT, List.setIfInBounds_toArray, List.set_cons_zero, List.set_cons_succ]
              go_simp
              refine hK.out _ (.pointer (some ⟨bp, 2, none⟩)) _ ?_ ?_
              · simp only [setA, setT, List.setIfInBounds_toArray, List.set_cons_zero, List.set_cons_succ, Act.put]
              · exact ⟨Ext.refl _ _, rfl⟩
            case o3 =>
              intro vs iv wk hx hf
              obtain ⟨⟨hq2, -⟩, -⟩ := hf
              have hq2 : vs 96 = .pointer (some ⟨bp, 2, none⟩) := hq2
              have ezz : bp < wk.heap.size := Nat.lt_of_lt_of_le kP_z hx.size
              have e2 : wk.cell? ⟨bp, 2, none⟩ = some (.slice A n c) := hx.cell kP_2 (by simp)
              intro K' hK
              simp only [setA, setT, List.setIfInBounds_toArray, List.set_cons_zero, List.set_cons_succ]
              go_simp
              refine hK.out _ (.slice A n c) _ ?_ ?_
              · simp only [setA, setT, List.setIfInBounds_toArray, List.set_cons_zero, List.set_cons_succ, Act.put, hq2]
              · exact ⟨Ext.refl _ _, rfl⟩
            case o4 =>
              intro vs iv wk hx hf
              obtain ⟨⟨hq3, -⟩, -⟩ := hf
              have hq3 : vs 97 = .slice A n c := hq3
              intro K' hK
              simp only [setA, setT, List.setIfInBounds_toArray, List.set_cons_zero, List.set_cons_succ]
              go_simp
              refine hK.out _ (.int .i64 (n : Int)) _ ?_ ?_
              · simp only [setA, setT, List.setIfInBounds_toArray, List.set_cons_zero, List.set_cons_succ, Act.put, hq3]
              · exact ⟨Ext.refl _ _, rfl⟩
            case o5 =>
              intro vs iv wk hx hf
              obtain ⟨⟨hq1, -⟩, ⟨hq4, -⟩, -⟩ := hf
              have hq1 : vs 95 = .slice A1 n1 c1 := hq1
              have hq4 : vs 98 = .int .i64 n := hq4
              intro K' hK
              simp only [setA, setT, List.setIfInBounds_toArray, List.set_cons_zero, List.set_cons_succ]
              go_simp
              refine (HK.out ▸ a2At_is _ A1 n1 c1 zs1 0 n ?_ (by omega) (by omega) (by omega) hl1).mono ?_
              · exact HRA.out.ext0 ((Ext.drew _).trans hx)
              rintro e w2 ⟨rfl, b2⟩
              dsimp only
              refine hK.out _ (.int .i64 kv) _ ?_ ?_
              · simp only [setA, setT, List.setIfInBounds_toArray, List.set_cons_zero, List.set_cons_succ, Act.put, hq1, hq4]
              · exact ⟨Ext.of_below b2, rfl⟩
            case o6 =>
              intro vs iv wk hx hf
              obtain ⟨⟨hq0, -⟩, ⟨hq5, -⟩, -⟩ := hf
              have hq0 : vs 94 = .agg #[.int .i64 W, .int .i64 H, .slice A n c] := hq0
              have hq5 : vs 99 = .int .i64 kv := hq5
              intro K' hK
              simp only [setA, setT, List.setIfInBounds_toArray, List.set_cons_zero, List.set_cons_succ]
              go_simp
              refine (specPointAt_k _ kv ?_ HV.out k0 k1).mono ?_
              · exact HO5.out.ext0 ((Ext.drew _).trans hx)
              rintro e w2 ⟨rfl, b2⟩
              dsimp only
              refine hK.out _ (.tuple #[.agg #[.int .i64 (ptX W kv), .int .i64 (ptY W kv)], .int .i64 0]) _ ?_ ?_
              · simp only [setA, setT, List.setIfInBounds_toArray, List.set_cons_zero, List.set_cons_succ, Act.put, hq0, hq5]
              · exact ⟨Ext.of_below b2, rfl⟩
            case o7 =>
              intro vs iv wk hx hf
              obtain ⟨⟨hq6, -⟩, -⟩ := hf
              have hq6 : vs 100 = .tuple #[.agg #[.int .i64 (ptX W kv), .int .i64 (ptY W kv)], .int .i64 0] := hq6
              intro K' hK
              simp only [setA, setT, List.setIfInBounds_toArray, List.set_cons_zero, List.set_cons_succ]
              go_simp
              refine hK.out _ (.tuple #[.agg #[.int .i64 (ptX W kv), .int .i64 (ptY W kv)], .int .i64 0]) _ ?_ ?_
              · simp only [setA, setT, List.setIfInBounds_toArray, List.set_cons_zero, List.set_cons_succ, Act.put, hq6]
              · exact ⟨Ext.refl _ _, rfl⟩
            case o8 =>
              intro vs iv wk hx hf
              obtain ⟨⟨hq7, -⟩, -⟩ := hf
              have hq7 : vs 93 = .tuple #[.agg #[.int .i64 (ptX W kv), .int .i64 (ptY W kv)], .int .i64 0] := hq7
              intro K' hK
              simp only [setA, setT, List.setIfInBounds_toArray, List.set_cons_zero, List.set_cons_succ]
              go_simp
              refine hK.out _ (.agg #[.int .i64 (ptX W kv), .int .i64 (ptY W kv)]) _ ?_ ?_
              · simp only [setA, setT, List.setIfInBounds_toArray, List.set_cons_zero, List.set_cons_succ, Act.put, hq7]
              · exact ⟨Ext.refl _ _, rfl⟩
            case o9 =>
              intro vs iv wk hx hf
              obtain ⟨⟨hq7, -⟩, -⟩ := hf
              have hq7 : vs 93 = .tuple #[.agg #[.int .i64 (ptX W kv), .int .i64 (ptY W kv)], .int .i64 0] := hq7
              intro K' hK
              simp only [setA, setT, List.setIfInBounds_toArray, List.set_cons_zero, List.set_cons_succ]
              go_simp
              refine hK.out _ (.int .i64 0) _ ?_ ?_
              · simp only [setA, setT, List.setIfInBounds_toArray, List.set_cons_zero, List.set_cons_succ, Act.put, hq7]
              · exact ⟨Ext.refl _ _, rfl⟩
            case o10 =>
              intro vs iv wk hx hf
              intro K' hK
              simp only [setA, setT, List.setIfInBounds_toArray, List.set_cons_zero, List.set_cons_succ]
              go_simp
              refine hK.out _ (.pointer (some ⟨wk.heap.size, 0, none⟩)) _ ?_ ?_
              · simp only [setA, setT, List.setIfInBounds_toArray, List.set_cons_zero, List.set_cons_succ, Act.put]
              · exact ⟨Ext.alloc _ _, rfl, by simp, At.new _ _ _⟩
            case o11 =>
              intro vs iv wk hx hf
              obtain ⟨⟨⟨h9, hhi, hA9⟩, -⟩, ⟨hq8, -⟩, -⟩ := hf
              have h9 : vs 17 = .pointer (some ⟨(iv 10).1, 0, none⟩) := h9
              have hq8 : vs 101 = .agg #[.int .i64 (ptX W kv), .int .i64 (ptY W kv)] := hq8
              have hA9 : At wk (iv 10).1 #[.int .i64 0, .int .i64 0] 30 := hA9
              have hhi : (iv 10).2 = (iv 10).1 + 1 := hhi
              have q0 := hA9.cell 0
              have f0 := hA9.frozen 0
              have q1 := hA9.cell 1
              have f1 := hA9.frozen 1
              simp only [List.getElem?_toArray, List.getElem?_cons_zero, List.getElem?_cons_succ] at q0 q1
              have hlt9 : (iv 10).1 < (iv 10).2 := by omega
              have HA9 := Lib.hid hA9
              clear hA9 hhi
              have HLT := Lib.hid hlt9
              clear hlt9
              intro K' hK
              simp only [setA, setT, List.setIfInBounds_toArray, List.set_cons_zero, List.set_cons_succ]
              go_simp
              refine hK.out _ (undef) _ ?_ ?_
              · simp only [setA, setT, List.setIfInBounds_toArray, List.set_cons_zero, List.set_cons_succ, Act.put, h9, hq8]
              · exact ⟨HLT.out, ((Ext.set _ _ _ (by simp)).trans (Ext.set _ _ _ (by simp))), h9, HLT.out, ((HA9.out.set 0 _).set 1 _)⟩
            case o12 =>
              intro vs iv wk hx hf
              obtain ⟨⟨hq9, -⟩, -⟩ := hf
              have hq9 : vs 102 = .int .i64 0 := hq9
              intro K' hK
              simp only [setA, setT, List.setIfInBounds_toArray, List.set_cons_zero, List.set_cons_succ]
              go_simp
              refine hK.out _ (.int .i64 0) _ ?_ ?_
              · simp only [setA, setT, List.setIfInBounds_toArray, List.set_cons_zero, List.set_cons_succ, Act.put, hq9]
              · exact ⟨Ext.refl _ _, rfl⟩
          case gR =>
            intro vs iv w2x hx hap hf
            obtain ⟨-, -, -, -, -, -, -, -, -, -, -, ⟨⟨hs11, hl11, hB11⟩, hi11⟩, ⟨hv12, -⟩, -⟩ := hf
            have hv12 : vs 18 = .int .i64 0 := hv12
            have hs11 : vs 17 = .pointer (some ⟨(iv 10).1, 0, none⟩) := hs11
            have hB11 : At w2x (iv 10).1 #[.int .i64 (ptX W kv), .int .i64 (ptY W kv)] 30 := hB11
            have HQ6 := Lib.hid (Cel.of_at (cs := [.int .i64 (ptX W kv), .int .i64 (ptY W kv)]) hB11)
            clear hB11 hl11 hi11
            simp only [setA, setT, List.setIfInBounds_toArray, List.set_cons_zero, List.set_cons_succ, hv12, hs11]
            have bXX := ((Ext.drew _).trans hx).nil
            clear hx hap hv12 hs11
            generalize (iv 10).1 = bq at *
            obtain ⟨w6, rfl⟩ : ∃ w6 : World, w6 = w2x := ⟨_, rfl⟩
            clear kP_z kP_0 kP_1 kP_2
            have HP6 := Lib.hid (HP5.out.below bXX HP5.out.1)
            have HO6 := Lib.hid (HO5.out.below bXX (Nat.le_refl _))
            have HT6 := Lib.hid (HT5.out.below bXX HT5.out.1)
            have HB6 := Lib.hid (HB5.out.trans (bXX.mono HB5.out.size))
            have z6 := bXX.size
            clear HP5 HO5 HT5 HB5
            clear bXX HRA hbe
            obtain ⟨la, la0, la1, hcase⟩ := thL_is HV.out k0 k1
            rcases hcase with ⟨hl', hz⟩ | ⟨lb, hlb, lb1, hl', hz⟩
            · have HL := Lib.hid hl'
              have HZ := Lib.hid hz
              clear hl' hz
              have kP_z := HP6.out.1
              have kP_0 := HP6.out.2 0 _ rfl
              have kP_1 := HP6.out.2 1 _ rfl
              have kP_2 := HP6.out.2 2 _ rfl
              have kQ_z := HQ6.out.1
              have kQ_0 := HQ6.out.2 0 _ rfl
              have kQ_1 := HQ6.out.2 1 _ rfl
              go_wp2_with fail
              clear kP_z kP_0 kP_1 kP_2 kQ_z kQ_0 kQ_1
              refine (through_k _ kv HO6.out HT6.out HV.out k0 k1 HL.out).mono ?_
              rintro e w7 ⟨A5, c5, rfl, hO, b7⟩
              have HP7 := Lib.hid (HP6.out.below b7 HP6.out.1)
              have HO7 := Lib.hid (HO6.out.below b7 (Nat.le_refl _))
              have HT7 := Lib.hid (HT6.out.below b7 HT6.out.1)
              have HQ7 := Lib.hid (HQ6.out.below b7 HQ6.out.1)
              have HB7 := Lib.hid (HB6.out.trans (b7.mono HB6.out.size))
              have z7 := b7.size
              clear HP6 HO6 HT6 HB6 HQ6
              clear b7
              obtain ⟨b5, o5, rfl, -, lb5, hc5⟩ := hO.2.2.2 (by simp)
              have hnc5 : 1 ≤ c5 := hO.1
              have hcm5 := hO.2.1
              unfold maxLen at hcm5
              have hj0 : w7.cell? ⟨b5, o5, none⟩ = some (.int .i64 la) := (hc5 0 (by simp)).1
              have HC5 := Lib.hid (And.intro lb5 (hj0))
              clear hO hc5 lb5 hj0
              have kP_z := HP7.out.1
              have kP_0 := HP7.out.2 0 _ rfl
              have kP_1 := HP7.out.2 1 _ rfl
              have kP_2 := HP7.out.2 2 _ rfl
              have kQ_z := HQ7.out.1
              have kQ_0 := HQ7.out.2 0 _ rfl
              have kQ_1 := HQ7.out.2 1 _ rfl
              go_wp2_with fail
              clear kP_z kP_0 kP_1 kP_2 kQ_z kQ_0 kQ_1
              refine (segOf_k _ kv HO7.out HV.out k0 k1).mono ?_
              rintro e w8 ⟨rfl, b8⟩
              have HP8 := Lib.hid (HP7.out.below b8 HP7.out.1)
              have HO8 := Lib.hid (HO7.out.below b8 (Nat.le_refl _))
              have HT8 := Lib.hid (HT7.out.below b8 HT7.out.1)
              have HQ8 := Lib.hid (HQ7.out.below b8 HQ7.out.1)
              have HB8 := Lib.hid (HB7.out.trans (b8.mono HB7.out.size))
              have z8 := b8.size
              have lb5 : b5 < w8.heap.size := Nat.lt_of_lt_of_le HC5.out.1 b8.size
              have hj0 := ((bcell b8).1 b5 (o5) HC5.out.1).trans HC5.out.2
              have HC8 := Lib.hid (And.intro lb5 (hj0))
              clear HC5 b8 lb5 hj0
              clear HP7 HO7 HT7 HB7 HQ7
              have kP_z := HP8.out.1
              have kP_0 := HP8.out.2 0 _ rfl
              have kP_1 := HP8.out.2 1 _ rfl
              have kP_2 := HP8.out.2 2 _ rfl
              go_wp2_with fail
              clear kP_z kP_0 kP_1 kP_2
              refine (curveAt_k _ kv HO8.out HT8.out HV.out k0 k1).mono ?_
              rintro e w9 ⟨rfl, b9⟩
              have HB9 := Lib.hid (HB8.out.trans (b9.mono HB8.out.size))
              have hj0 := ((bcell b9).1 b5 (o5) HC8.out.1).trans HC8.out.2
              clear HC8 b9
              clear HP8 HO8 HT8 HB8 HQ8
              rw [HZ.out]
              have e1 : (la == la) = true := by simp
              go_wp2
              go_quiet (fail)
              go_wp2
              go_ret
              exact ⟨rfl, below_drewN HB9.out _⟩
            · rcases hz with hz | hz
              · have HL := Lib.hid hl'
                have HZ := Lib.hid hz
                clear hl' hz
                have kP_z := HP6.out.1
                have kP_0 := HP6.out.2 0 _ rfl
                have kP_1 := HP6.out.2 1 _ rfl
                have kP_2 := HP6.out.2 2 _ rfl
                have kQ_z := HQ6.out.1
                have kQ_0 := HQ6.out.2 0 _ rfl
                have kQ_1 := HQ6.out.2 1 _ rfl
                go_wp2_with fail
                clear kP_z kP_0 kP_1 kP_2 kQ_z kQ_0 kQ_1
                refine (through_k _ kv HO6.out HT6.out HV.out k0 k1 HL.out).mono ?_
                rintro e w7 ⟨A5, c5, rfl, hO, b7⟩
                have HP7 := Lib.hid (HP6.out.below b7 HP6.out.1)
                have HO7 := Lib.hid (HO6.out.below b7 (Nat.le_refl _))
                have HT7 := Lib.hid (HT6.out.below b7 HT6.out.1)
                have HQ7 := Lib.hid (HQ6.out.below b7 HQ6.out.1)
                have HB7 := Lib.hid (HB6.out.trans (b7.mono HB6.out.size))
                have z7 := b7.size
                clear HP6 HO6 HT6 HB6 HQ6
                clear b7
                obtain ⟨b5, o5, rfl, -, lb5, hc5⟩ := hO.2.2.2 (by simp)
                have hnc5 : 2 ≤ c5 := hO.1
                have hcm5 := hO.2.1
                unfold maxLen at hcm5
                have hj0 : w7.cell? ⟨b5, o5, none⟩ = some (.int .i64 la) := (hc5 0 (by simp)).1
                have hj1 : w7.cell? ⟨b5, o5 + 1, none⟩ = some (.int .i64 lb) := (hc5 1 (by simp)).1
                have HC5 := Lib.hid (And.intro lb5 (And.intro hj0 hj1))
                clear hO hc5 lb5 hj0 hj1
                have kP_z := HP7.out.1
                have kP_0 := HP7.out.2 0 _ rfl
                have kP_1 := HP7.out.2 1 _ rfl
                have kP_2 := HP7.out.2 2 _ rfl
                have kQ_z := HQ7.out.1
                have kQ_0 := HQ7.out.2 0 _ rfl
                have kQ_1 := HQ7.out.2 1 _ rfl
                go_wp2_with fail
                clear kP_z kP_0 kP_1 kP_2 kQ_z kQ_0 kQ_1
                refine (segOf_k _ kv HO7.out HV.out k0 k1).mono ?_
                rintro e w8 ⟨rfl, b8⟩
                have HP8 := Lib.hid (HP7.out.below b8 HP7.out.1)
                have HO8 := Lib.hid (HO7.out.below b8 (Nat.le_refl _))
                have HT8 := Lib.hid (HT7.out.below b8 HT7.out.1)
                have HQ8 := Lib.hid (HQ7.out.below b8 HQ7.out.1)
                have HB8 := Lib.hid (HB7.out.trans (b8.mono HB7.out.size))
                have z8 := b8.size
                have lb5 : b5 < w8.heap.size := Nat.lt_of_lt_of_le HC5.out.1 b8.size
                have hj0 := ((bcell b8).1 b5 (o5) HC5.out.1).trans HC5.out.2.1
                have hj1 := ((bcell b8).1 b5 (o5 + 1) HC5.out.1).trans HC5.out.2.2
                have HC8 := Lib.hid (And.intro lb5 (And.intro hj0 hj1))
                clear HC5 b8 lb5 hj0 hj1
                clear HP7 HO7 HT7 HB7 HQ7
                have kP_z := HP8.out.1
                have kP_0 := HP8.out.2 0 _ rfl
                have kP_1 := HP8.out.2 1 _ rfl
                have kP_2 := HP8.out.2 2 _ rfl
                go_wp2_with fail
                clear kP_z kP_0 kP_1 kP_2
                refine (curveAt_k _ kv HO8.out HT8.out HV.out k0 k1).mono ?_
                rintro e w9 ⟨rfl, b9⟩
                have HB9 := Lib.hid (HB8.out.trans (b9.mono HB8.out.size))
                have hj0 := ((bcell b9).1 b5 (o5) HC8.out.1).trans HC8.out.2.1
                have hj1 := ((bcell b9).1 b5 (o5 + 1) HC8.out.1).trans HC8.out.2.2
                clear HC8 b9
                clear HP8 HO8 HT8 HB8 HQ8
                rw [HZ.out]
                have e1 : (la == la) = true := by simp
                have e2 : decide (la < lb) = true := decide_eq_true hlb
                go_wp2
                go_quiet (fail)
                go_wp2
                go_ret
                exact ⟨rfl, below_drewN HB9.out _⟩
              · have HL := Lib.hid hl'
                have HZ := Lib.hid hz
                clear hl' hz
                have kP_z := HP6.out.1
                have kP_0 := HP6.out.2 0 _ rfl
                have kP_1 := HP6.out.2 1 _ rfl
                have kP_2 := HP6.out.2 2 _ rfl
                have kQ_z := HQ6.out.1
                have kQ_0 := HQ6.out.2 0 _ rfl
                have kQ_1 := HQ6.out.2 1 _ rfl
                go_wp2_with fail
                clear kP_z kP_0 kP_1 kP_2 kQ_z kQ_0 kQ_1
                refine (through_k _ kv HO6.out HT6.out HV.out k0 k1 HL.out).mono ?_
                rintro e w7 ⟨A5, c5, rfl, hO, b7⟩
                have HP7 := Lib.hid (HP6.out.below b7 HP6.out.1)
                have HO7 := Lib.hid (HO6.out.below b7 (Nat.le_refl _))
                have HT7 := Lib.hid (HT6.out.below b7 HT6.out.1)
                have HQ7 := Lib.hid (HQ6.out.below b7 HQ6.out.1)
                have HB7 := Lib.hid (HB6.out.trans (b7.mono HB6.out.size))
                have z7 := b7.size
                clear HP6 HO6 HT6 HB6 HQ6
                clear b7
                obtain ⟨b5, o5, rfl, -, lb5, hc5⟩ := hO.2.2.2 (by simp)
                have hnc5 : 2 ≤ c5 := hO.1
                have hcm5 := hO.2.1
                unfold maxLen at hcm5
                have hj0 : w7.cell? ⟨b5, o5, none⟩ = some (.int .i64 la) := (hc5 0 (by simp)).1
                have hj1 : w7.cell? ⟨b5, o5 + 1, none⟩ = some (.int .i64 lb) := (hc5 1 (by simp)).1
                have HC5 := Lib.hid (And.intro lb5 (And.intro hj0 hj1))
                clear hO hc5 lb5 hj0 hj1
                have kP_z := HP7.out.1
                have kP_0 := HP7.out.2 0 _ rfl
                have kP_1 := HP7.out.2 1 _ rfl
                have kP_2 := HP7.out.2 2 _ rfl
                have kQ_z := HQ7.out.1
                have kQ_0 := HQ7.out.2 0 _ rfl
                have kQ_1 := HQ7.out.2 1 _ rfl
                go_wp2_with fail
                clear kP_z kP_0 kP_1 kP_2 kQ_z kQ_0 kQ_1
                refine (segOf_k _ kv HO7.out HV.out k0 k1).mono ?_
                rintro e w8 ⟨rfl, b8⟩
                have HP8 := Lib.hid (HP7.out.below b8 HP7.out.1)
                have HO8 := Lib.hid (HO7.out.below b8 (Nat.le_refl _))
                have HT8 := Lib.hid (HT7.out.below b8 HT7.out.1)
                have HQ8 := Lib.hid (HQ7.out.below b8 HQ7.out.1)
                have HB8 := Lib.hid (HB7.out.trans (b8.mono HB7.out.size))
                have z8 := b8.size
                have lb5 : b5 < w8.heap.size := Nat.lt_of_lt_of_le HC5.out.1 b8.size
                have hj0 := ((bcell b8).1 b5 (o5) HC5.out.1).trans HC5.out.2.1
                have hj1 := ((bcell b8).1 b5 (o5 + 1) HC5.out.1).trans HC5.out.2.2
                have HC8 := Lib.hid (And.intro lb5 (And.intro hj0 hj1))
                clear HC5 b8 lb5 hj0 hj1
                clear HP7 HO7 HT7 HB7 HQ7
                have kP_z := HP8.out.1
                have kP_0 := HP8.out.2 0 _ rfl
                have kP_1 := HP8.out.2 1 _ rfl
                have kP_2 := HP8.out.2 2 _ rfl
                go_wp2_with fail
                clear kP_z kP_0 kP_1 kP_2
                refine (curveAt_k _ kv HO8.out HT8.out HV.out k0 k1).mono ?_
                rintro e w9 ⟨rfl, b9⟩
                have HB9 := Lib.hid (HB8.out.trans (b9.mono HB8.out.size))
                have hj0 := ((bcell b9).1 b5 (o5) HC8.out.1).trans HC8.out.2.1
                have hj1 := ((bcell b9).1 b5 (o5 + 1) HC8.out.1).trans HC8.out.2.2
                clear HC8 b9
                clear HP8 HO8 HT8 HB8 HQ8
                rw [HZ.out]
                have e1 : (la == lb) = false := beq_eq_false_iff_ne.2 (by omega)
                have e3 : (lb == lb) = true := by simp
                have e2 : decide (la < lb) = true := decide_eq_true hlb
                go_wp2
                go_quiet (fail)
                go_wp2
                go_ret
                exact ⟨rfl, below_drewN HB9.out _⟩
  · go_enter Tryd.func9, Tryd.ntmps9
    go_wp2_with fail
    refine (a2Long_any _ A0 A1 n0 c0 n1 c1 hm0 hm1).mono ?_
    rintro e w' ⟨rfl, rfl⟩
    go_wp2
    go_ret
    exact ⟨rfl, Below.refl _ _⟩

set_option maxRecDepth 100000 in
theorem contract (H : Type) (enc : TypeId × Value → H) (W : World) (base : Nat) (args : Array Value) (ds gs : List (DataW H)) (before : List MemPlace)
    (hval0 : ∀ (j : Nat) t v, Tryd.f9.params[j]? = some t → args[j]? = some v → Value.okWide Tryd.prog W .any base t v)
    (hW : DataW.Whole enc Tryd.prog Tryd.f9.params.toList Rows.fnMeetingsSpec.vars false W args.toList ds gs before) (hL : laidMetH Tryd.prog Rows.fnMeetingsRow.laid W) :
    Calls Tryd.prog 9 args W fun e W' => ∃ v, e = .returned v ∧ Rows.fnMeetingsSpec.post enc Tryd.prog Tryd.f9 false true false false W args v W' := by
  have hval : ∀ (j : Nat) t v, Tryd.f9.params[j]? = some t → args[j]? = some v → Value.okWide Tryd.prog W .any base t v := hval0
  have hW' := hW
  obtain ⟨p, q, hA0, hV, rfl, hfz, hnd⟩ := hW
  have hA : DataW.TrodAll enc Tryd.prog W 0 (fun _ => true) true Tryd.f9.params.toList args.toList ds p := hA0
  rw [Tryd.params9] at hA hval
  obtain ⟨v0, vs0, d0, ds0, p0, q0, hargs, rfl, rfl, h0, tl0⟩ := trodAll_cons hA
  obtain ⟨v1, vs1, d1, ds1, p1, q1, rfl, rfl, rfl, h1, tl1⟩ := trodAll_cons tl0
  obtain ⟨rfl, rfl, rfl⟩ := trodAll_nil tl1
  obtain rfl : args = #[v0, v1] := by cases args; simp_all
  have k0 := h0
  have lt0 : ∀ x ∈ p0, x.block < W.heap.size := by obtain ⟨m, hm⟩ := k0; exact DataW.trod_lt m _ _ _ hm
  have k1 := h1
  have lt1 : ∀ x ∈ p1, x.block < W.heap.size := by obtain ⟨m, hm⟩ := k1; exact DataW.trod_lt m _ _ _ hm
  obtain ⟨A0, n0, c0, rfl⟩ := okWide_slice Tryd.underlying43 (hval 0 43 v0 rfl rfl)
  obtain ⟨zs0, r0⟩ : ∃ zs, Row .u8 W A0 n0 c0 zs := by
    obtain ⟨fuel, hf⟩ := h0
    obtain ⟨A', n', c', zs, e2, r⟩ := row_of Tryd.underlying43 Tryd.underlying5 (by kernel_rfl) hf (fun x hx => lt0 x hx)
    simp [Value.cells] at e2
    obtain ⟨rfl, rfl, rfl⟩ := e2
    exact ⟨zs, r⟩
  obtain ⟨A1, n1, c1, rfl⟩ := okWide_slice Tryd.underlying43 (hval 1 43 v1 rfl rfl)
  obtain ⟨zs1, r1⟩ : ∃ zs, Row .u8 W A1 n1 c1 zs := by
    obtain ⟨fuel, hf⟩ := h1
    obtain ⟨A', n', c', zs, e2, r⟩ := row_of Tryd.underlying43 Tryd.underlying5 (by kernel_rfl) hf (fun x hx => lt1 x hx)
    simp [Value.cells] at e2
    obtain ⟨rfl, rfl, rfl⟩ := e2
    exact ⟨zs, r⟩
  clear hA0 hval0
  refine (walk W (tables hL) A0 n0 c0 zs0 r0 A1 n1 c1 zs1 r1).mono fun e W' ⟨he, bel⟩ => ?_
  subst he
  match gs, hV with
  | [g1, g2], hV =>
    exact ⟨_, rfl, _, _, _, [], _, q, hW', trodAll_mk1 (shut_bool Tryd.underlying4 _), (trodAll_cons_mk (Below.trod laidOut (by kernel_rfl) (of_decide_eq_true (by kernel_rfl)) k0 bel lt0) (trodAll_cons_mk (Below.trod laidOut (by kernel_rfl) (of_decide_eq_true (by kernel_rfl)) k1 bel lt1) trodAll_mk0)), Below.trodVars laidOut bel (by kernel_rfl) hV, bel.frame _, fun h => by cases h⟩

/-- A WORLD FOR THE WITNESS: the settled one, the table holding what its initialiser lays. -/
noncomputable def laidWorld (os : Os) : World :=
  { World.holding Tryd.prog os ⟨#[], #[], []⟩ with heap := (((World.holding Tryd.prog os ⟨#[], #[], []⟩).heap.modify 0 (fun x => match x with | .cells _ t frozen => .cells #[.int .i64 1, .int .i64 1, .int .i64 (-1), .int .i64 1, .int .i64 1, .int .i64 (-1)] t frozen | o => o)).modify 2 (fun x => match x with | .cells _ t frozen => .cells #[.int .i64 (-1), .int .i64 (-1), .int .i64 1, .int .i64 (-1), .int .i64 (-1), .int .i64 1, .int .i64 1, .int .i64 1] t frozen | o => o)) }
theorem laid_met (os : Os) : laidMet Tryd.prog Rows.fnMeetingsRow.laid ((laidWorld os).forCall (fun _ _ => 0) ⟨#[], #[.slice none 0 0, .slice none 0 0], []⟩).memory :=
  laidMet_of_run' 8 (by kernel_rfl) (by kernel_rfl)
theorem reads (os : Os) {H : Type} (enc : TypeId × Value → H) : ∃ gs places, DataW.whole enc Tryd.prog ((laidWorld os).forCall (fun _ _ => 0) ⟨#[], #[.slice none 0 0, .slice none 0 0], []⟩).memory Tryd.f9.params.toList Rows.fnMeetingsSpec.vars false (#[.slice none 0 0, .slice none 0 0] : Array Value).toList 8 = some ([.nil, .nil], gs, places) :=
  ⟨[Rows.laid_loop_example_g00931_impl_turns, Rows.laid_loop_example_g00931_impl_directions], [.cell 0 0, .cell 0 1, .cell 0 2, .cell 0 3, .cell 0 4, .cell 0 5, .cell 2 0, .cell 2 1, .cell 2 2, .cell 2 3, .cell 2 4, .cell 2 5, .cell 2 6, .cell 2 7], by kernel_rfl⟩

set_option maxRecDepth 100000 in
theorem lifted (os : Os) (started : os.Started) (H : Type) (enc : TypeId × Value → H) (F : Stop.Interp) :
    ReturnsInHanded {} Tryd.checked os 9 .any ((OpenSpec.ofChange Rows.fnMeetingsSpec).preRow enc Tryd.prog Tryd.f9 Rows.fnMeetingsRow.domain false Rows.fnMeetingsRow.laid) (((OpenSpec.ofChange Rows.fnMeetingsSpec).at F).post enc Tryd.prog Tryd.f9 false true false false) := by
  obtain ⟨gs, places, hx⟩ := reads os enc
  refine returnsInHanded_of_row (C := Tryd.checked) (s := OpenSpec.ofChange Rows.fnMeetingsSpec) own started (by kernel_rfl) Tryd.func9
    (witness_row_at (enc := enc) (C := Tryd.checked) false (laidWorld os) #[.slice none 0 0, .slice none 0 0] rfl (by kernel_rfl) (by kernel_rfl) (by kernel_rfl)
      (OpenSpec.preRow_of_cond 8 hx (by kernel_rfl) (fun k hk => by cases hk) (by kernel_rfl) (laid_met os))) ?_
  intro W base args ds gs before hval hW _ _ _ hL _ _
  exact contract H enc W base args ds gs before hval hW hL

theorem said : Rows.FnMeetingsSaid :=
  OpenClaim.holds_of_cond 9 Tryd.f9 rfl rfl rfl rfl rfl rfl rfl ⟨rfl, rfl, rfl, rfl, rfl⟩ rfl rfl rfl rfl rfl (by kernel_rfl) Tryd.func9 (by kernel_rfl)
    (of_decide_eq_true (by kernel_rfl)) (by unfold Func.isWrapper; first | (rw [if_pos (by decide +kernel)]; kernel_rfl) | (rw [if_neg (by decide +kernel)]; exact ⟨rfl, rfl⟩))
    (fun os started H enc _ F => by rw [OpenClaim.pre_eq_preRow]; exact lifted os started H enc F)


theorem plain (f : FuncId) (fn : Func) (hf : Tryd.pinned.checked.prog.funcNamed "loop.example/g00931/laws.FnMeetings" = some f) (hfn : Tryd.pinned.checked.prog.funcs[f]? = some fn) :
    false = Tryd.pinned.checked.prog.looks [] ∧ ∀ (j : Nat) t, fn.params[j]? = some t → Tryd.pinned.checked.prog.wantsStandIn t = false := by
  obtain rfl : f = 9 := Option.some.inj ((show Tryd.prog.funcNamed "loop.example/g00931/laws.FnMeetings" = some 9 by kernel_rfl).symm.trans hf) |>.symm
  obtain rfl : fn = Tryd.f9 := (Option.some.inj (Tryd.func9.symm.trans hfn)).symm
  refine ⟨by kernel_rfl, fun j t ht => ?_⟩
  rw [Tryd.params9] at ht
  match j, ht with
  | 0, ht =>
    have e : t = 43 := by simpa using ht.symm
    subst e
    exact (show Tryd.prog.wantsStandIn 43 = false by kernel_rfl)
  | 1, ht =>
    have e : t = 43 := by simpa using ht.symm
    subst e
    exact (show Tryd.prog.wantsStandIn 43 = false by kernel_rfl)
  | j + 2, ht => simp at ht

theorem card : Rows.FnMeetingsCardSaid :=
  Claim7.holds_tied_plain_at .later [] _ _ _ _ said (fun _ h => by cases h) (by kernel_rfl) (fun _ h => by cases h) fnMeetings_row_tie rfl ⟨rfl, rfl⟩ (by kernel_rfl) rfl plain (by kernel_rfl)
#print axioms card
end Go.Proofs.YtajikegfladelaaDoor.fnMeetings
