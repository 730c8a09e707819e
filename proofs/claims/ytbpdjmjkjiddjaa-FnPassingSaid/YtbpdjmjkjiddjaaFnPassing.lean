/- Proved: whatever bytes FnPassing is called with (of at most 3000 each; for longer ones the law answers true at once), it returns true and changes nothing. No condition. -/
import Derived.Test.YtbpdjmjkjiddjaaRows
import Derived.Test.YtbpdjmjkjiddjaaBase
import Derived.Test.YtbpdjmjkjiddjaaPan
import Derived.Test.YtbpdjmjkjiddjaaNum
import Derived.Test.YtbpdjmjkjiddjaaSrc
import Derived.Test.YtbpdjmjkjiddjaaDrw
import Derived.Test.YtbpdjmjkjiddjaaPnt
import Derived.Test.YtbpdjmjkjiddjaaA2w
import Derived.Test.YtbpdjmjkjiddjaaCxe
import Derived.Test.YtbpdjmjkjiddjaaCxp
import Derived.Test.YtbpdjmjkjiddjaaPao
import Derived.WalkKit
import Derived.ProofKit
import Derived.OpenShut
import Derived.ShutString
import Derived.ChangeOld
import Derived.Below
import Derived.Lib.SmallJoins
namespace Go.Proofs.Ytbpdjmjkjiddjaa.fnPassing
open Go.ChangeShapes Go.WideShapes Go.ChangeAt Go.RowKit Go.Joins
open Go.ChangeMaps (open_string shut_string)
open Go.Proofs.Ytbpdjmjkjiddjaa.Base
set_option linter.unusedVariables false
theorem own : ownKnob Try.prog.godebug = none := by kernel_rfl
theorem laidOut : laidOutB Try.prog = true := by kernel_rfl

set_option maxHeartbeats 8000000 in
set_option maxRecDepth 100000 in
theorem walk (w : World) (A0 : Option Addr) (n0 c0 : Nat) (zs0 : Nat → Int) (r0 : Row .u8 w A0 n0 c0 zs0) :
    Calls Try.prog 9 #[.slice A0 n0 c0] w fun e w' => e = .returned (.bool true) ∧ Below w.heap.size w w' := by
  have hm0 : n0 ≤ maxLen := Nat.le_trans r0.1 r0.2.1
  have HR0 := Lib.hid r0
  clear r0
  cases hl : longB n0 0
  · have hl0 : n0 ≤ 3000 := by have := of_decide_eq_false hl; omega
    go_enter Try.func9, Try.ntmps9
    go_wp2_with fail
    refine (a2Long_any _ A0 none n0 c0 0 0 hm0 (Nat.zero_le _)).mono ?_
    rintro e w' ⟨rfl, rfl⟩
    go_wp2_with fail
    refine (a2Walker_any _ A0 n0 c0 zs0 HR0.out (by omega)).mono ?_
    rintro e w1 ⟨W, H, A, n, c, g, x, y, dx, dy, rfl, hw, O1, b1⟩
    have HO1 := Lib.hid O1.row
    have HB1 := Lib.hid b1
    obtain ⟨-, -, x1, x2, y1, y2, g1, g2⟩ := goW hw
    obtain ⟨-, x3, x4, y3, y4⟩ := goNext hw
    obtain ⟨d1, d2⟩ := sign_bd g1
    obtain ⟨d3, d4⟩ := sign_bd g2
    have hw1 : IntKind.i64.wrap (dx * dy) = dx * dy := by
      rcases sign_yes g1 with e | e <;> rcases sign_yes g2 with e2 | e2 <;> subst e <;> subst e2 <;> rfl
    obtain ⟨v, hv⟩ : ∃ v, isX W H g (x + dx) (y + dy) = v := ⟨_, rfl⟩
    obtain ⟨ov, hov⟩ : ∃ ov, (slV (x + dx) == dx * dy) = ov := ⟨_, rfl⟩
    have hcx : cxB W H n g (x + dx) (y + dy) = v := by unfold cxB; rw [(wk_valid hw).1, (goNext hw).1, hv]; rfl
    have hpo : poC W H n g x y dx dy = (if v then 0 else 6) ∧ poV W H n g x y dx dy = (v && ov) := by
      unfold poC poV ovW
      rw [hw, hv, hov]
      exact ⟨by simp, by simp⟩
    have HPW := Lib.hid (fun (w9 : World) (h9 : Row .i64 w9 A n c g) => (by have h := impl_passesOver w9 W H A n c g x y dx dy h9; rw [hpo.1, hpo.2] at h; exact h : Calls Try.prog 28 #[.agg #[.int .i64 W, .int .i64 H, .slice A n c], .agg #[.int .i64 x, .int .i64 y, .int .i64 dx, .int .i64 dy]] w9 (Gives (.tuple #[.bool (v && ov), .int .i64 (if v then 0 else 6)]) w9)))
    have HCX := Lib.hid (fun (w9 : World) (h9 : Row .i64 w9 A n c g) => (by have h := spec_isCrossing w9 W H A n c g (x + dx) (y + dy) h9; rw [hcx] at h; exact h : Calls Try.prog 11 #[.agg #[.int .i64 W, .int .i64 H, .slice A n c], .agg #[.int .i64 (x + dx), .int .i64 (y + dy)]] w9 (Gives (.bool v) w9)))
    have HPB : Hid (v = true → ∀ (w9 : World) (ex ey : Int), Row .i64 w9 A n c g → ex + -dx = x + dx → ey + -dy = y + dy → Calls Try.prog 28 #[.agg #[.int .i64 W, .int .i64 H, .slice A n c], .agg #[.int .i64 ex, .int .i64 ey, .int .i64 (-dx), .int .i64 (-dy)]] w9 (Gives (.tuple #[.bool ov, .int .i64 0]) w9)) := Lib.hid (fun hvt w9 ex ey h9 e1 e2 => by
      have h := impl_passesOver w9 W H A n c g ex ey (-dx) (-dy) h9
      obtain ⟨p1, p2⟩ := pass_other hw (hv.trans hvt) (sign_neg g1) (sign_neg g2) e1 e2
      rw [p1, p2, pass_back, hov] at h
      exact h)
    have HPC : Hid (v = true → ∀ (w9 : World) (ex ey : Int), Row .i64 w9 A n c g → ex + dx = x + dx → ey + -dy = y + dy → Calls Try.prog 28 #[.agg #[.int .i64 W, .int .i64 H, .slice A n c], .agg #[.int .i64 ex, .int .i64 ey, .int .i64 dx, .int .i64 (-dy)]] w9 (Gives (.tuple #[.bool (!ov), .int .i64 0]) w9)) := Lib.hid (fun hvt w9 ex ey h9 e1 e2 => by
      have h := impl_passesOver w9 W H A n c g ex ey dx (-dy) h9
      obtain ⟨p1, p2⟩ := pass_other hw (hv.trans hvt) g1 (sign_neg g2) e1 e2
      rw [p1, p2, pass_across (slV_sign _) g1 g2, hov] at h
      exact h)
    have HOS : Hid (v = true → ∀ (w9 : World), Row .i64 w9 A n c g → Calls Try.prog 25 #[.agg #[.int .i64 W, .int .i64 H, .slice A n c], .agg #[.int .i64 (x + dx), .int .i64 (y + dy)]] w9 (Gives (.tuple #[.int .i64 (slV (x + dx)), .int .i64 0]) w9)) := Lib.hid (fun hvt w9 h9 => by
      have h := impl_overSlope w9 W H A n c g (x + dx) (y + dy) h9
      have hc : cxC W H n g (x + dx) (y + dy) = 0 := by unfold cxC; rw [(wk_valid hw).1, (goNext hw).1, hv, hvt]; rfl
      unfold osV at h
      rw [hc, if_pos rfl] at h
      exact h)
    have zb := b1.size
    clear O1 b1 hw hcx hpo hv
    have BA := ((Below.refl w1.heap.size w1).alloc (Nat.le_refl _) (.cells #[.int .i64 W, .int .i64 H, .slice A n c] 29)).alloc (by simp) (.cells #[.int .i64 x, .int .i64 y, .int .i64 dx, .int .i64 dy] 48)
    have HPa := Lib.hid ((Cel.new w1 [.int .i64 W, .int .i64 H, .slice A n c] 29).below ((Below.refl _ (w1.alloc (.cells #[.int .i64 W, .int .i64 H, .slice A n c] 29))).alloc (Nat.le_refl _) (.cells #[.int .i64 x, .int .i64 y, .int .i64 dx, .int .i64 dy] 48)) (by simp))
    have D0 := Cel.new (w1.alloc (.cells #[.int .i64 W, .int .i64 H, .slice A n c] 29)) [.int .i64 x, .int .i64 y, .int .i64 dx, .int .i64 dy] 48
    simp only [World.size_alloc] at D0
    have HWa := Lib.hid D0
    have HOa := Lib.hid (HO1.out.below BA (Nat.le_refl _))
    have HBa := Lib.hid (HB1.out.trans (BA.mono HB1.out.size))
    clear BA D0 HO1 HB1
    go_wp2_with fail
    generalize (w1.alloc (.cells #[.int .i64 W, .int .i64 H, .slice A n c] 29)).alloc (.cells #[.int .i64 x, .int .i64 y, .int .i64 dx, .int .i64 dy] 48) = wa at *
    generalize w1.heap.size = bP at *
    refine (HPW.out _ HOa.out).mono ?_
    rintro e w2 ⟨rfl, b2⟩
    have HP2 := Lib.hid (HPa.out.below b2 HPa.out.1)
    have HW2 := Lib.hid (HWa.out.below b2 HWa.out.1)
    have HO2 := Lib.hid (HOa.out.below b2 (Nat.le_refl _))
    have HB2 := Lib.hid (HBa.out.trans (b2.mono HBa.out.size))
    clear b2 HPa HWa HOa HBa HPW
    cases v
    · have bN := (Below.refl w2.heap.size w2).alloc (Nat.le_refl _) (.cells #[.int .i64 (x + dx), .int .i64 (y + dy)] 31)
      have HPn := Lib.hid (HP2.out.below bN HP2.out.1)
      have HOn := Lib.hid (HO2.out.below bN (Nat.le_refl _))
      have HBn := Lib.hid (HB2.out.trans (bN.mono HB2.out.size))
      have dz := HW2.out.1
      have k0 := HW2.out.2 0 _ rfl
      have k1 := HW2.out.2 1 _ rfl
      have k2 := HW2.out.2 2 _ rfl
      have k3 := HW2.out.2 3 _ rfl
      have pz := HPn.out.1
      have p0 := HPn.out.2 0 _ rfl
      have p1 := HPn.out.2 1 _ rfl
      have p2 := HPn.out.2 2 _ rfl
      clear bN
      go_wp2_with fail
      refine (HCX.out _ HOn.out).mono ?_
      rintro e w3 ⟨rfl, b3⟩
      go_wp2
      go_ret
      exact ⟨rfl, HBn.out.trans (b3.mono HBn.out.size)⟩
    · have HPBt := Lib.hid (HPB.out rfl)
      have HPCt := Lib.hid (HPC.out rfl)
      have HOSt := Lib.hid (HOS.out rfl)
      clear HPB HPC HOS
      have bN := (Below.refl w2.heap.size w2).alloc (Nat.le_refl _) (.cells #[.int .i64 (x + dx), .int .i64 (y + dy)] 31)
      have HQn := Lib.hid (Cel.new w2 [.int .i64 (x + dx), .int .i64 (y + dy)] 31)
      have HPn := Lib.hid (HP2.out.below bN HP2.out.1)
      have HWn := Lib.hid (HW2.out.below bN HW2.out.1)
      have HOn := Lib.hid (HO2.out.below bN (Nat.le_refl _))
      have HBn := Lib.hid (HB2.out.trans (bN.mono HB2.out.size))
      have dz := HW2.out.1
      have k0 := HW2.out.2 0 _ rfl
      have k1 := HW2.out.2 1 _ rfl
      have k2 := HW2.out.2 2 _ rfl
      have k3 := HW2.out.2 3 _ rfl
      have pz := HPn.out.1
      have p0 := HPn.out.2 0 _ rfl
      have p1 := HPn.out.2 1 _ rfl
      have p2 := HPn.out.2 2 _ rfl
      clear bN
      go_wp2_with fail
      refine (HCX.out _ HOn.out).mono ?_
      rintro e w3 ⟨rfl, b3⟩
      clear dz k0 k1 k2 k3 pz p0 p1 p2
      have HQ3 := Lib.hid (HQn.out.below b3 HQn.out.1)
      have HP3 := Lib.hid (HPn.out.below b3 HPn.out.1)
      have HW3 := Lib.hid (HWn.out.below b3 HWn.out.1)
      have HO3 := Lib.hid (HOn.out.below b3 (Nat.le_refl _))
      have HB3 := Lib.hid (HBn.out.trans (b3.mono HBn.out.size))
      clear b3 HQn HPn HWn HOn HBn HP2 HW2 HO2 HB2
      generalize w2.heap.size = bQ at *
      have qz := HQ3.out.1
      have q0 := HQ3.out.2 0 _ rfl
      have q1 := HQ3.out.2 1 _ rfl
      have dz := HW3.out.1
      have k0 := HW3.out.2 0 _ rfl
      have k1 := HW3.out.2 1 _ rfl
      have k2 := HW3.out.2 2 _ rfl
      have k3 := HW3.out.2 3 _ rfl
      have pz := HP3.out.1
      have p0 := HP3.out.2 0 _ rfl
      have p1 := HP3.out.2 1 _ rfl
      have p2 := HP3.out.2 2 _ rfl
      go_wp2_with fail
      refine (HPBt.out _ _ _ ?_ ?_ ?_).mono ?_
      · exact HO3.out.below (((Below.refl _ _).alloc (Nat.le_refl _) _).alloc (by simp) _) (Nat.le_refl _)
      · omega
      · omega
      rintro e w4 ⟨rfl, b4⟩
      have D0 := Cel.new (w3.alloc (.cells #[.int .i64 (x + dx + dx), .int .i64 (y + dy + dy), .int .i64 (-dx), .int .i64 (-dy)] 48)) [.int .i64 x, .int .i64 (y + dy + dy), .int .i64 dx, .int .i64 (-dy)] 48
      simp only [World.size_alloc] at D0
      have BX := ((Below.refl w3.heap.size w3).alloc (Nat.le_refl _) (.cells #[.int .i64 (x + dx + dx), .int .i64 (y + dy + dy), .int .i64 (-dx), .int .i64 (-dy)] 48)).alloc (by simp) (.cells #[.int .i64 x, .int .i64 (y + dy + dy), .int .i64 dx, .int .i64 (-dy)] 48)
      have B34 := BX.trans (b4.mono BX.size)
      have HX4 := Lib.hid (D0.below b4 D0.1)
      have HQ4 := Lib.hid (HQ3.out.below B34 HQ3.out.1)
      have HP4 := Lib.hid (HP3.out.below B34 HP3.out.1)
      have HW4 := Lib.hid (HW3.out.below B34 HW3.out.1)
      have HO4 := Lib.hid (HO3.out.below B34 (Nat.le_refl _))
      have HB4 := Lib.hid (HB3.out.trans (B34.mono HB3.out.size))
      clear b4 B34 BX D0 HQ3 HP3 HW3 HO3 HB3 HPBt qz q0 q1 dz k0 k1 k2 k3 pz p0 p1 p2
      have xz := HX4.out.1
      have h0 := HX4.out.2 0 _ rfl
      have h1 := HX4.out.2 1 _ rfl
      have h2 := HX4.out.2 2 _ rfl
      have h3 := HX4.out.2 3 _ rfl
      have pz := HP4.out.1
      have p0 := HP4.out.2 0 _ rfl
      have p1 := HP4.out.2 1 _ rfl
      have p2 := HP4.out.2 2 _ rfl
      go_wp2_with fail
      generalize w3.heap.size = bZ at *
      refine (HPCt.out _ _ _ HO4.out ?_ ?_).mono ?_
      · omega
      · omega
      rintro e w5 ⟨rfl, b5⟩
      have HQ5 := Lib.hid (HQ4.out.below b5 HQ4.out.1)
      have HP5 := Lib.hid (HP4.out.below b5 HP4.out.1)
      have HW5 := Lib.hid (HW4.out.below b5 HW4.out.1)
      have HO5 := Lib.hid (HO4.out.below b5 (Nat.le_refl _))
      have HB5 := Lib.hid (HB4.out.trans (b5.mono HB4.out.size))
      clear b5 HX4 HQ4 HP4 HW4 HO4 HB4 HPCt xz h0 h1 h2 h3 pz p0 p1 p2
      have qz := HQ5.out.1
      have q0 := HQ5.out.2 0 _ rfl
      have q1 := HQ5.out.2 1 _ rfl
      have pz := HP5.out.1
      have p0 := HP5.out.2 0 _ rfl
      have p1 := HP5.out.2 1 _ rfl
      have p2 := HP5.out.2 2 _ rfl
      go_wp2_with fail
      refine (HOSt.out _ HO5.out).mono ?_
      rintro e w6 ⟨rfl, b6⟩
      have HW6 := Lib.hid (HW5.out.below b6 HW5.out.1)
      have HB6 := Lib.hid (HB5.out.trans (b6.mono HB5.out.size))
      clear b6 qz q0 q1 pz p0 p1 p2 HQ5 HP5 HW5 HO5 HB5 HOSt
      have dz := HW6.out.1
      have k0 := HW6.out.2 0 _ rfl
      have k1 := HW6.out.2 1 _ rfl
      have k2 := HW6.out.2 2 _ rfl
      have k3 := HW6.out.2 3 _ rfl
      cases ov
      · go_wp2
        go_ret
        exact ⟨rfl, HB6.out⟩
      · go_wp2
        go_ret
        exact ⟨rfl, HB6.out⟩
  · go_enter Try.func9, Try.ntmps9
    go_wp2_with fail
    refine (a2Long_any _ A0 none n0 c0 0 0 hm0 (Nat.zero_le _)).mono ?_
    rintro e w' ⟨rfl, rfl⟩
    go_wp2
    go_ret
    exact ⟨rfl, Below.refl _ _⟩

set_option maxRecDepth 100000 in
theorem lifted (os : Os) (started : os.Started) (H : Type) (enc : TypeId × Value → H) :
    ReturnsInHanded {} Try.checked os 9 .any (Rows.fnPassingSpec.pre6 enc Try.prog Try.f9 Rows.fnPassingRow.domain false) (Rows.fnPassingSpec.post enc Try.prog Try.f9 false true false false) := by
  refine returnsInHanded_of_change (C := Try.checked) own started (by kernel_rfl) Try.func9
    (ChangeSpec.witness6 (enc := enc) (C := Try.checked) false ⟨#[], #[.slice none 0 0], []⟩ 8 (by kernel_rfl) (by kernel_rfl) (by kernel_rfl) (by kernel_rfl)) ?_
  intro W base args ds gs before hval0 hW hcnd _
  have hval : ∀ (j : Nat) t v, Try.f9.params[j]? = some t → args[j]? = some v → Value.okWide Try.prog W .any base t v := hval0
  have hW' := hW
  obtain ⟨p, q, hA0, hV, rfl, hfz, hnd⟩ := hW
  have hA : DataW.TrodAll enc Try.prog W 0 (fun _ => true) true Try.f9.params.toList args.toList ds p := hA0
  rw [Try.params9] at hA hval
  obtain ⟨v0, vs0, d0, ds0, p0, q0, hargs, rfl, rfl, h0, tl0⟩ := trodAll_cons hA
  obtain ⟨rfl, rfl, rfl⟩ := trodAll_nil tl0
  obtain rfl : args = #[v0] := by cases args; simp_all
  obtain ⟨rfl, rfl⟩ := trodVars_none hV
  have k0 := h0
  have lt0 : ∀ x ∈ p0, x.block < W.heap.size := by obtain ⟨m, hm⟩ := k0; exact DataW.trod_lt m _ _ _ hm
  obtain ⟨A0, n0, c0, rfl⟩ := okWide_slice Try.underlying58 (hval 0 58 v0 rfl rfl)
  obtain ⟨zs0, r0⟩ : ∃ zs, Row .u8 W A0 n0 c0 zs := by
    obtain ⟨fuel, hf⟩ := h0
    obtain ⟨A', n', c', zs, e2, r⟩ := row_of Try.underlying58 Try.underlying5 (by kernel_rfl) hf (fun x hx => lt0 x hx)
    simp [Value.cells] at e2
    obtain ⟨rfl, rfl, rfl⟩ := e2
    exact ⟨zs, r⟩
  clear hA0 hval0
  refine (walk W A0 n0 c0 zs0 r0).mono fun e W' ⟨he, bel⟩ => ?_
  subst he
  exact ⟨_, rfl, _, _, _, [], _, [], hW', trodAll_mk1 (shut_bool Try.underlying4 _), (trodAll_cons_mk (Below.trod laidOut (by kernel_rfl) (of_decide_eq_true (by kernel_rfl)) k0 bel lt0) trodAll_mk0), rfl, bel.frame _, fun h => by cases h⟩

theorem over : Rows.fnPassingRow.holds Try.pinned (OpenSpec.ofChange Rows.fnPassingSpec) :=
  OpenClaim.holds_of_wide 9 Try.f9 rfl rfl rfl rfl rfl rfl rfl ⟨rfl, rfl, rfl, rfl, rfl⟩ rfl rfl rfl rfl rfl (by kernel_rfl) Try.func9 (by kernel_rfl)
    (of_decide_eq_true (by kernel_rfl)) (by unfold Func.isWrapper; first | (rw [if_pos (by decide +kernel)]; kernel_rfl) | (rw [if_neg (by decide +kernel)]; exact ⟨rfl, rfl⟩))
    (fun os started H enc _ => lifted os started H enc)

theorem proved : Rows.FnPassingSaid := over
#print axioms proved
end Go.Proofs.Ytbpdjmjkjiddjaa.fnPassing
