/- Proved: whatever bytes FnLoops is called with (of at most 3000 each; for longer ones the law answers true at once), it returns true and changes nothing; the tables of Go's library start as its text lays them (the card ties them). -/
import Derived.Test.YtpkajonnopmciaaDoorCards
import Derived.Test.YtpkajonnopmciaaDoorTie
import Derived.Test.YtpkajonnopmciaaDoorBase
import Derived.Test.YtpkajonnopmciaaDoorPan
import Derived.Test.YtpkajonnopmciaaDoorSrc
import Derived.Test.YtpkajonnopmciaaDoorDrw
import Derived.Test.YtpkajonnopmciaaDoorPnt
import Derived.Test.YtpkajonnopmciaaDoorLpd
import Derived.WalkKit
import Derived.ProofKit
import Derived.OpenShut
import Derived.ShutString
import Derived.OpenVars
import Derived.Handy
import Derived.Carry
import Derived.Deep.DeepHandedRow
import Derived.Lib.LaidTab
import Derived.Lib.SmallJoins
import Derived.Stop.LaidErr
import Derived.Lib.ItoaMem
namespace Go.Proofs.YtpkajonnopmciaaDoor.fnLoops
open Go.ChangeShapes Go.WideShapes Go.ChangeAt Go.RowKit Go.Joins
open Go.ChangeMaps (open_string shut_string)
open Go.Proofs.YtpkajonnopmciaaDoor.Base
set_option linter.unusedVariables false
theorem own : ownKnob Tryd.prog.godebug = none := by kernel_rfl
theorem laidOut : laidOutB Tryd.prog = true := by kernel_rfl
theorem laid_tail {P : Program} {x : String × DataW Unit} {r : List (String × DataW Unit)} {W : World} (h : laidMet P (x :: r) W) : laidMet P r W := by
  obtain ⟨ps, ⟨g, t, cs, fuel, p, q, h1, h2, h3, h4, h5, e⟩, hn, hr⟩ := h
  subst e
  exact ⟨q, h5, (List.nodup_append.1 hn).2.1, fun b off hp => hr b off (List.mem_append_right _ hp)⟩
theorem table {W : World} (h : laidMetH Tryd.prog Rows.fnLoopsRow.laid W) : Lib.TabIs Tryd.prog W "internal/strconv.uint64pow10" .u64 Lib.pow10Tab := by
  rw [MakeChecks.laidMetH_plain _ _ _ (by kernel_rfl)] at h
  have h2 := (laid_tail (laid_tail h))
  have e : (Rows.laid_internal_strconv_uint64pow10 : DataW Unit) = Lib.tabData .u64 Lib.pow10Tab := by kernel_rfl
  rw [e] at h2
  exact Lib.tabIs_of_head (g := 0) (by kernel_rfl) (by kernel_rfl) Tryd.underlying74 Tryd.underlying53 (by kernel_rfl) (by kernel_rfl) h2
set_option maxHeartbeats 8000000 in
set_option maxRecDepth 100000 in
theorem walk (w : World) (hT : Lib.TabIs Tryd.prog w "internal/strconv.uint64pow10" .u64 Lib.pow10Tab) (A0 : Option Addr) (n0 c0 : Nat) (zs0 : Nat → Int) (r0 : Row .u8 w A0 n0 c0 zs0) :
    Calls Tryd.prog 4 #[.slice A0 n0 c0] w fun e w' => e = .returned (.bool true) ∧ Below w.heap.size w w' := by
  have hm0 : n0 ≤ maxLen := Nat.le_trans r0.1 r0.2.1
  have HR0 := Lib.hid r0
  clear r0
  cases hl : longB n0 0
  · have hl0 : n0 ≤ 3000 := by have := of_decide_eq_false hl; omega
    go_enter Tryd.func4, Tryd.ntmps4
    go_wp2_with fail
    refine (a2Long_any _ A0 none n0 c0 0 0 hm0 (Nat.zero_le _)).mono ?_
    rintro e w' ⟨rfl, rfl⟩
    rw [hl]
    go_wp2_with fail
    refine (a2Pairings_any w A0 n0 c0 zs0 HR0.out (by omega)).mono ?_
    rintro e w1 ⟨m, A, c, f, B, d, g, rfl, m1, m6, hf, hg, RA, RB, b1⟩
    have HF := Lib.hid hf
    have HG := Lib.hid hg
    have HA := Lib.hid RA
    have HBB := Lib.hid RB
    have HB1 := Lib.hid b1
    have pf := pa_mk (by omega) (by omega) hf
    have pg := pa_mk (by omega) (by omega) hg
    have x1 := lc_pos (f := f) (g := g) (n := 2 * m) (by omega)
    have x2 := lc_half hf hg
    have x3 := lc_self hf
    have x4 := lc_swap (f := g) (g := f) (2 * m)
    have x5 := lc_eq_same hf hg
    obtain ⟨e1, e2⟩ := lp_ok pf pg
    obtain ⟨e3, e4⟩ := lp_ok pg pf
    obtain ⟨e5, e6⟩ := lp_ok pf pf
    rw [x4] at e3
    obtain ⟨X, hX⟩ : ∃ X, lcN f g (2 * m) = X := ⟨_, rfl⟩
    rw [hX] at e1 e3 x1 x2 x5
    have hz : lcN f f (2 * m) = m := by omega
    rw [hz] at e5
    obtain ⟨sm, hsm⟩ : ∃ sm, smB (2 * m) f g = sm := ⟨_, rfl⟩
    rw [hsm] at x5
    have hpt : ptT (2 * m) f = ptS f (2 * m) := by simp [ptT, pf]
    have hnn : ptS f (2 * m) ≠ ⟨#[]⟩ := by
      intro e
      have e' := congrArg (fun b : ByteArray => b.data.toList) e
      obtain ⟨q, hq⟩ : ∃ q, 2 * m = (q + 1) + 1 := ⟨2 * m - 2, by omega⟩
      rw [hq] at e'
      simp [ptS, ptx] at e'
    obtain ⟨T, hT⟩ : ∃ T, ptT (2 * m) f = T := ⟨_, rfl⟩
    rw [← hpt, hT] at hnn
    have HT := Lib.hid hT
    have HSM := Lib.hid hsm
    have C1 := Lib.hid (fun w A c B d hr hr' => impl_loopsOf w A (2 * m) c f B (2 * m) d g hr hr')
    have C2 := Lib.hid (fun w A c B d hr hr' => impl_loopsOf w A (2 * m) c g B (2 * m) d f hr hr')
    have C3 := Lib.hid (fun w A c B d hr hr' => impl_loopsOf w A (2 * m) c f B (2 * m) d f hr hr')
    rw [e1, e2] at C1
    rw [e3, e4] at C2
    rw [e5, e6] at C3
    have C4 := Lib.hid (fun w A c B d hr hr' => a2Same_any w A (2 * m) c f B d g hr hr')
    rw [hsm] at C4
    have C5 := Lib.hid (fun w A c hr => impl_isPairing w A (2 * m) c f hr)
    rw [pf] at C5
    have C6 := Lib.hid (fun w A c hr => impl_pairingText w A (2 * m) c f hr)
    rw [hT] at C6
    have X2 : X ≤ m := by omega
    clear hf hg RA RB b1 pf pg x2 x3 x4 e1 e2 e3 e4 e5 e6 hX hz hsm hpt hT
    go_wp2_with fail
    refine (C1.out _ _ _ _ _ HA.out HBB.out).mono ?_
    rintro e w2 ⟨rfl, b2⟩
    have HA2 := Lib.hid (HA.out.below b2 (Nat.le_refl _))
    have HBB2 := Lib.hid (HBB.out.below b2 (Nat.le_refl _))
    have HB2 := Lib.hid (HB1.out.trans (b2.mono HB1.out.size))
    clear b2 HA HBB HB1
    go_wp2_with fail
    refine (C2.out _ _ _ _ _ HBB2.out HA2.out).mono ?_
    rintro e w3 ⟨rfl, b3⟩
    have HA3 := Lib.hid (HA2.out.below b3 (Nat.le_refl _))
    have HBB3 := Lib.hid (HBB2.out.below b3 (Nat.le_refl _))
    have HB3 := Lib.hid (HB2.out.trans (b3.mono HB2.out.size))
    clear b3 HA2 HBB2 HB2
    go_wp2_with fail
    refine (C3.out _ _ _ _ _ HA3.out HA3.out).mono ?_
    rintro e w4 ⟨rfl, b4⟩
    have HA4 := Lib.hid (HA3.out.below b4 (Nat.le_refl _))
    have HBB4 := Lib.hid (HBB3.out.below b4 (Nat.le_refl _))
    have HB4 := Lib.hid (HB3.out.trans (b4.mono HB3.out.size))
    clear b4 HA3 HBB3 HB3 C1 C2 C3
    have q1 : ((X : Int) == (X : Int)) = true := beq_self_eq_true _
    have q2 : (1 : Int) ≤ (X : Int) := by omega
    have q3 : (X : Int) ≤ (m : Int) := by omega
    have q4 : ((X : Int) == (m : Int)) = sm := by
      rw [Bool.eq_iff_iff, beq_iff_eq, ← x5]
      omega
    have q5 : (sm == sm) = true := by simp
    have hh : ((2 * m : Nat) : Int) / 2 = (m : Int) := by omega
    have hh2 : 2 * (m : Int) / 2 = (m : Int) := by omega
    have q6 : ((m : Int) == (m : Int)) = true := beq_self_eq_true _
    have t1 : (T.toList == []) = false := by
      rw [beq_eq_false_iff_ne]
      intro e
      apply hnn
      apply ByteArray.ext
      rw [Lib.toList_data] at e
      exact Array.toList_inj.1 (by simpa using e)
    have t2 : (T.toList != []) = true := by rw [bne, t1]; rfl
    have t3 : T.toList.isEmpty = false := by
      cases hte : T.toList with
      | nil => rw [hte] at t1; exact absurd t1 (by decide)
      | cons _ _ => rfl
    clear x5 hnn
    go_wp2_with fail
    refine (C4.out _ _ _ _ _ HA4.out HBB4.out).mono ?_
    rintro e w5 ⟨rfl, b5⟩
    have HA5 := Lib.hid (HA4.out.below b5 (Nat.le_refl _))
    have HB5 := Lib.hid (HB4.out.trans (b5.mono HB4.out.size))
    clear b5 HA4 HBB4 HB4 C4
    go_wp2_with fail
    refine (C5.out _ _ _ HA5.out).mono ?_
    rintro e w6 ⟨rfl, b6⟩
    have HA6 := Lib.hid (HA5.out.below b6 (Nat.le_refl _))
    have HB6 := Lib.hid (HB5.out.trans (b6.mono HB5.out.size))
    clear b6 HA5 HB5 C5
    go_wp2_with fail
    refine (C6.out _ _ _ HA6.out).mono ?_
    rintro e w7 ⟨rfl, b7⟩
    have HB7 := Lib.hid (HB6.out.trans (b7.mono HB6.out.size))
    clear b7 HA6 HB6 C6
    go_wp2
    go_ret
    exact ⟨rfl, HB7.out⟩
  · go_enter Tryd.func4, Tryd.ntmps4
    go_wp2_with fail
    refine (a2Long_any _ A0 none n0 c0 0 0 hm0 (Nat.zero_le _)).mono ?_
    rintro e w' ⟨rfl, rfl⟩
    rw [hl]
    go_wp2
    go_ret
    exact ⟨rfl, Below.refl _ _⟩

set_option maxRecDepth 100000 in
theorem contract (H : Type) (enc : TypeId × Value → H) (W : World) (base : Nat) (args : Array Value) (ds gs : List (DataW H)) (before : List MemPlace)
    (hval0 : ∀ (j : Nat) t v, Tryd.f4.params[j]? = some t → args[j]? = some v → Value.okWide Tryd.prog W .any base t v)
    (hW : DataW.Whole enc Tryd.prog Tryd.f4.params.toList Rows.fnLoopsSpec.vars false W args.toList ds gs before) (hL : laidMetH Tryd.prog Rows.fnLoopsRow.laid W) :
    Calls Tryd.prog 4 args W fun e W' => ∃ v, e = .returned v ∧ Rows.fnLoopsSpec.post enc Tryd.prog Tryd.f4 false true false false W args v W' := by
  have hval : ∀ (j : Nat) t v, Tryd.f4.params[j]? = some t → args[j]? = some v → Value.okWide Tryd.prog W .any base t v := hval0
  have hW' := hW
  obtain ⟨p, q, hA0, hV, rfl, hfz, hnd⟩ := hW
  have hA : DataW.TrodAll enc Tryd.prog W 0 (fun _ => true) true Tryd.f4.params.toList args.toList ds p := hA0
  rw [Tryd.params4] at hA hval
  obtain ⟨v0, vs0, d0, ds0, p0, q0, hargs, rfl, rfl, h0, tl0⟩ := trodAll_cons hA
  obtain ⟨rfl, rfl, rfl⟩ := trodAll_nil tl0
  obtain rfl : args = #[v0] := by cases args; simp_all
  obtain ⟨rfl, rfl⟩ := trodVars_none hV
  have k0 := h0
  have lt0 : ∀ x ∈ p0, x.block < W.heap.size := by obtain ⟨m, hm⟩ := k0; exact DataW.trod_lt m _ _ _ hm
  obtain ⟨A0, n0, c0, rfl⟩ := okWide_slice Tryd.underlying27 (hval 0 27 v0 rfl rfl)
  obtain ⟨zs0, r0⟩ : ∃ zs, Row .u8 W A0 n0 c0 zs := by
    obtain ⟨fuel, hf⟩ := h0
    obtain ⟨A', n', c', zs, e2, r⟩ := row_of Tryd.underlying27 Tryd.underlying5 (by kernel_rfl) hf (fun x hx => lt0 x hx)
    simp [Value.cells] at e2
    obtain ⟨rfl, rfl, rfl⟩ := e2
    exact ⟨zs, r⟩
  clear hA0 hval0
  refine (walk W (table hL) A0 n0 c0 zs0 r0).mono fun e W' ⟨he, bel⟩ => ?_
  subst he
  exact ⟨_, rfl, _, _, _, [], _, [], hW', trodAll_mk1 (shut_bool Tryd.underlying4 _), (trodAll_cons_mk (Below.trod laidOut (by kernel_rfl) (of_decide_eq_true (by kernel_rfl)) k0 bel lt0) trodAll_mk0), rfl, bel.frame _, fun h => by cases h⟩

noncomputable def low : Nat := (World.holding Tryd.prog default ⟨#[], #[], []⟩).heap.size
/-- A WORLD FOR THE WITNESS: the settled one, each listed variable holding what its initialiser lays. -/
noncomputable def laidWorld (os : Os) : World :=
  let w0 := World.holding Tryd.prog os ⟨#[], #[], []⟩
  { w0 with heap := (((w0.heap.modify 2 fun
      | .cells _ t frozen => .cells #[.int .u8 0, .int .u8 1, .int .u8 28, .int .u8 2, .int .u8 29, .int .u8 14, .int .u8 24, .int .u8 3, .int .u8 30, .int .u8 22, .int .u8 20, .int .u8 15, .int .u8 25, .int .u8 17, .int .u8 4, .int .u8 8, .int .u8 31, .int .u8 27, .int .u8 13, .int .u8 23, .int .u8 21, .int .u8 19, .int .u8 16, .int .u8 7, .int .u8 26, .int .u8 12, .int .u8 18, .int .u8 6, .int .u8 11, .int .u8 5, .int .u8 10, .int .u8 9] t frozen
      | o => o).modify 3 fun
      | .cells _ t frozen => .cells #[.int .u8 0, .int .u8 1, .int .u8 56, .int .u8 2, .int .u8 57, .int .u8 49, .int .u8 28, .int .u8 3, .int .u8 61, .int .u8 58, .int .u8 42, .int .u8 50, .int .u8 38, .int .u8 29, .int .u8 17, .int .u8 4, .int .u8 62, .int .u8 47, .int .u8 59, .int .u8 36, .int .u8 45, .int .u8 43, .int .u8 51, .int .u8 22, .int .u8 53, .int .u8 39, .int .u8 33, .int .u8 30, .int .u8 24, .int .u8 18, .int .u8 12, .int .u8 5, .int .u8 63, .int .u8 55, .int .u8 48, .int .u8 27, .int .u8 60, .int .u8 41, .int .u8 37, .int .u8 16, .int .u8 46, .int .u8 35, .int .u8 44, .int .u8 21, .int .u8 52, .int .u8 32, .int .u8 23, .int .u8 11, .int .u8 54, .int .u8 26, .int .u8 40, .int .u8 15, .int .u8 34, .int .u8 20, .int .u8 31, .int .u8 10, .int .u8 25, .int .u8 14, .int .u8 19, .int .u8 9, .int .u8 13, .int .u8 8, .int .u8 7, .int .u8 6] t frozen
      | o => o).modify 0 fun
      | .cells _ t frozen => .cells #[.int .u64 1, .int .u64 10, .int .u64 100, .int .u64 1000, .int .u64 10000, .int .u64 100000, .int .u64 1000000, .int .u64 10000000, .int .u64 100000000, .int .u64 1000000000, .int .u64 10000000000, .int .u64 100000000000, .int .u64 1000000000000, .int .u64 10000000000000, .int .u64 100000000000000, .int .u64 1000000000000000, .int .u64 10000000000000000, .int .u64 100000000000000000, .int .u64 1000000000000000000, .int .u64 10000000000000000000] t frozen
      | o => o) }
set_option maxRecDepth 100000 in
theorem laid_met (os : Os) : laidMet Tryd.prog Rows.fnLoopsRow.laid ((laidWorld os).forCall (fun _ _ => 0) ⟨#[], #[.slice none 0 0], []⟩).memory :=
  laidMet_of_run' 8 (by kernel_rfl) (by kernel_rfl)
theorem reads (os : Os) {H : Type} (enc : TypeId × Value → H) : ∃ gs places, DataW.whole enc Tryd.prog ((laidWorld os).forCall (fun _ _ => 0) ⟨#[], #[.slice none 0 0], []⟩).memory Tryd.f4.params.toList Rows.fnLoopsSpec.vars false (#[.slice none 0 0] : Array Value).toList 8 = some ([.nil], gs, places) :=
  ⟨[], [], by kernel_rfl⟩

set_option maxRecDepth 100000 in
theorem lifted (os : Os) (started : os.Started) (H : Type) (enc : TypeId × Value → H) (F : Stop.Interp) :
    ReturnsInHanded {} Tryd.checked os 4 .any ((OpenSpec.ofChange Rows.fnLoopsSpec).preRow enc Tryd.prog Tryd.f4 Rows.fnLoopsRow.domain false Rows.fnLoopsRow.laid) (((OpenSpec.ofChange Rows.fnLoopsSpec).at F).post enc Tryd.prog Tryd.f4 false true false false) := by
  obtain ⟨gs, places, hx⟩ := reads os enc
  refine returnsInHanded_of_row (C := Tryd.checked) (s := OpenSpec.ofChange Rows.fnLoopsSpec) own started (by kernel_rfl) Tryd.func4
    (witness_row_at (enc := enc) (C := Tryd.checked) false (laidWorld os) #[.slice none 0 0] rfl (by kernel_rfl) (by kernel_rfl) (by kernel_rfl)
      (OpenSpec.preRow_of_cond 8 hx (by kernel_rfl) (fun k hk => by cases hk) (by kernel_rfl) (laid_met os))) ?_
  intro W base args ds gs before hval hW _ _ _ hL _ _
  exact contract H enc W base args ds gs before hval hW hL

theorem said : Rows.FnLoopsSaid :=
  OpenClaim.holds_of_cond 4 Tryd.f4 rfl rfl rfl rfl rfl rfl rfl ⟨rfl, rfl, rfl, rfl, rfl⟩ rfl rfl rfl rfl rfl (by kernel_rfl) Tryd.func4 (by kernel_rfl)
    (of_decide_eq_true (by kernel_rfl)) (by unfold Func.isWrapper; first | (rw [if_pos (by decide +kernel)]; kernel_rfl) | (rw [if_neg (by decide +kernel)]; exact ⟨rfl, rfl⟩))
    (fun os started H enc _ F => by rw [OpenClaim.pre_eq_preRow]; exact lifted os started H enc F)

theorem plain (f : FuncId) (fn : Func) (hf : Tryd.pinned.checked.prog.funcNamed "loop.example/g00931/laws.FnLoops" = some f) (hfn : Tryd.pinned.checked.prog.funcs[f]? = some fn) :
    false = Tryd.pinned.checked.prog.looks [] ∧ ∀ (j : Nat) t, fn.params[j]? = some t → Tryd.pinned.checked.prog.wantsStandIn t = false := by
  obtain rfl : f = 4 := Option.some.inj ((show Tryd.prog.funcNamed "loop.example/g00931/laws.FnLoops" = some 4 by kernel_rfl).symm.trans hf) |>.symm
  obtain rfl : fn = Tryd.f4 := (Option.some.inj (Tryd.func4.symm.trans hfn)).symm
  refine ⟨by kernel_rfl, fun j t ht => ?_⟩
  rw [Tryd.params4] at ht
  match j, ht with
  | 0, ht =>
    have e : t = 27 := by simpa using ht.symm
    subst e
    exact (show Tryd.prog.wantsStandIn 27 = false by kernel_rfl)
  | j + 1, ht => simp at ht

theorem card : Rows.FnLoopsCardSaid :=
  Claim7.holds_tied_plain_at .later [] _ _ _ _ said (fun _ h => by cases h) (by kernel_rfl) (fun _ h => by cases h) fnLoops_row_tie rfl ⟨rfl, rfl⟩ (by kernel_rfl) rfl plain (by kernel_rfl)
#print axioms card
end Go.Proofs.YtpkajonnopmciaaDoor.fnLoops
