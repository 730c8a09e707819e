/- Proved: whatever text (of at most 2^20 bytes; for longer ones the law answers true at once), valid UTF-8 or not, ReadPanel of the program is called with, it answers as the model and changes nothing; the tables and errors of Go's library start as its text lays them (the card ties them). -/
import Derived.Test.YtocnocchliihhaaDoorCards
import Derived.Test.YtocnocchliihhaaDoorTie
import Derived.Test.YtocnocchliihhaaDoorBase
import Derived.Test.YtocnocchliihhaaDoorPan
import Derived.Test.YtocnocchliihhaaDoorMark
import Derived.Test.YtocnocchliihhaaDoorNew
import Derived.Test.YtocnocchliihhaaDoorNbf
import Derived.Test.YtocnocchliihhaaDoorRps
import Derived.Test.YtocnocchliihhaaDoorRpi
import Derived.WalkKit
import Derived.ProofKit
import Derived.OpenShut
import Derived.ShutString
import Derived.OpenVars
import Derived.Handy
import Derived.Carry
import Derived.Deep.DeepHandedRow
import Derived.Lib.LaidTab
import Derived.Lib.SmallJoins
import Derived.Stop.LaidErr
import Derived.Lib.ItoaMem
namespace Go.Proofs.YtocnocchliihhaaDoor.fnExactReadPanel
open Go.ChangeShapes Go.WideShapes Go.ChangeAt Go.RowKit Go.Joins
open Go.ChangeMaps (open_string shut_string)
open Go.Proofs.YtocnocchliihhaaDoor.Base
set_option linter.unusedVariables false
theorem own : ownKnob Tryd.prog.godebug = none := by kernel_rfl
theorem laidOut : laidOutB Tryd.prog = true := by kernel_rfl
theorem laid_tail {P : Program} {x : String × DataW Unit} {r : List (String × DataW Unit)} {W : World} (h : laidMet P (x :: r) W) : laidMet P r W := by
  obtain ⟨ps, ⟨g, t, cs, fuel, p, q, h1, h2, h3, h4, h5, e⟩, hn, hr⟩ := h
  subst e
  exact ⟨q, h5, (List.nodup_append.1 hn).2.1, fun b off hp => hr b off (List.mem_append_right _ hp)⟩
theorem table {W : World} (h : laidMetH Tryd.prog Rows.fnExactReadPanelRow.laid W) : Lib.TabIs Tryd.prog W "internal/strconv.uint64pow10" .u64 Lib.pow10Tab := by
  rw [MakeChecks.laidMetH_plain _ _ _ (by kernel_rfl)] at h
  have h2 := (laid_tail (laid_tail h))
  have e : (Rows.laid_internal_strconv_uint64pow10 : DataW Unit) = Lib.tabData .u64 Lib.pow10Tab := by kernel_rfl
  rw [e] at h2
  exact Lib.tabIs_of_head (g := 9) (by kernel_rfl) (by kernel_rfl) Tryd.underlying213 Tryd.underlying117 (by kernel_rfl) (by kernel_rfl) h2
theorem star : "*" ++ "errors.errorString" = "*errors.errorString" := by decide
theorem typeUnique : ∀ u, Tryd.prog.typeName? 3 u = some "*errors.errorString" → u = 231 := fun u h =>
  typeName_ptr_named (nm := "errors.errorString") (by rw [star]; kernel_rfl) (by kernel_rfl) (by decide) u (by rw [star]; exact h)
theorem senS {W : World} (h : laidMetH Tryd.prog Rows.fnExactReadPanelRow.laid W) : ∃ p, W.var? Tryd.prog "strconv.ErrSyntax" = some #[.iface 231 p] := by
  rw [MakeChecks.laidMetH_plain _ _ _ (by kernel_rfl)] at h
  obtain ⟨a, s, h1, -, -, -⟩ := laid_sentinel (tp := 231) (g := 10) (laid_tail (laid_tail (laid_tail (laid_tail h)))) (by kernel_rfl) (by kernel_rfl) Tryd.underlying89 (fun u hu => typeUnique u hu) Tryd.underlying231 Tryd.underlying233 rfl rfl Tryd.underlying9 (by kernel_rfl) (by kernel_rfl)
  exact ⟨_, h1⟩
theorem senR {W : World} (h : laidMetH Tryd.prog Rows.fnExactReadPanelRow.laid W) : ∃ p, W.var? Tryd.prog "strconv.ErrRange" = some #[.iface 231 p] := by
  rw [MakeChecks.laidMetH_plain _ _ _ (by kernel_rfl)] at h
  obtain ⟨a, s, h1, -, -, -⟩ := laid_sentinel (tp := 231) (g := 11) (laid_tail (laid_tail (laid_tail h))) (by kernel_rfl) (by kernel_rfl) Tryd.underlying89 (fun u hu => typeUnique u hu) Tryd.underlying231 Tryd.underlying233 rfl rfl Tryd.underlying9 (by kernel_rfl) (by kernel_rfl)
  exact ⟨_, h1⟩
set_option maxHeartbeats 2000000 in
set_option maxRecDepth 100000 in
theorem core (w : World) (s0 : ByteArray) (W H : Int) (code : Bool) (n : Nat) (f : Nat → Int) (hn20 : n ≤ 1048576) (hs : s0.size ≤ 1048576) (tS : TypeId) (pS : Value) (tR : TypeId) (pR : Value) (hL : Lv w tS pS tR pR)
    (HS : Hid (∀ w : World, Calls Tryd.prog 38 #[.string s0] w (PanelOutB W H n f code w)))
    (HI : Hid (∀ w : World, Lv w tS pS tR pR → Calls Tryd.prog 39 #[.string s0] w (PanelOutB W H n f code w))) :
    Calls Tryd.prog 9 #[.string s0] w fun e w' => e = .returned (.bool true) ∧ Below w.heap.size w w' := by
  have hc : (code != code) = false := by simp
  have hm : ((1 + (n : Int)) != 1 + (n : Int)) = false := by simp
  go_enter Tryd.func9, Tryd.ntmps9
  go_wp2_with fail
  refine (HS.out _).mono ?_
  rintro e w1 ⟨A0, c0, rfl, R0, b1⟩
  have hR0 := Lib.hid R0.row
  have z1 := b1.size
  have HB1 := Lib.hid b1
  have HL1 := Lib.hid (hL.below b1)
  clear R0 b1 hL
  go_wp2_with fail
  -- the box of the model's panel
  have bx := (Below.refl w1.heap.size w1).alloc (Nat.le_refl _) (.cells #[.int .i64 W, .int .i64 H, .slice A0 n c0] 26)
  have HX1 := Lib.hid (Box.new w1 26 W H A0 n c0)
  have HBX := Lib.hid bx
  clear bx
  refine (HI.out _ (HL1.out.below HBX.out)).mono ?_
  rintro e w2 ⟨A1, c1, rfl, R1, b2⟩
  have HB12 := Lib.hid (HBX.out.trans (b2.mono (by simp)))
  have HX2 := Lib.hid (HX1.out.below b2 HX1.out.1)
  have z2 : w1.heap.size + 1 ≤ w2.heap.size := by have := b2.size; simp at this; omega
  simp only [World.size_alloc] at R1
  have HR1 := Lib.hid R1
  clear R1 b2 HX1 HBX
  have hz2 := HX2.out.1
  obtain ⟨-, k0, k1, k2⟩ := id HX2.out
  go_wp2_with fail
  clear k0 k1 k2
  -- the box of the program's panel
  have bx := (Below.refl w2.heap.size w2).alloc (Nat.le_refl _) (.cells #[.int .i64 W, .int .i64 H, .slice A1 n c1] 26)
  have HY3 := Lib.hid (Box.new w2 26 W H A1 n c1)
  have HX3 := Lib.hid (HX2.out.below bx HX2.out.1)
  have HB13 := Lib.hid (HB12.out.trans (bx.mono (by omega)))
  have HR3 := Lib.hid (HR1.out.below bx (Nat.le_refl _))
  clear bx HX2
  refine (eqPanel_same _ W H A1 A0 n c1 c0 f HR3.out.row (hR0.out.below HB13.out (Nat.le_refl _))).mono ?_
  rintro e w3 ⟨rfl, b3⟩
  have HX4 := Lib.hid (HX3.out.below b3 HX3.out.1)
  have HY4 := Lib.hid (HY3.out.below b3 HY3.out.1)
  have HB14 := Lib.hid (HB13.out.trans (b3.mono (by simp; omega)))
  have HR4 := Lib.hid (HR3.out.below b3 (Nat.le_refl _))
  have z3 : w2.heap.size + 1 ≤ w3.heap.size := by have := b3.size; simp at this; omega
  clear b3 HX3 HY3 HB13 HR3 HB12
  obtain ⟨-, k0, k1, k2⟩ := id HY4.out
  go_wp2_with fail
  clear k0 k1 k2
  refine (markPanel_any _ (w1.heap.size + 1) W H A1 n c1 f 1 HR4.out (by omega) (by omega)).mono ?_
  rintro e w4 ⟨rfl, R5, r, g5, hr5⟩
  have HBM := Lib.hid (Marked.below g5 hr5 HR4.out (by omega))
  have HX5 := Lib.hid (HX4.out.below HBM.out (by omega))
  have hY5 : Box w4 w2.heap.size W H A1 n c1 := HY4.out.grown' g5 (fun e => by
    obtain ⟨hn, hA⟩ := hr5 _ e
    obtain ⟨b, hb, _, hlt⟩ := HR1.out.base_le hn
    rw [hA] at hb
    injection hb with hb
    omega)
  have HY5 := Lib.hid hY5
  have HB15 := Lib.hid (HB14.out.trans (HBM.out.mono (by omega)))
  have HR5 := Lib.hid R5
  have z4 : w3.heap.size ≤ w4.heap.size := g5.size
  clear hY5 g5 hr5 R5 HX4 HY4 HB14 HR4
  obtain ⟨-, k0, k1, k2⟩ := id HY5.out
  go_wp2_with fail
  clear k0 k1 k2
  refine (heldPanel_any _ W H A1 n c1 1 HR5.out.row (by omega) (by omega)).mono ?_
  rintro e w5 ⟨rfl, b6⟩
  have HX6 := Lib.hid (HX5.out.below b6 HX5.out.1)
  have HY6 := Lib.hid (HY5.out.below b6 HY5.out.1)
  have HB16 := Lib.hid (HB15.out.trans (b6.mono (by omega)))
  have HR6 := Lib.hid (HR5.out.below b6 (Nat.le_refl _))
  have z5 := b6.size
  clear b6 HX5 HY5 HB15 HR5
  go_wp2_with fail
  refine (HI.out _ (HL1.out.below HB16.out)).mono ?_
  rintro e w6 ⟨A2, c2, rfl, R2, b7⟩
  have HX7 := Lib.hid (HX6.out.below b7 HX6.out.1)
  have HY7 := Lib.hid (HY6.out.below b7 HY6.out.1)
  have HB17 := Lib.hid (HB16.out.trans (b7.mono (by omega)))
  have HR7 := Lib.hid (HR6.out.below b7 (Nat.le_refl _))
  have HR2 := Lib.hid R2
  have z6 := b7.size
  clear b7 HX6 HY6 HB16 HR6 R2
  obtain ⟨hzx, k0, k1, k2⟩ := id HX7.out
  go_wp2_with fail
  clear hzx k0 k1 k2
  have bx := (Below.refl w6.heap.size w6).alloc (Nat.le_refl _) (.cells #[.int .i64 W, .int .i64 H, .slice A2 n c2] 26)
  have HY8 := Lib.hid (HY7.out.below bx HY7.out.1)
  have HB18 := Lib.hid (HB17.out.trans (bx.mono (by omega)))
  have HR8 := Lib.hid (HR7.out.below bx (Nat.le_refl _))
  have HR28 := Lib.hid (HR2.out.below bx (Nat.le_refl _))
  clear bx HX7 HY7 HB17 HR7 HR2
  refine (eqPanel_same _ W H A2 A0 n c2 c0 f HR28.out.row (hR0.out.below HB18.out (Nat.le_refl _))).mono ?_
  rintro e w7 ⟨rfl, b9⟩
  have HY9 := Lib.hid (HY8.out.below b9 HY8.out.1)
  have HB19 := Lib.hid (HB18.out.trans (b9.mono (by simp; omega)))
  have HR9 := Lib.hid (HR8.out.below b9 (Nat.le_refl _))
  have z7 : w6.heap.size + 1 ≤ w7.heap.size := by have := b9.size; simp at this; omega
  clear b9 HY8 HB18 HR8 HR28
  obtain ⟨-, k0, k1, k2⟩ := id HY9.out
  go_wp2_with fail
  clear k0 k1 k2
  refine (heldPanel_any _ W H A1 n c1 1 HR9.out.row (by omega) (by omega)).mono ?_
  rintro e w8 ⟨rfl, b10⟩
  have HBF := Lib.hid (HB1.out.trans ((HB19.out.mono z1).trans (b10.mono (by omega))))
  clear b10
  go_wp2
  go_ret
  exact ⟨rfl, HBF.out⟩

theorem walk (w : World) (hT : Lib.TabIs Tryd.prog w "internal/strconv.uint64pow10" .u64 Lib.pow10Tab) (tS : TypeId) (pS : Value) (hS : w.var? Tryd.prog "strconv.ErrSyntax" = some #[.iface tS pS]) (tR : TypeId) (pR : Value) (hR : w.var? Tryd.prog "strconv.ErrRange" = some #[.iface tR pR]) (s0 : ByteArray) (hs0 : s0.size ≤ maxLen) :
    Calls Tryd.prog 9 #[.string s0] w fun e w' => e = .returned (.bool true) ∧ Below w.heap.size w w' := by
  unfold maxLen at hs0
  by_cases hs : s0.size ≤ 1048576
  · have hL : Lv w tS pS tR pR := ⟨hT, hS, hR⟩
    by_cases h : ∃ a b k j, RP s0 a b k j
    · obtain ⟨a, b, k, j, h⟩ := h
      refine core w s0 a b true (s0.size - j - 1) (rpF s0 j) (by omega) hs tS pS tR pR hL (Lib.hid fun w => spec_readPanel_yes w s0 hs a b k j h) (Lib.hid fun w hl => (impl_readPanel w s0 hs tS pS tR pR hl).mono ?_)
      rintro e w' ⟨W, H, n, f, ok, h1, ⟨rfl, k', j', h2, rfl, rfl⟩ | ⟨-, -, -, -, h2⟩⟩
      · obtain ⟨rfl, rfl, rfl⟩ := h.uniq h2
        exact h1
      · exact absurd h (h2 a b k j)
    · have h' : ∀ a b k j, ¬ RP s0 a b k j := fun a b k j g => h ⟨a, b, k, j, g⟩
      refine core w s0 0 0 false 0 (fun _ => 0) (by omega) hs tS pS tR pR hL (Lib.hid fun w => spec_readPanel_no w s0 hs h') (Lib.hid fun w hl => (impl_readPanel w s0 hs tS pS tR pR hl).mono ?_)
      rintro e w' ⟨W, H, n, f, ok, h1, ⟨rfl, k', j', h2, -⟩ | ⟨rfl, rfl, rfl, rfl, -⟩⟩
      · exact absurd h2 (h' _ _ k' j')
      · obtain ⟨A, c, e1, e2, e3⟩ := h1
        exact ⟨A, c, e1, OwnRow.congr e2 (fun t ht => absurd ht (Nat.not_lt_zero _)), e3⟩
  · have hs2 : 1048576 < s0.size := by omega
    clear hs
    go_enter Tryd.func9, Tryd.ntmps9
    go_wp2
    go_ret
    exact ⟨rfl, Below.refl _ _⟩

set_option maxRecDepth 100000 in
theorem contract (H : Type) (enc : TypeId × Value → H) (W : World) (base : Nat) (args : Array Value) (ds gs : List (DataW H)) (before : List MemPlace)
    (hval0 : ∀ (j : Nat) t v, Tryd.f9.params[j]? = some t → args[j]? = some v → Value.okWide Tryd.prog W .any base t v)
    (hW : DataW.Whole enc Tryd.prog Tryd.f9.params.toList Rows.fnExactReadPanelSpec.vars false W args.toList ds gs before) (hL : laidMetH Tryd.prog Rows.fnExactReadPanelRow.laid W) :
    Calls Tryd.prog 9 args W fun e W' => ∃ v, e = .returned v ∧ Rows.fnExactReadPanelSpec.post enc Tryd.prog Tryd.f9 false true false false W args v W' := by
  have hval : ∀ (j : Nat) t v, Tryd.f9.params[j]? = some t → args[j]? = some v → Value.okWide Tryd.prog W .any base t v := hval0
  have hW' := hW
  obtain ⟨p, q, hA0, hV, rfl, hfz, hnd⟩ := hW
  have hA : DataW.TrodAll enc Tryd.prog W 0 (fun _ => true) true Tryd.f9.params.toList args.toList ds p := hA0
  rw [Tryd.params9] at hA hval
  obtain ⟨v0, vs0, d0, ds0, p0, q0, hargs, rfl, rfl, h0, tl0⟩ := trodAll_cons hA
  obtain ⟨rfl, rfl, rfl⟩ := trodAll_nil tl0
  obtain rfl : args = #[v0] := by cases args; simp_all
  obtain ⟨rfl, rfl⟩ := trodVars_none hV
  have k0 := h0
  have lt0 : ∀ x ∈ p0, x.block < W.heap.size := by obtain ⟨m, hm⟩ := k0; exact DataW.trod_lt m _ _ _ hm
  obtain ⟨s0, rfl, rfl, rfl, hs0⟩ := open_string Tryd.underlying9 (hval 0 9 v0 rfl rfl) h0
  clear hA0 hval0
  refine (walk W (table hL) _ _ (senS hL).choose_spec _ _ (senR hL).choose_spec s0 hs0).mono fun e W' ⟨he, bel⟩ => ?_
  subst he
  exact ⟨_, rfl, _, _, _, [], _, [], hW', trodAll_mk1 (shut_bool Tryd.underlying4 _), (trodAll_cons_mk (Below.trod laidOut (by kernel_rfl) (of_decide_eq_true (by kernel_rfl)) k0 bel lt0) trodAll_mk0), rfl, bel.frame _, fun h => by cases h⟩

noncomputable def low : Nat := (World.holding Tryd.prog default ⟨#[], #[], []⟩).heap.size
/-- A WORLD FOR THE WITNESS: the settled one, each listed variable holding what its initialiser lays. -/
noncomputable def laidWorld (os : Os) : World :=
  let w0 := World.holding Tryd.prog os ⟨#[.cells #[.string ⟨#[118, 97, 108, 117, 101, 32, 111, 117, 116, 32, 111, 102, 32, 114, 97, 110, 103, 101]⟩] 233, .cells #[.string ⟨#[105, 110, 118, 97, 108, 105, 100, 32, 115, 121, 110, 116, 97, 120]⟩] 233], #[], []⟩
  { w0 with heap := (((((w0.heap.modify 12 fun
      | .cells _ t frozen => .cells #[.int .u8 0, .int .u8 1, .int .u8 28, .int .u8 2, .int .u8 29, .int .u8 14, .int .u8 24, .int .u8 3, .int .u8 30, .int .u8 22, .int .u8 20, .int .u8 15, .int .u8 25, .int .u8 17, .int .u8 4, .int .u8 8, .int .u8 31, .int .u8 27, .int .u8 13, .int .u8 23, .int .u8 21, .int .u8 19, .int .u8 16, .int .u8 7, .int .u8 26, .int .u8 12, .int .u8 18, .int .u8 6, .int .u8 11, .int .u8 5, .int .u8 10, .int .u8 9] t frozen
      | o => o).modify 13 fun
      | .cells _ t frozen => .cells #[.int .u8 0, .int .u8 1, .int .u8 56, .int .u8 2, .int .u8 57, .int .u8 49, .int .u8 28, .int .u8 3, .int .u8 61, .int .u8 58, .int .u8 42, .int .u8 50, .int .u8 38, .int .u8 29, .int .u8 17, .int .u8 4, .int .u8 62, .int .u8 47, .int .u8 59, .int .u8 36, .int .u8 45, .int .u8 43, .int .u8 51, .int .u8 22, .int .u8 53, .int .u8 39, .int .u8 33, .int .u8 30, .int .u8 24, .int .u8 18, .int .u8 12, .int .u8 5, .int .u8 63, .int .u8 55, .int .u8 48, .int .u8 27, .int .u8 60, .int .u8 41, .int .u8 37, .int .u8 16, .int .u8 46, .int .u8 35, .int .u8 44, .int .u8 21, .int .u8 52, .int .u8 32, .int .u8 23, .int .u8 11, .int .u8 54, .int .u8 26, .int .u8 40, .int .u8 15, .int .u8 34, .int .u8 20, .int .u8 31, .int .u8 10, .int .u8 25, .int .u8 14, .int .u8 19, .int .u8 9, .int .u8 13, .int .u8 8, .int .u8 7, .int .u8 6] t frozen
      | o => o).modify 9 fun
      | .cells _ t frozen => .cells #[.int .u64 1, .int .u64 10, .int .u64 100, .int .u64 1000, .int .u64 10000, .int .u64 100000, .int .u64 1000000, .int .u64 10000000, .int .u64 100000000, .int .u64 1000000000, .int .u64 10000000000, .int .u64 100000000000, .int .u64 1000000000000, .int .u64 10000000000000, .int .u64 100000000000000, .int .u64 1000000000000000, .int .u64 10000000000000000, .int .u64 100000000000000000, .int .u64 1000000000000000000, .int .u64 10000000000000000000] t frozen
      | o => o).modify 11 fun
      | .cells _ t frozen => .cells #[.iface 231 (.pointer (some ⟨low + 0, 0, none⟩))] t frozen
      | o => o).modify 10 fun
      | .cells _ t frozen => .cells #[.iface 231 (.pointer (some ⟨low + 1, 0, none⟩))] t frozen
      | o => o) }
set_option maxRecDepth 100000 in
theorem laid_met (os : Os) : laidMet Tryd.prog Rows.fnExactReadPanelRow.laid ((laidWorld os).forCall (fun _ _ => 0) ⟨#[], #[.string ByteArray.empty], []⟩).memory :=
  laidMet_of_run' 8 (by kernel_rfl) (by kernel_rfl)
theorem reads (os : Os) {H : Type} (enc : TypeId × Value → H) : ∃ gs places, DataW.whole enc Tryd.prog ((laidWorld os).forCall (fun _ _ => 0) ⟨#[], #[.string ByteArray.empty], []⟩).memory Tryd.f9.params.toList Rows.fnExactReadPanelSpec.vars false (#[.string ByteArray.empty] : Array Value).toList 8 = some ([.lit (.string [])], gs, places) :=
  ⟨[], [], by kernel_rfl⟩

set_option maxRecDepth 100000 in
theorem lifted (os : Os) (started : os.Started) (H : Type) (enc : TypeId × Value → H) (F : Stop.Interp) :
    ReturnsInHanded {} Tryd.checked os 9 .any ((OpenSpec.ofChange Rows.fnExactReadPanelSpec).preRow enc Tryd.prog Tryd.f9 Rows.fnExactReadPanelRow.domain false Rows.fnExactReadPanelRow.laid) (((OpenSpec.ofChange Rows.fnExactReadPanelSpec).at F).post enc Tryd.prog Tryd.f9 false true false false) := by
  obtain ⟨gs, places, hx⟩ := reads os enc
  refine returnsInHanded_of_row (C := Tryd.checked) (s := OpenSpec.ofChange Rows.fnExactReadPanelSpec) own started (by kernel_rfl) Tryd.func9
    (witness_row_at (enc := enc) (C := Tryd.checked) false (laidWorld os) #[.string ByteArray.empty] rfl (by kernel_rfl) (by kernel_rfl) (by kernel_rfl)
      (OpenSpec.preRow_of_cond 8 hx (by kernel_rfl) (fun k hk => by cases hk) (by kernel_rfl) (laid_met os))) ?_
  intro W base args ds gs before hval hW _ _ _ hL _ _
  exact contract H enc W base args ds gs before hval hW hL

theorem said : Rows.FnExactReadPanelSaid :=
  OpenClaim.holds_of_cond 9 Tryd.f9 rfl rfl rfl rfl rfl rfl rfl ⟨rfl, rfl, rfl, rfl, rfl⟩ rfl rfl rfl rfl rfl (by kernel_rfl) Tryd.func9 (by kernel_rfl)
    (of_decide_eq_true (by kernel_rfl)) (by unfold Func.isWrapper; first | (rw [if_pos (by decide +kernel)]; kernel_rfl) | (rw [if_neg (by decide +kernel)]; exact ⟨rfl, rfl⟩))
    (fun os started H enc _ F => by rw [OpenClaim.pre_eq_preRow]; exact lifted os started H enc F)

theorem plain (f : FuncId) (fn : Func) (hf : Tryd.pinned.checked.prog.funcNamed "loop.example/g00931/laws.FnExactReadPanel" = some f) (hfn : Tryd.pinned.checked.prog.funcs[f]? = some fn) :
    true = Tryd.pinned.checked.prog.looks [] ∧ ∀ (j : Nat) t, fn.params[j]? = some t → Tryd.pinned.checked.prog.wantsStandIn t = false := by
  obtain rfl : f = 9 := Option.some.inj ((show Tryd.prog.funcNamed "loop.example/g00931/laws.FnExactReadPanel" = some 9 by kernel_rfl).symm.trans hf) |>.symm
  obtain rfl : fn = Tryd.f9 := (Option.some.inj (Tryd.func9.symm.trans hfn)).symm
  refine ⟨by kernel_rfl, fun j t ht => ?_⟩
  rw [Tryd.params9] at ht
  match j, ht with
  | 0, ht =>
    have e : t = 9 := by simpa using ht.symm
    subst e
    exact (show Tryd.prog.wantsStandIn 9 = false by kernel_rfl)
  | j + 1, ht => simp at ht

theorem card : Rows.FnExactReadPanelCardSaid :=
  Claim7.holds_tied_plain_at .later [] _ _ _ _ said (fun _ h => by cases h) (by kernel_rfl) (fun _ h => by cases h) fnExactReadPanel_row_tie rfl ⟨rfl, rfl⟩ (by kernel_rfl) rfl plain (by kernel_rfl)
#print axioms card
end Go.Proofs.YtocnocchliihhaaDoor.fnExactReadPanel
