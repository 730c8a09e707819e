/- Proved: whatever numbers PanelWith of the program is called with, it answers as the model, every field; what it makes is its own. No condition. -/
import Derived.Test.YtjgclemfehfgiaaRows
import Derived.Test.YtjgclemfehfgiaaBase
import Derived.Test.YtjgclemfehfgiaaPan
import Derived.Test.YtjgclemfehfgiaaMark
import Derived.Test.YtjgclemfehfgiaaNew
import Derived.Test.YtjgclemfehfgiaaHeap
import Derived.Test.YtjgclemfehfgiaaShape
import Derived.Test.YtjgclemfehfgiaaPcn
import Derived.Test.YtjgclemfehfgiaaPws
import Derived.Test.YtjgclemfehfgiaaPwi
import Derived.WalkKit
import Derived.ProofKit
import Derived.OpenShut
import Derived.ShutString
import Derived.ChangeOld
import Derived.Below
import Derived.Lib.SmallJoins
namespace Go.Proofs.Ytjgclemfehfgiaa.fnExactPanelWith
open Go.ChangeShapes Go.WideShapes Go.ChangeAt Go.RowKit Go.Joins
open Go.ChangeMaps (open_string shut_string)
open Go.Proofs.Ytjgclemfehfgiaa.Base
set_option linter.unusedVariables false
theorem own : ownKnob Try.prog.godebug = none := by kernel_rfl
theorem laidOut : laidOutB Try.prog = true := by kernel_rfl

set_option maxHeartbeats 4000000 in
theorem core (w : World) (a0 : Int) (a1 : Int) (a2 : Int) (W H code : Int) (n : Nat) (f : Nat → Int) (hn2 : n ≤ 1048576)
    (HS : Hid (∀ (w : World) , Calls Try.prog 13 #[.int .i64 a0, .int .i64 a1, .int .i64 a2] w (PanelOut W H n f code w)))
    (HI : Hid (∀ (w : World) , Calls Try.prog 14 #[.int .i64 a0, .int .i64 a1, .int .i64 a2] w (PanelOut W H n f code w))) :
    Calls Try.prog 5 #[.int .i64 a0, .int .i64 a1, .int .i64 a2] w fun e w' => e = .returned (.bool true) ∧ Below w.heap.size w w' := by
    have hcd : (code != code) = false := by simp
    have hmk : ((1 + (n : Int)) != 1 + (n : Int)) = false := by simp
    go_enter Try.func5, Try.ntmps5
    have HB0 : Hid (Below w.heap.size w w) := Lib.hid (Below.refl w.heap.size w)
    have z0 := HB0.out.size
    have z0e : (w).heap.size = w.heap.size + 0 := by simp
    go_wp2_with fail
    refine (HS.out _  ).mono ?_
    rintro e w1 ⟨AM, cM, rfl, RM, bC⟩
    have HQM : Hid (0 < n → ∀ b, blk AM = some b → w.heap.size ≤ b ∧ b < w1.heap.size) := Lib.hid (fun hn b hb => by obtain ⟨b', h1, h2, h3⟩ := RM.base_le hn; rw [hb] at h1; injection h1 with h1; subst h1; exact ⟨h2, h3⟩)
    have HB1 := Lib.hid (HB0.out.trans (bC.mono HB0.out.size))
    have z1 := (bC).size
    clear HB0
    clear bC
    have rM_1 := Lib.hid RM
    clear RM
    go_wp2_with fail
    have bN := (Below.refl w1.heap.size w1).alloc (Nat.le_refl _) (.cells #[.int .i64 W, .int .i64 H, .slice AM n cM] 30)
    have HCM_2 := Lib.hid (Cel.new w1 [.int .i64 W, .int .i64 H, .slice AM n cM] 30)
    have rM_2 := Lib.hid (rM_1.out.below bN (Nat.le_refl _))
    have HB2 := Lib.hid (HB1.out.trans (bN.mono HB1.out.size))
    have z2 := (bN).size
    clear HB1 rM_1
    have z2e : w1.heap.size + 1 ≤ (w1.alloc (.cells #[.int .i64 W, .int .i64 H, .slice AM n cM] 30)).heap.size := by simp
    clear bN
    generalize w1.alloc (.cells #[.int .i64 W, .int .i64 H, .slice AM n cM] 30) = w2 at *
    generalize w1.heap.size = bM at *
    have kCM_z := HCM_2.out.1
    have kCM_0 := HCM_2.out.2 0 _ rfl
    have kCM_1 := HCM_2.out.2 1 _ rfl
    have kCM_2 := HCM_2.out.2 2 _ rfl
    go_wp2_with fail
    clear kCM_z kCM_0 kCM_1 kCM_2
    refine (HI.out _  ).mono ?_
    rintro e w3 ⟨AG, cG, rfl, RM, bC⟩
    have HQG : Hid (0 < n → ∀ b, blk AG = some b → w2.heap.size ≤ b ∧ b < w3.heap.size) := Lib.hid (fun hn b hb => by obtain ⟨b', h1, h2, h3⟩ := RM.base_le hn; rw [hb] at h1; injection h1 with h1; subst h1; exact ⟨h2, h3⟩)
    have HCM_3 := Lib.hid (HCM_2.out.below bC HCM_2.out.1)
    have rM_3 := Lib.hid (rM_2.out.below bC (Nat.le_refl _))
    have HB3 := Lib.hid (HB2.out.trans (bC.mono HB2.out.size))
    have z3 := (bC).size
    clear HB2 HCM_2 rM_2
    clear bC
    have rG_3 := Lib.hid RM
    clear RM
    have kCM_z := HCM_3.out.1
    have kCM_0 := HCM_3.out.2 0 _ rfl
    have kCM_1 := HCM_3.out.2 1 _ rfl
    have kCM_2 := HCM_3.out.2 2 _ rfl
    go_wp2_with fail
    clear kCM_z kCM_0 kCM_1 kCM_2
    have bN := (Below.refl w3.heap.size w3).alloc (Nat.le_refl _) (.cells #[.int .i64 W, .int .i64 H, .slice AG n cG] 30)
    have HCG_4 := Lib.hid (Cel.new w3 [.int .i64 W, .int .i64 H, .slice AG n cG] 30)
    have HCM_4 := Lib.hid (HCM_3.out.below bN HCM_3.out.1)
    have rM_4 := Lib.hid (rM_3.out.below bN (Nat.le_refl _))
    have rG_4 := Lib.hid (rG_3.out.below bN (Nat.le_refl _))
    have HB4 := Lib.hid (HB3.out.trans (bN.mono HB3.out.size))
    have z4 := (bN).size
    clear HB3 HCM_3 rM_3 rG_3
    have z4e : w3.heap.size + 1 ≤ (w3.alloc (.cells #[.int .i64 W, .int .i64 H, .slice AG n cG] 30)).heap.size := by simp
    clear bN
    generalize w3.alloc (.cells #[.int .i64 W, .int .i64 H, .slice AG n cG] 30) = w4 at *
    generalize w3.heap.size = bG at *
    have kCM_z := HCM_4.out.1
    have kCM_0 := HCM_4.out.2 0 _ rfl
    have kCM_1 := HCM_4.out.2 1 _ rfl
    have kCM_2 := HCM_4.out.2 2 _ rfl
    have kCG_z := HCG_4.out.1
    have kCG_0 := HCG_4.out.2 0 _ rfl
    have kCG_1 := HCG_4.out.2 1 _ rfl
    have kCG_2 := HCG_4.out.2 2 _ rfl
    go_wp2_with fail
    clear kCM_z kCM_0 kCM_1 kCM_2
    clear kCG_z kCG_0 kCG_1 kCG_2
    refine (eqPanel_same _ W H AG AM n cG cM f rG_4.out.row rM_4.out.row).mono ?_
    rintro e w5 ⟨rfl, bE⟩
    have HCM_5 := Lib.hid (HCM_4.out.below bE HCM_4.out.1)
    have HCG_5 := Lib.hid (HCG_4.out.below bE HCG_4.out.1)
    have rM_5 := Lib.hid (rM_4.out.below bE (Nat.le_refl _))
    have rG_5 := Lib.hid (rG_4.out.below bE (Nat.le_refl _))
    have HB5 := Lib.hid (HB4.out.trans (bE.mono HB4.out.size))
    have z5 := (bE).size
    clear HB4 HCM_4 HCG_4 rM_4 rG_4
    clear bE
    have kCM_z := HCM_5.out.1
    have kCM_0 := HCM_5.out.2 0 _ rfl
    have kCM_1 := HCM_5.out.2 1 _ rfl
    have kCM_2 := HCM_5.out.2 2 _ rfl
    have kCG_z := HCG_5.out.1
    have kCG_0 := HCG_5.out.2 0 _ rfl
    have kCG_1 := HCG_5.out.2 1 _ rfl
    have kCG_2 := HCG_5.out.2 2 _ rfl
    go_wp2_with fail
    clear kCM_z kCM_0 kCM_1 kCM_2
    clear kCG_z kCG_0 kCG_1 kCG_2
    refine (markPanel_any _ w2.heap.size W H AG n cG f 1 rG_5.out (by omega) (by omega)).mono ?_
    rintro e w6 ⟨rfl, R5, r, g5, hr5⟩
    have HBm := Lib.hid (Below.mono (Marked.below g5 hr5 rG_5.out (by omega)) (show w.heap.size ≤ w2.heap.size by omega))
    have HCM_6 := Lib.hid (HCM_5.out.grownR g5 (fun e => by obtain ⟨hn9, hA⟩ := hr5 _ e; have h1 := HQG.out hn9 _ hA; omega))
    have HCG_6 := Lib.hid (HCG_5.out.grownR g5 (fun e => by obtain ⟨hn9, hA⟩ := hr5 _ e; have h1 := HQG.out hn9 _ hA; omega))
    have rM_6 := Lib.hid (rM_5.out.grownR g5 (fun b hn hb e => by obtain ⟨hn9, hA⟩ := hr5 _ e; have h1 := HQG.out hn9 _ hA; have := HQM.out hn b hb; omega))
    have rG_6 := Lib.hid R5
    have z6 := g5.size
    have HB6 := Lib.hid (HB5.out.trans HBm.out)
    clear R5 g5 hr5 HBm HB5 HCM_5 HCG_5 rM_5 rG_5
    have kCM_z := HCM_6.out.1
    have kCM_0 := HCM_6.out.2 0 _ rfl
    have kCM_1 := HCM_6.out.2 1 _ rfl
    have kCM_2 := HCM_6.out.2 2 _ rfl
    have kCG_z := HCG_6.out.1
    have kCG_0 := HCG_6.out.2 0 _ rfl
    have kCG_1 := HCG_6.out.2 1 _ rfl
    have kCG_2 := HCG_6.out.2 2 _ rfl
    go_wp2_with fail
    clear kCM_z kCM_0 kCM_1 kCM_2
    clear kCG_z kCG_0 kCG_1 kCG_2
    refine (heldPanel_any _ W H AG n cG 1 rG_6.out.row (by omega) (by omega)).mono ?_
    rintro e w7 ⟨rfl, bH⟩
    have HCM_7 := Lib.hid (HCM_6.out.below bH HCM_6.out.1)
    have HCG_7 := Lib.hid (HCG_6.out.below bH HCG_6.out.1)
    have rM_7 := Lib.hid (rM_6.out.below bH (Nat.le_refl _))
    have rG_7 := Lib.hid (rG_6.out.below bH (Nat.le_refl _))
    have HB7 := Lib.hid (HB6.out.trans (bH.mono HB6.out.size))
    have z7 := (bH).size
    clear HB6 HCM_6 HCG_6 rM_6 rG_6
    clear bH
    have kCM_z := HCM_7.out.1
    have kCM_0 := HCM_7.out.2 0 _ rfl
    have kCM_1 := HCM_7.out.2 1 _ rfl
    have kCM_2 := HCM_7.out.2 2 _ rfl
    have kCG_z := HCG_7.out.1
    have kCG_0 := HCG_7.out.2 0 _ rfl
    have kCG_1 := HCG_7.out.2 1 _ rfl
    have kCG_2 := HCG_7.out.2 2 _ rfl
    go_wp2_with fail
    clear kCM_z kCM_0 kCM_1 kCM_2
    clear kCG_z kCG_0 kCG_1 kCG_2
    refine (HI.out _  ).mono ?_
    rintro e w8 ⟨AH, cH, rfl, RM, bC⟩
    have HQH : Hid (0 < n → ∀ b, blk AH = some b → w7.heap.size ≤ b ∧ b < w8.heap.size) := Lib.hid (fun hn b hb => by obtain ⟨b', h1, h2, h3⟩ := RM.base_le hn; rw [hb] at h1; injection h1 with h1; subst h1; exact ⟨h2, h3⟩)
    have HCM_8 := Lib.hid (HCM_7.out.below bC HCM_7.out.1)
    have HCG_8 := Lib.hid (HCG_7.out.below bC HCG_7.out.1)
    have rM_8 := Lib.hid (rM_7.out.below bC (Nat.le_refl _))
    have rG_8 := Lib.hid (rG_7.out.below bC (Nat.le_refl _))
    have HB8 := Lib.hid (HB7.out.trans (bC.mono HB7.out.size))
    have z8 := (bC).size
    clear HB7 HCM_7 HCG_7 rM_7 rG_7
    clear bC
    have rH_8 := Lib.hid RM
    clear RM
    have kCM_z := HCM_8.out.1
    have kCM_0 := HCM_8.out.2 0 _ rfl
    have kCM_1 := HCM_8.out.2 1 _ rfl
    have kCM_2 := HCM_8.out.2 2 _ rfl
    have kCG_z := HCG_8.out.1
    have kCG_0 := HCG_8.out.2 0 _ rfl
    have kCG_1 := HCG_8.out.2 1 _ rfl
    have kCG_2 := HCG_8.out.2 2 _ rfl
    go_wp2_with fail
    clear kCM_z kCM_0 kCM_1 kCM_2
    clear kCG_z kCG_0 kCG_1 kCG_2
    have bN := (Below.refl w8.heap.size w8).alloc (Nat.le_refl _) (.cells #[.int .i64 W, .int .i64 H, .slice AH n cH] 30)
    have HCH_9 := Lib.hid (Cel.new w8 [.int .i64 W, .int .i64 H, .slice AH n cH] 30)
    have HCM_9 := Lib.hid (HCM_8.out.below bN HCM_8.out.1)
    have HCG_9 := Lib.hid (HCG_8.out.below bN HCG_8.out.1)
    have rM_9 := Lib.hid (rM_8.out.below bN (Nat.le_refl _))
    have rG_9 := Lib.hid (rG_8.out.below bN (Nat.le_refl _))
    have rH_9 := Lib.hid (rH_8.out.below bN (Nat.le_refl _))
    have HB9 := Lib.hid (HB8.out.trans (bN.mono HB8.out.size))
    have z9 := (bN).size
    clear HB8 HCM_8 HCG_8 rM_8 rG_8 rH_8
    have z9e : w8.heap.size + 1 ≤ (w8.alloc (.cells #[.int .i64 W, .int .i64 H, .slice AH n cH] 30)).heap.size := by simp
    clear bN
    generalize w8.alloc (.cells #[.int .i64 W, .int .i64 H, .slice AH n cH] 30) = w9 at *
    generalize w8.heap.size = bH at *
    have kCM_z := HCM_9.out.1
    have kCM_0 := HCM_9.out.2 0 _ rfl
    have kCM_1 := HCM_9.out.2 1 _ rfl
    have kCM_2 := HCM_9.out.2 2 _ rfl
    have kCG_z := HCG_9.out.1
    have kCG_0 := HCG_9.out.2 0 _ rfl
    have kCG_1 := HCG_9.out.2 1 _ rfl
    have kCG_2 := HCG_9.out.2 2 _ rfl
    have kCH_z := HCH_9.out.1
    have kCH_0 := HCH_9.out.2 0 _ rfl
    have kCH_1 := HCH_9.out.2 1 _ rfl
    have kCH_2 := HCH_9.out.2 2 _ rfl
    go_wp2_with fail
    clear kCM_z kCM_0 kCM_1 kCM_2
    clear kCG_z kCG_0 kCG_1 kCG_2
    clear kCH_z kCH_0 kCH_1 kCH_2
    refine (eqPanel_same _ W H AH AM n cH cM f rH_9.out.row rM_9.out.row).mono ?_
    rintro e w10 ⟨rfl, bE⟩
    have HCM_10 := Lib.hid (HCM_9.out.below bE HCM_9.out.1)
    have HCG_10 := Lib.hid (HCG_9.out.below bE HCG_9.out.1)
    have HCH_10 := Lib.hid (HCH_9.out.below bE HCH_9.out.1)
    have rM_10 := Lib.hid (rM_9.out.below bE (Nat.le_refl _))
    have rG_10 := Lib.hid (rG_9.out.below bE (Nat.le_refl _))
    have rH_10 := Lib.hid (rH_9.out.below bE (Nat.le_refl _))
    have HB10 := Lib.hid (HB9.out.trans (bE.mono HB9.out.size))
    have z10 := (bE).size
    clear HB9 HCM_9 HCG_9 HCH_9 rM_9 rG_9 rH_9
    clear bE
    have kCM_z := HCM_10.out.1
    have kCM_0 := HCM_10.out.2 0 _ rfl
    have kCM_1 := HCM_10.out.2 1 _ rfl
    have kCM_2 := HCM_10.out.2 2 _ rfl
    have kCG_z := HCG_10.out.1
    have kCG_0 := HCG_10.out.2 0 _ rfl
    have kCG_1 := HCG_10.out.2 1 _ rfl
    have kCG_2 := HCG_10.out.2 2 _ rfl
    have kCH_z := HCH_10.out.1
    have kCH_0 := HCH_10.out.2 0 _ rfl
    have kCH_1 := HCH_10.out.2 1 _ rfl
    have kCH_2 := HCH_10.out.2 2 _ rfl
    go_wp2_with fail
    clear kCM_z kCM_0 kCM_1 kCM_2
    clear kCG_z kCG_0 kCG_1 kCG_2
    clear kCH_z kCH_0 kCH_1 kCH_2
    refine (heldPanel_any _ W H AG n cG 1 rG_10.out.row (by omega) (by omega)).mono ?_
    rintro e w11 ⟨rfl, bH⟩
    have HCM_11 := Lib.hid (HCM_10.out.below bH HCM_10.out.1)
    have HCG_11 := Lib.hid (HCG_10.out.below bH HCG_10.out.1)
    have HCH_11 := Lib.hid (HCH_10.out.below bH HCH_10.out.1)
    have rM_11 := Lib.hid (rM_10.out.below bH (Nat.le_refl _))
    have rG_11 := Lib.hid (rG_10.out.below bH (Nat.le_refl _))
    have rH_11 := Lib.hid (rH_10.out.below bH (Nat.le_refl _))
    have HB11 := Lib.hid (HB10.out.trans (bH.mono HB10.out.size))
    have z11 := (bH).size
    clear HB10 HCM_10 HCG_10 HCH_10 rM_10 rG_10 rH_10
    clear bH
    have kCM_z := HCM_11.out.1
    have kCM_0 := HCM_11.out.2 0 _ rfl
    have kCM_1 := HCM_11.out.2 1 _ rfl
    have kCM_2 := HCM_11.out.2 2 _ rfl
    have kCG_z := HCG_11.out.1
    have kCG_0 := HCG_11.out.2 0 _ rfl
    have kCG_1 := HCG_11.out.2 1 _ rfl
    have kCG_2 := HCG_11.out.2 2 _ rfl
    have kCH_z := HCH_11.out.1
    have kCH_0 := HCH_11.out.2 0 _ rfl
    have kCH_1 := HCH_11.out.2 1 _ rfl
    have kCH_2 := HCH_11.out.2 2 _ rfl
    go_wp2
    go_ret
    exact ⟨rfl, HB11.out⟩

theorem walk (w : World) (a0 : Int) (w0 : (Lit.int .i64 a0).wf = true) (a1 : Int) (w1 : (Lit.int .i64 a1).wf = true) (a2 : Int) (w2 : (Lit.int .i64 a2).wf = true) :
    Calls Try.prog 5 #[.int .i64 a0, .int .i64 a1, .int .i64 a2] w fun e w' => e = .returned (.bool true) ∧ Below w.heap.size w w' := by
  by_cases hc : pwC a0 a1 a2 = 0
  · obtain ⟨e, -⟩ := pwC_ok hc
    obtain ⟨hW, hH, -, -⟩ := pc_zero e
    obtain ⟨N, hN⟩ : ∃ N : Nat, (N : Int) = inner a0 a1 := ⟨(inner a0 a1).toNat, by have := (inner_bd' hW hH).1; omega⟩
    exact core w a0 a1 a2 a0 a1 0 N (dgF N a2) (by have := (inner_bd' hW hH).2; omega) (Lib.hid fun w => spec_panelWith_ok w a0 a1 a2 N hc hN) (Lib.hid fun w => impl_panelWith_ok w a0 a1 a2 N hc hN)
  · exact core w a0 a1 a2 0 0 (pwC a0 a1 a2) 0 (fun _ => 0) (by omega) (Lib.hid fun w => spec_panelWith_bad w a0 a1 a2 hc) (Lib.hid fun w => impl_panelWith_bad w a0 a1 a2 hc)

set_option maxRecDepth 100000 in
theorem lifted (os : Os) (started : os.Started) (H : Type) (enc : TypeId × Value → H) :
    ReturnsInHanded {} Try.checked os 5 .any (Rows.fnExactPanelWithSpec.pre6 enc Try.prog Try.f5 Rows.fnExactPanelWithRow.domain false) (Rows.fnExactPanelWithSpec.post enc Try.prog Try.f5 false true false false) := by
  refine returnsInHanded_of_change (C := Try.checked) own started (by kernel_rfl) Try.func5
    (ChangeSpec.witness6 (enc := enc) (C := Try.checked) false ⟨#[], #[.int .i64 0, .int .i64 0, .int .i64 0], []⟩ 8 (by kernel_rfl) (by kernel_rfl) (by kernel_rfl) (by kernel_rfl)) ?_
  intro W base args ds gs before hval0 hW hcnd _
  have hval : ∀ (j : Nat) t v, Try.f5.params[j]? = some t → args[j]? = some v → Value.okWide Try.prog W .any base t v := hval0
  have hW' := hW
  obtain ⟨p, q, hA0, hV, rfl, hfz, hnd⟩ := hW
  have hA : DataW.TrodAll enc Try.prog W 0 (fun _ => true) true Try.f5.params.toList args.toList ds p := hA0
  rw [Try.params5] at hA hval
  obtain ⟨v0, vs0, d0, ds0, p0, q0, hargs, rfl, rfl, h0, tl0⟩ := trodAll_cons hA
  obtain ⟨v1, vs1, d1, ds1, p1, q1, rfl, rfl, rfl, h1, tl1⟩ := trodAll_cons tl0
  obtain ⟨v2, vs2, d2, ds2, p2, q2, rfl, rfl, rfl, h2, tl2⟩ := trodAll_cons tl1
  obtain ⟨rfl, rfl, rfl⟩ := trodAll_nil tl2
  obtain rfl : args = #[v0, v1, v2] := by cases args; simp_all
  obtain ⟨rfl, rfl⟩ := trodVars_none hV
  have k0 := h0
  have lt0 : ∀ x ∈ p0, x.block < W.heap.size := by obtain ⟨m, hm⟩ := k0; exact DataW.trod_lt m _ _ _ hm
  have k1 := h1
  have lt1 : ∀ x ∈ p1, x.block < W.heap.size := by obtain ⟨m, hm⟩ := k1; exact DataW.trod_lt m _ _ _ hm
  have k2 := h2
  have lt2 : ∀ x ∈ p2, x.block < W.heap.size := by obtain ⟨m, hm⟩ := k2; exact DataW.trod_lt m _ _ _ hm
  obtain ⟨a0, rfl, rfl, rfl, w0⟩ := open_int Try.underlying2 (hval 0 2 v0 rfl rfl) h0
  obtain ⟨a1, rfl, rfl, rfl, w1⟩ := open_int Try.underlying2 (hval 1 2 v1 rfl rfl) h1
  obtain ⟨a2, rfl, rfl, rfl, w2⟩ := open_int Try.underlying2 (hval 2 2 v2 rfl rfl) h2
  clear hA0 hval0
  refine (walk W a0 w0 a1 w1 a2 w2).mono fun e W' ⟨he, bel⟩ => ?_
  subst he
  exact ⟨_, rfl, _, _, _, [], _, [], hW', trodAll_mk1 (shut_bool Try.underlying4 _), (trodAll_cons_mk (Below.trod laidOut (by kernel_rfl) (of_decide_eq_true (by kernel_rfl)) k0 bel lt0) (trodAll_cons_mk (Below.trod laidOut (by kernel_rfl) (of_decide_eq_true (by kernel_rfl)) k1 bel lt1) (trodAll_cons_mk (Below.trod laidOut (by kernel_rfl) (of_decide_eq_true (by kernel_rfl)) k2 bel lt2) trodAll_mk0))), rfl, bel.frame _, fun h => by cases h⟩

theorem over : Rows.fnExactPanelWithRow.holds Try.pinned (OpenSpec.ofChange Rows.fnExactPanelWithSpec) :=
  OpenClaim.holds_of_wide 5 Try.f5 rfl rfl rfl rfl rfl rfl rfl ⟨rfl, rfl, rfl, rfl, rfl⟩ rfl rfl rfl rfl rfl (by kernel_rfl) Try.func5 (by kernel_rfl)
    (of_decide_eq_true (by kernel_rfl)) (by unfold Func.isWrapper; first | (rw [if_pos (by decide +kernel)]; kernel_rfl) | (rw [if_neg (by decide +kernel)]; exact ⟨rfl, rfl⟩))
    (fun os started H enc _ => lifted os started H enc)

theorem proved : Rows.FnExactPanelWithSaid := over
#print axioms proved
end Go.Proofs.Ytjgclemfehfgiaa.fnExactPanelWith
