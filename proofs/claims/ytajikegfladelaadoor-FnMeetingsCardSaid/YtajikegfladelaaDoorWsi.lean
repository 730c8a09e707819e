/-
  impl.walk's iterator: it gives the walkers that come by steps.
-/
import Derived.Test.YtajikegfladelaaDoorTrn
import Derived.Test.YtajikegfladelaaDoorItr
import Derived.Test.YtajikegfladelaaDoorWst
import Derived.Test.YtajikegfladelaaDoorRfi
import Derived.OwnWalkIn
import Derived.TacticsInMore
import Derived.LoopNIn
import Derived.LoopIn
namespace Go.Proofs.YtajikegfladelaaDoor.Base
open Go Go.RowKit
set_option linter.unusedVariables false
set_option linter.unusedSimpArgs false
attribute [local go_sem] Oper.semAt_some

def pagg (W H : Int) (A : Option Addr) (n c : Nat) : Value := .agg #[.int .i64 W, .int .i64 H, .slice A n c]
def wagg (v : W4) : Value := .agg #[.int .i64 v.1, .int .i64 v.2.1, .int .i64 v.2.2.1, .int .i64 v.2.2.2]

set_option maxHeartbeats 4000000 in
theorem walk_iter (n : Nat) (hn1 : 1 ≤ n) (w0 w : World) (W H : Int) (A : Option Addr) (m c : Nat) (f : Nat → Int) (x y dx dy s : Int) (p3 p4 p5 : Nat) (hr : Row .i64 w0 A m c f) (hT : Cel w0 0 [.int .i64 1, .int .i64 1, .int .i64 (-1), .int .i64 1, .int .i64 1, .int .i64 (-1)]) (hw : wkB W H m f x y dx dy = true) (hs : inB s 0 10000 = true)
    (hb : Below w0.heap.size w0 w) (h3 : At w p3 #[.func (.func 63) #[pagg W H A m c] #[]] 88) (h4 : At w p4 #[.int .i64 x, .int .i64 y, .int .i64 dx, .int .i64 dy] 32) (h5 : At w p5 #[.int .i64 s] 2) :
    IterN Fence.wide n Tryd.prog 119 #[.pointer (some ⟨p4, 0, none⟩), .pointer (some ⟨p5, 0, none⟩), .pointer (some ⟨p3, 0, none⟩)] (fun k => #[wagg (stps W H f (k + 1) (x, y, dx, dy))]) s.toNat w0.heap.size [p3] 0 w := fun l J Jx Wa hba hJ hJx hJV hY h0 => by
  refine callsIn_of_wp Tryd.func119 rfl trivial ?_ rfl
  simp only [Tryd.ntmps119, List.size_toArray, List.length_cons, List.length_nil, Nat.reduceAdd, Nat.reduceSub, Array.replicate_succ, Array.replicate_zero, List.push_toArray, List.append_toArray, List.nil_append, List.cons_append]
  have HA3 := Lib.hid (h3.below hba h3.lt)
  have HA4 := Lib.hid (h4.below hba h4.lt)
  have HA5 := Lib.hid (h5.below hba h5.lt)
  have k40 : Wa.cell? ⟨p4, 0, none⟩ = some (.int .i64 x) := HA4.out.cellv (i := 0) rfl
  have k41 : Wa.cell? ⟨p4, 1, none⟩ = some (.int .i64 y) := HA4.out.cellv (i := 1) rfl
  have k42 : Wa.cell? ⟨p4, 2, none⟩ = some (.int .i64 dx) := HA4.out.cellv (i := 2) rfl
  have k43 : Wa.cell? ⟨p4, 3, none⟩ = some (.int .i64 dy) := HA4.out.cellv (i := 3) rfl
  have k5 : Wa.cell? ⟨p5, 0, none⟩ = some (.int .i64 s) := HA5.out.cellv (i := 0) rfl
  have l5 := HA5.out.lt
  clear h3 h4 h5
  have HV0 : Hid (At (Wa.alloc (.cells #[.int .i64 x, .int .i64 y, .int .i64 dx, .int .i64 dy] 32)) Wa.heap.size (cs4 (stps W H f 0 (x, y, dx, dy))).toArray 32) := Lib.hid (At.new _ _ _)
  have HE0 := Lib.hid ((hb.trans (hba.mono hb.size)).alloc (by have := hb.size; have := hba.size; omega) (.cells #[.int .i64 x, .int .i64 y, .int .i64 dx, .int .i64 dy] 32))
  have H30 := Lib.hid (HA3.out.below ((Below.refl Wa.heap.size Wa).alloc (Nat.le_refl _) (.cells #[.int .i64 x, .int .i64 y, .int .i64 dx, .int .i64 dy] 32)) HA3.out.lt)
  have HJ0 := Lib.hid (hJ _ _ _ h0 ((Below.refl Wa.heap.size Wa).alloc (Nat.le_refl _) (.cells #[.int .i64 x, .int .i64 y, .int .i64 dx, .int .i64 dy] 32)))
  have l3 := HA3.out.lt
  obtain ⟨s0, s1⟩ := in_yes hs
  obtain ⟨hW, hH, -, -, -, -, -, -⟩ := goW hw
  obtain ⟨hn, hK⟩ := goAll hw
  have HR := Lib.hid hr
  have HT := Lib.hid hT
  have HN := Lib.hid hn
  have HWK := Lib.hid hw
  have HJs := Lib.hid hJ
  have HJV := Lib.hid hJV
  have HJx := Lib.hid hJx
  have HY := Lib.hid hY
  have HB := Lib.hid hb
  clear hr hT hn hw hs hJ hJV hJx hY hb h0
  gi_wp2
  clear k40 k41 k42 k43 k5
  obtain ⟨W1, hW1⟩ : ∃ W1, Wa.alloc (.cells #[.int .i64 x, .int .i64 y, .int .i64 dx, .int .i64 dy] 32) = W1 := ⟨_, rfl⟩
  rw [hW1] at HV0 HE0 H30 HJ0 ⊢
  clear hW1
  obtain ⟨V, hV⟩ : ∃ V, Wa.heap.size = V := ⟨_, rfl⟩
  have hV3 : p3 ≠ V := by omega
  have hVw : w0.heap.size ≤ V := by have := HB.out.size; have := hba.size; omega
  rw [hV] at HV0 ⊢
  have HVV := Lib.hid hV
  clear hV
  gi_loopw [8] (fun kv wr => ∃ k : Nat, (k : Int) ≤ s ∧ kv = .int .i64 k ∧ Hid (J k wr) ∧ Hid (At wr V (cs4 (stps W H f k (x, y, dx, dy))).toArray 32) ∧ Hid (Below w0.heap.size w0 wr) ∧ Hid (At wr p3 #[.func (.func 63) #[pagg W H A m c] #[]] 88)) (fun kv _ => 10000 - (intOf kv).toNat)
  case atStart => exact ⟨0, s0, rfl, HJ0, HV0, HE0, H30⟩
  case round =>
    clear HJ0 HV0 HE0 H30
    obtain ⟨k, hk, rfl, HJk, HVk, HEk, H3k⟩ := hrel
    by_cases hlt : (k : Int) < s
    · have hok := stps_ok (show okW W H m f (x, y, dx, dy) = true from HWK.out) k
      obtain ⟨v, hv⟩ : ∃ v, v = stps W H f k (x, y, dx, dy) := ⟨_, rfl⟩
      rw [← hv] at hok HVk
      obtain ⟨-, -, x1, x2, y1, y2, g1, g2⟩ := goW hok
      obtain ⟨h4, -⟩ := goNext hok
      have HVK := Lib.hid hv
      clear hv
      have q0 : wr.cell? ⟨V, 0, none⟩ = some (.int .i64 v.1) := HVk.out.cellv (i := 0) rfl
      have q1 : wr.cell? ⟨V, 1, none⟩ = some (.int .i64 v.2.1) := HVk.out.cellv (i := 1) rfl
      have q2 : wr.cell? ⟨V, 2, none⟩ = some (.int .i64 v.2.2.1) := HVk.out.cellv (i := 2) rfl
      have q3 : wr.cell? ⟨V, 3, none⟩ = some (.int .i64 v.2.2.2) := HVk.out.cellv (i := 3) rfl
      have r3 : wr.cell? ⟨p3, 0, none⟩ = some (.func (.func 63) #[pagg W H A m c] #[]) := H3k.out.cellv (i := 0) rfl
      gi_wp2_with fail
      clear q0 q1 q2 q3 r3
      refine ⟨trivial, (callsIn_wide.2 (implStep wr W H A m c f v.1 v.2.1 v.2.2.1 v.2.2.2 (HR.out.below HEk.out (Nat.le_refl _)) (HT.out.below HEk.out HT.out.1) HN.out hW hH x1 x2 y1 y2 g1 g2 h4 hK)).mono ?_⟩
      rintro e w3 ⟨rfl, b3⟩
      have HV3 := Lib.hid (HVk.out.below b3 HVk.out.lt)
      have HE3 := Lib.hid (HEk.out.trans (b3.mono HEk.out.size))
      have H33 := Lib.hid (H3k.out.below b3 H3k.out.lt)
      have HJ3 := Lib.hid (HJs.out _ _ _ HJk.out b3)
      clear b3 HJk HVk HEk H3k
      have q0 : w3.cell? ⟨V, 0, none⟩ = some (.int .i64 v.1) := HV3.out.cellv (i := 0) rfl
      have q1 : w3.cell? ⟨V, 1, none⟩ = some (.int .i64 v.2.1) := HV3.out.cellv (i := 1) rfl
      have q2 : w3.cell? ⟨V, 2, none⟩ = some (.int .i64 v.2.2.1) := HV3.out.cellv (i := 2) rfl
      have q3 : w3.cell? ⟨V, 3, none⟩ = some (.int .i64 v.2.2.2) := HV3.out.cellv (i := 3) rfl
      have f0 := HV3.out.frozen 0
      have f1 := HV3.out.frozen 1
      have f2 := HV3.out.frozen 2
      have f3 := HV3.out.frozen 3
      have zV := HV3.out.lt
      gi_wp2_with fail
      clear q0 q1 q2 q3 f0 f1 f2 f3
      have HV4 := Lib.hid (at_set4 (a := .int .i64 (v.1 + v.2.2.1)) (b := .int .i64 (v.2.1 + v.2.2.2)) (c := .int .i64 (stDX W H f v.1 v.2.1 v.2.2.1 v.2.2.2)) (d := .int .i64 (stDY W H f v.1 v.2.1 v.2.2.1 v.2.2.2)) HV3.out rfl)
      have HE4 := Lib.hid ((((HE3.out.setCell (p := ⟨V, 0, none⟩) hVw (.int .i64 (v.1 + v.2.2.1))).setCell (p := ⟨V, 1, none⟩) hVw (.int .i64 (v.2.1 + v.2.2.2))).setCell (p := ⟨V, 2, none⟩) hVw (.int .i64 (stDX W H f v.1 v.2.1 v.2.2.1 v.2.2.2))).setCell (p := ⟨V, 3, none⟩) hVw (.int .i64 (stDY W H f v.1 v.2.1 v.2.2.1 v.2.2.2)))
      have H34 := Lib.hid ((((H33.out.setOther (a := ⟨V, 0, none⟩) (fun e => hV3 e.symm) (.int .i64 (v.1 + v.2.2.1))).setOther (a := ⟨V, 1, none⟩) (fun e => hV3 e.symm) (.int .i64 (v.2.1 + v.2.2.2))).setOther (a := ⟨V, 2, none⟩) (fun e => hV3 e.symm) (.int .i64 (stDX W H f v.1 v.2.1 v.2.2.1 v.2.2.2))).setOther (a := ⟨V, 3, none⟩) (fun e => hV3 e.symm) (.int .i64 (stDY W H f v.1 v.2.1 v.2.2.1 v.2.2.2)))
      have HJV' : ∀ (k : Nat) (A : World) (i : Nat) (u : Value), J k A → J k (A.setCell ⟨V, i, none⟩ u) := fun k A i u h => by rw [← HVV.out]; exact HJV.out k A i u h
      have HJ4 := Lib.hid (HJV' _ _ 3 (.int .i64 (stDY W H f v.1 v.2.1 v.2.2.1 v.2.2.2)) (HJV' _ _ 2 (.int .i64 (stDX W H f v.1 v.2.1 v.2.2.1 v.2.2.2)) (HJV' _ _ 1 (.int .i64 (v.2.1 + v.2.2.2)) (HJV' _ _ 0 (.int .i64 (v.1 + v.2.2.1)) HJ3.out))))
      clear HJV' HV3 HE3 H33 HJ3 zV
      generalize (((w3.setCell ⟨V, 0, none⟩ (.int .i64 (v.1 + v.2.2.1))).setCell ⟨V, 1, none⟩ (.int .i64 (v.2.1 + v.2.2.2))).setCell ⟨V, 2, none⟩ (.int .i64 (stDX W H f v.1 v.2.1 v.2.2.1 v.2.2.2))).setCell ⟨V, 3, none⟩ (.int .i64 (stDY W H f v.1 v.2.1 v.2.2.1 v.2.2.2)) = W4 at HV4 HE4 H34 HJ4 ⊢
      have es : stps W H f (k + 1) (x, y, dx, dy) = stp W H f v := congrArg (stp W H f) HVK.out.symm
      obtain ⟨fn, tm, assign, body, hy, hR⟩ := HY.out k W4 (by omega) HJ4.out
      rw [es] at hy
      have hy' : (Instr.yield l #[.agg #[.int .i64 (v.1 + v.2.2.1), .int .i64 (v.2.1 + v.2.2.2), .int .i64 (stDX W H f v.1 v.2.1 v.2.2.1 v.2.2.2), .int .i64 (stDY W H f v.1 v.2.1 v.2.2.1 v.2.2.2)]]).run Tryd.prog W4 = .ok (.round l fn tm assign body) W4 := hy
      have HVS : Hid (At W4 V (cs4 (stps W H f (k + 1) (x, y, dx, dy))).toArray 32) := by rw [es]; exact HV4
      have HS := Lib.hid es
      clear hy es HV4
      rw [hy']
      gi_wp2
      refine hR.mono ?_
      clear hy' hR
      rintro e W5 (⟨rfl, hJ5, hk5⟩ | ⟨rfl, hJx5⟩)
      · have HE5 := Lib.hid (HE4.out.trans hk5.below)
        have HV5 := Lib.hid (HVS.out.of_block (hk5.box V (by rw [← HVV.out]; simp) HVS.out.lt))
        have H35 := Lib.hid (H34.out.of_block (hk5.box p3 (by simp) H34.out.lt))
        have HJ5 := Lib.hid hJ5
        clear hk5 hJ5 HE4 H34 HJ4 HVS
        gi_wp2
        go_roundw
        case rel => exact ⟨k + 1, by omega, by go_num, HJ5, HV5, HE5, H35⟩
        case measure => simp [intOf]; omega
      · have HJ5 := Lib.hid hJx5
        clear hJx5
        gi_wp2
        refine bodyPost_ret (results_none rfl _ _ _) rfl ?_
        exact ⟨⟨_, rfl⟩, .inr ⟨k + 1, by omega, HJ5.out⟩⟩
    · have HKS := Lib.hid (show s.toNat = k by omega)
      gi_wp2
      go_end0
      exact ⟨⟨_, rfl⟩, .inl (by rw [HKS.out]; exact HJk.out)⟩
end Go.Proofs.YtajikegfladelaaDoor.Base
