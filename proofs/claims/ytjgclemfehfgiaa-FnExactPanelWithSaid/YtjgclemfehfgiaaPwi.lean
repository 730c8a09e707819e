/-
  The panel of a size with a number: the program's.
-/
import Derived.Test.YtjgclemfehfgiaaRfg
import Derived.Test.YtjgclemfehfgiaaPws
import Derived.Defers
import Derived.RangeFuncLeaves
import Derived.OwnWalkIn
import Derived.TacticsInMore
import Derived.LoopNIn
import Derived.LoopIn
import Derived.Shelf.Abstract
namespace Go.Proofs.Ytjgclemfehfgiaa.Base
open Go Go.RowKit Go.Shelf
set_option linter.unusedVariables false
set_option linter.unusedSimpArgs false
attribute [local go_sem] Oper.semAt_some

theorem at_newP {X : World} {cs : Array Value} {T : TypeId} {p : Nat} (hp : X.heap.size = p) : At (X.alloc (.cells cs T)) p cs T := by subst hp; exact At.new X cs T
theorem impl_backward64 (w : World) (A : Option Addr) (m c : Nat) :
    Calls Try.prog 38 #[.slice A m c] w (fun e w' => e = .returned (.func (.func 39) #[] #[.pointer (some ⟨w.heap.size, 0, none⟩)]) ∧ w' = w.alloc (.cells #[.slice A m c] 25)) := by
  go_enter Try.func38, Try.ntmps38
  go_wp2
  go_ret
  exact ⟨rfl, rfl⟩
def bwG (G N : Nat) (k : Nat) (A : World) : Prop := k < N → G < A.heap.size ∧ A.cell? ⟨G, N - 1 - k, none⟩ = some (.int .i64 0)
set_option maxHeartbeats 4000000 in
theorem bwd64 (n : Nat) (hn1 : 1 ≤ n) (w : World) (pb G N cap : Nat) (hb : At w pb #[.slice (some ⟨G, 0, none⟩) N cap] 25) (hm : N ≤ 1000) :
    IterYG Fence.wide n Try.prog 39 #[.pointer (some ⟨pb, 0, none⟩)] (fun k => #[.int .i64 ((N : Int) - 1 - k), .int .i64 0]) N 0 [pb] w (bwG G N) := fun l J Jx Wa hba hGF hnew hJ hJx hset hY h0 => by
  refine callsIn_of_wp Try.func39 rfl trivial ?_ rfl
  simp only [Try.ntmps39, List.size_toArray, List.length_cons, List.length_nil, Nat.reduceAdd, Nat.reduceSub, Array.replicate_succ, Array.replicate_zero, List.push_toArray, List.append_toArray, List.nil_append, List.cons_append]
  have HA := Lib.hid (hb.below hba hb.lt)
  have HG := Lib.hid hGF
  have HJ0 := Lib.hid h0
  have HY := Lib.hid hY
  have k0 : Wa.cell? ⟨pb, 0, none⟩ = some (.slice (some ⟨G, 0, none⟩) N cap) := HA.out.cellv (i := 0) rfl
  have l0 := HA.out.lt
  clear hb hGF h0 hnew hJ hJx hset hY
  gi_wp2_with fail
  clear k0
  gi_loopw [3] (fun iv wr => ∃ k : Nat, k ≤ N ∧ iv = .int .i64 ((N : Int) - 1 - k) ∧ Hid (J [] k wr) ∧ Hid (At wr pb #[.slice (some ⟨G, 0, none⟩) N cap] 25)) (fun iv _ => (intOf iv + 1).toNat)
  case atStart => exact ⟨0, Nat.zero_le _, by simp, HJ0, HA⟩
  case round =>
    clear HJ0 HA l0
    obtain ⟨k, hk, rfl, HJk, HAk⟩ := hrel
    by_cases hlt : k < N
    · obtain ⟨j, hj⟩ : ∃ j : Nat, N - 1 - k = j := ⟨_, rfl⟩
      have hji : (N : Int) - 1 - k = (j : Int) := by omega
      have hjN : j < N := by omega
      obtain ⟨lG, q1⟩ := HG.out [] k wr HJk.out hlt
      rw [hj] at q1
      obtain ⟨fn, tm, assign, body, hyy, hR⟩ := HY.out [] k wr hlt HJk.out
      have hy' : (Instr.yield l #[.int .i64 (j : Int), .int .i64 0]).run Try.prog wr = .ok (.round l fn tm assign body) wr := by
        rw [hji] at hyy
        exact hyy
      have HJJ := Lib.hid hji
      have k0 : wr.cell? ⟨pb, 0, none⟩ = some (.slice (some ⟨G, 0, none⟩) N cap) := HAk.out.cellv (i := 0) rfl
      have l0 := HAk.out.lt
      have e1 : (j : Int) < (N : Int) := by omega
      have e2 : (0 : Int) ≤ (j : Int) := by omega
      rw [hji]
      clear hyy hji hj
      gi_wp2_with fail
      clear k0 q1
      refine hR.mono ?_
      clear hy' hR
      rintro e W5 (⟨rfl, hJ5, hk5⟩ | ⟨rfl, hJx5⟩)
      · have HA5 := Lib.hid (HAk.out.of_block (hk5.box pb (by simp) l0))
        have HJ5 := Lib.hid hJ5
        clear hk5 hJ5 HAk HJk
        gi_wp2
        go_roundw
        case rel => exact ⟨k + 1, by omega, by have := HJJ.out; first | (congr 1; done) | (congr 1; omega), HJ5, HA5⟩
        case measure => (simp [intOf]; try omega)
      · have HJ5 := Lib.hid hJx5
        clear hJx5
        gi_wp2
        refine bodyPost_ret (results_none rfl _ _ _) rfl ?_
        exact ⟨⟨_, rfl⟩, .inr ⟨k + 1, by omega, HJ5.out⟩⟩
    · obtain rfl : k = N := by omega
      have hz : (k : Int) - 1 - k = -1 := by omega
      rw [hz]
      gi_wp2
      go_end0
      exact ⟨⟨_, rfl⟩, .inl ⟨[], HJk.out⟩⟩
/-- what stands in the rounds -/
def PwI (wS : World) (G nb N : Nat) (x : Int) (X : List Nat) (k : Nat) (A : World) : Prop :=
  X = [G, nb] ∧ A.rowIs G 2 N (fun i => .int .i64 (pwS N k x i)) ∧ At A nb #[.int .i64 (dvs k x)] 2 ∧ Ext [G, nb] wS A
theorem holds_pwI {wS : World} {G nb N : Nat} {x : Int} {B : Nat} (hB : wS.heap.size ≤ B) : HoldsY B (PwI wS G nb N x) where
  below := fun X k A A' ⟨h1, h2, h3, h4⟩ hb => ⟨h1, h2.of_block (hb.block G h2.lt), h3.of_block (hb.block nb h3.lt), ⟨hb.os.trans h4.os, hb.tape.trans h4.tape, hb.output.trans h4.output, Nat.le_trans h4.size hb.size, fun b hb' hX => (hb.block b (Nat.lt_of_lt_of_le hb' h4.size)).trans (h4.block b hb' hX)⟩⟩
  put := fun X k A l o' ⟨h1, h2, h3, h4⟩ hl hX ho => by
    have n1 : G ≠ l := by rintro rfl; exact hX (by rw [h1]; simp)
    have n2 : nb ≠ l := by rintro rfl; exact hX (by rw [h1]; simp)
    exact ⟨h1, h2.of_block (World.putObj_heap_other n1), h3.of_block (World.putObj_heap_other n2), ⟨h4.os, h4.tape, h4.output, by simpa using h4.size, fun b hb' hX' => (World.putObj_heap_other (by omega)).trans (h4.block b hb' hX')⟩⟩
  set := fun X k A b i u ⟨h1, h2, h3, h4⟩ hl hX => by
    have n1 : G ≠ b := by rintro rfl; exact hX (by rw [h1]; simp)
    have n2 : nb ≠ b := by rintro rfl; exact hX (by rw [h1]; simp)
    exact ⟨h1, h2.of_block (Below.heap_setCell A ⟨b, i, none⟩ u G (by show G ≠ b; exact n1)), h3.of_block (Below.heap_setCell A ⟨b, i, none⟩ u nb (by show nb ≠ b; exact n2)), ⟨h4.os, h4.tape, h4.output, by simpa [World.setCell] using h4.size, fun b' hb' hX' => (Below.heap_setCell A ⟨b, i, none⟩ u b' (by show b' ≠ b; omega)).trans (h4.block b' hb' hX')⟩⟩
theorem holds_noP (B : Nat) : HoldsX B (fun _ _ => False) := ⟨fun _ _ _ h _ => h, fun _ _ _ _ h _ _ => h⟩
theorem at_putP {A : World} {p : Nat} {cs : Array Value} {T : TypeId} (h : At A p cs T) {l : Nat} {o' : Obj} (ho : ∃ o : Obj, A.heap[l]? = some o ∧ o.isCells = false) : At (A.putObj l o') p cs T := by
  refine h.of_block (World.putObj_heap_other ?_)
  rintro rfl
  obtain ⟨o, h1, h2⟩ := ho
  unfold At at h
  rw [h] at h1
  cases h1
  cases h2
set_option maxRecDepth 100000 in
set_option maxHeartbeats 4000000 in
theorem impl_panelWith0 (w : World) (W H x : Int) (N : Nat) (hW : sideB W = true) (hH : sideB H = true) (hN : (N : Int) = inner W H) (hx : 0 ≤ x) (hx2 : x ≤ 100000) :
    Calls Try.prog 27 #[.agg #[.int .i64 W, .int .i64 H], .int .i64 x] w (PanelMade W H N (dgF N x) w) := by
  have hN2 : N ≤ 112 := by have := (inner_bd' hW hH).2; omega
  have HIN := Lib.hid (fun w' : World => show Calls Try.prog 34 #[.agg #[.int .i64 W, .int .i64 H]] w' (Gives (.int .i64 (N : Int)) w') by rw [hN]; exact innerPts_any W H hW hH w')
  have HBD := Lib.hid (fun j => dvs_bd hx j)
  have hmk := run_make_row' (P := Try.prog) 25 2 (.int .i64 0) 8 Try.underlying25 infoI64 rfl .i64 .i64 N (by omega) (by omega)
  have HMK := Lib.hid hmk
  clear hmk hN hW hH
  refine (callsIn_wide (n := 6)).1 ?_
  refine callsIn_of_wp_marks Try.func27 rfl trivial ?_ rfl
  simp only [Try.ntmps27, List.size_toArray, List.length_cons, List.length_nil, Nat.reduceAdd, Nat.reduceSub, Array.replicate_succ, Array.replicate_zero, List.push_toArray, List.append_toArray, List.nil_append, List.cons_append]
  gi_wp2_with fail
  have hP0 := (((Below.refl w.heap.size w).alloc (Nat.le_refl _) (.cells #[.int .i64 W, .int .i64 H] 47)).alloc (by simp) (.cells #[.int .i64 x] 2)).alloc (by simp; omega) (.cells #[.int .i64 0, .int .i64 0, .slice none 0 0] 30)
  have b1' := (Below.refl (w.alloc (.cells #[.int .i64 W, .int .i64 H] 47)).heap.size (w.alloc (.cells #[.int .i64 W, .int .i64 H] 47))).alloc (Nat.le_refl _) (.cells #[.int .i64 x] 2)
  have b2' := (Below.refl ((w.alloc (.cells #[.int .i64 W, .int .i64 H] 47)).alloc (.cells #[.int .i64 x] 2)).heap.size ((w.alloc (.cells #[.int .i64 W, .int .i64 H] 47)).alloc (.cells #[.int .i64 x] 2))).alloc (Nat.le_refl _) (.cells #[.int .i64 0, .int .i64 0, .slice none 0 0] 30)
  have HS1 := Lib.hid (((At.new w #[.int .i64 W, .int .i64 H] 47).below b1' (by simp)).below b2' (by simp; omega))
  have HX1 := Lib.hid ((show At ((w.alloc (.cells #[.int .i64 W, .int .i64 H] 47)).alloc (.cells #[.int .i64 x] 2)) (w.heap.size + 1) #[.int .i64 x] 2 from at_newP (by simp)).below b2' (by simp))
  have HZ1 := Lib.hid (show At (((w.alloc (.cells #[.int .i64 W, .int .i64 H] 47)).alloc (.cells #[.int .i64 x] 2)).alloc (.cells #[.int .i64 0, .int .i64 0, .slice none 0 0] 30)) (w.heap.size + 1 + 1) #[.int .i64 0, .int .i64 0, .slice none 0 0] 30 from at_newP (by simp))
  have HB1 := Lib.hid hP0
  have hz1 : (((w.alloc (.cells #[.int .i64 W, .int .i64 H] 47)).alloc (.cells #[.int .i64 x] 2)).alloc (.cells #[.int .i64 0, .int .i64 0, .slice none 0 0] 30)).heap.size = w.heap.size + 3 := by simp
  clear hP0 b1' b2'
  refine ⟨trivial, (callsIn_wide.2 (HIN.out _)).mono ?_⟩
  rintro e w2 ⟨rfl, b2⟩
  have hz2 := b2.size
  have HS2 := Lib.hid (HS1.out.below b2 HS1.out.lt)
  have HX2 := Lib.hid (HX1.out.below b2 HX1.out.lt)
  have HZ2 := Lib.hid (HZ1.out.below b2 HZ1.out.lt)
  have HB2 := Lib.hid (HB1.out.trans (b2.mono HB1.out.size))
  rw [hz1] at hz2
  clear b2 HS1 HX1 HZ1 HB1 hz1 HIN
  have bA := (Below.refl w2.heap.size w2).alloc (Nat.le_refl _) (.cells (madeCells #[.int .i64 0] N) 2)
  have bB := (Below.refl (w2.alloc (.cells (madeCells #[.int .i64 0] N) 2)).heap.size (w2.alloc (.cells (madeCells #[.int .i64 0] N) 2))).alloc (Nat.le_refl _) (.cells #[.slice (some ⟨w2.heap.size, 0, none⟩) N N] 25)
  have HR3 := Lib.hid (rowIs_below (World.rowIs_made w2 (.int .i64 0) N 2) bB (by simp))
  have HV3 := Lib.hid (show At ((w2.alloc (.cells (madeCells #[.int .i64 0] N) 2)).alloc (.cells #[.slice (some ⟨w2.heap.size, 0, none⟩) N N] 25)) (w2.heap.size + 1) #[.slice (some ⟨w2.heap.size, 0, none⟩) N N] 25 from at_newP (by simp))
  have b3 := bA.trans (bB.mono bA.size)
  have HS3 := Lib.hid (HS2.out.below b3 HS2.out.lt)
  have HX3 := Lib.hid (HX2.out.below b3 HX2.out.lt)
  have HZ3 := Lib.hid (HZ2.out.below b3 HZ2.out.lt)
  have HB3 := Lib.hid (HB2.out.trans (b3.mono HB2.out.size))
  have hz3 : ((w2.alloc (.cells (madeCells #[.int .i64 0] N) 2)).alloc (.cells #[.slice (some ⟨w2.heap.size, 0, none⟩) N N] 25)).heap.size = w2.heap.size + 2 := by simp
  clear bA bB b3 HS2 HX2 HZ2 HB2
  have hmk := HMK.out
  gi_wp2_with fail
  clear hmk
  refine ⟨trivial, (callsIn_wide.2 (impl_backward64 _ _ _ _)).mono ?_⟩
  rintro e w4 ⟨rfl, rfl⟩
  generalize (w2.alloc (.cells (madeCells #[.int .i64 0] N) 2)).alloc (.cells #[.slice (some ⟨w2.heap.size, 0, none⟩) N N] 25) = w3 at *
  obtain ⟨G, hG⟩ : ∃ G, w2.heap.size = G := ⟨_, rfl⟩
  rw [hG] at HR3 HV3 hz2 hz3 ⊢
  clear hG HMK
  have b4 := (Below.refl w3.heap.size w3).alloc (Nat.le_refl _) (.cells #[.slice (some ⟨G, 0, none⟩) N N] 25)
  have HP4 := Lib.hid (At.new w3 #[.slice (some ⟨G, 0, none⟩) N N] 25)
  have HR4 := Lib.hid (rowIs_below HR3.out b4 HR3.out.lt)
  have HV4 := Lib.hid (HV3.out.below b4 HV3.out.lt)
  have HS4 := Lib.hid (HS3.out.below b4 HS3.out.lt)
  have HX4 := Lib.hid (HX3.out.below b4 HX3.out.lt)
  have HZ4 := Lib.hid (HZ3.out.below b4 HZ3.out.lt)
  have HB4 := Lib.hid (HB3.out.trans (b4.mono HB3.out.size))
  have hz4 : (w3.alloc (.cells #[.slice (some ⟨G, 0, none⟩) N N] 25)).heap.size = G + 3 := by simp [hz3]
  clear b4 HR3 HV3 HS3 HX3 HZ3 HB3
  gi_wp2
  generalize hw4 : w3.alloc (.cells #[.slice (some ⟨G, 0, none⟩) N N] 25) = w4 at *
  clear hw4
  rw [hz3] at HP4
  obtain ⟨S0, hS0⟩ : ∃ S0, w.heap.size = S0 := ⟨_, rfl⟩
  have HSE := Lib.hid hS0
  rw [hS0] at HS4 HX4 HZ4 HB4 hz2 ⊢
  clear hS0 hz3
  have hit : IterYG Fence.wide 5 Try.prog 39 #[.pointer (some ⟨G + 2, 0, none⟩)] (fun k => #[.int .i64 ((N : Int) - 1 - k), .int .i64 0]) N 0 [G + 2] w4 (bwG G N) := bwd64 5 (by omega) w4 (G + 2) G N N HP4.out (by omega)
  refine wpIn_rangeYG rfl (by omega) (gf := 39) (lb := #[.pointer (some ⟨G + 2, 0, none⟩)]) rfl trivial (enters_of Try.func39 (by kernel_rfl) rfl) hit (Nat.zero_le _) (by simp; omega) (Below.refl _ _) (fun _ => rfl)
    (PwI w4 G (S0 + 1) N x) (fun _ _ _ => False) ?hIG (holds_pwI (Nat.le_refl _)) (fun _ => holds_noP _) [G, S0 + 1] ?hX0 ?h0
    (fun k a' X => a' = { tmps := #[.agg #[.int .i64 W, .int .i64 H], .int .i64 x, .pointer (some ⟨S0, 0, none⟩), .pointer (some ⟨S0 + 1, 0, none⟩), .pointer (some ⟨S0 + 1 + 1, 0, none⟩), .pointer (some ⟨G + 1, 0, none⟩), .int .i64 ((N : Int) - 1 - k), .agg #[.int .i64 W, .int .i64 H], .int .i64 (N : Int), .slice (some ⟨G, 0, none⟩) N N, .slice (some ⟨G, 0, none⟩) N N, .func (.func 39) #[] #[.pointer (some ⟨G + 2, 0, none⟩)], .int .i64 ((N : Int) - 1 - k), .int .i64 0, undef, undef, undef, undef, undef, undef, undef, undef, undef, undef, undef, undef, undef], defers := [] })
    (fun k a' X l o' h ho => h) ?assign ?body ?done ?stop
  case hIG =>
    rintro X k A ⟨rfl, h2, -, -⟩ hk
    refine ⟨h2.lt, ?_⟩
    have h := h2.cell (i := N - 1 - k) (by omega)
    rw [h]
    unfold pwS
    rw [if_neg (by omega)]
  case hX0 =>
    intro b hb
    simp at hb ⊢
    omega
  case h0 =>
    exact ⟨rfl, HR4.out.congr (fun i hi => by rw [pwS_none N x hi]), HX4.out, Ext.refl _ _⟩
  case assign =>
    intro l j X Aw K hj hX hi hK
    clear hit
    dsimp only
    gi_wp2
    exact hK _ _ (Below.refl _ _) rfl
  case body =>
    rintro l k X a' Aw hk hX hXb ⟨rfl, i2, i3, i4⟩ rfl
    clear hit
    have HV := Lib.hid (HV4.out.of_block (i4.block (G + 1) HV4.out.lt (by simp; omega)))
    have hb := HBD.out k
    obtain ⟨j, hj⟩ : ∃ j : Nat, N - 1 - k = j := ⟨_, rfl⟩
    have hji : (N : Int) - 1 - k = (j : Int) := by omega
    have hjN : j < N := by omega
    obtain ⟨y, hy⟩ : ∃ y, dvs k x = y := ⟨_, rfl⟩
    have HR2 : Hid (∀ t, t < N → (if t = j then (.int .i64 (y % 3) : Value) else .int .i64 (pwS N k x t)) = .int .i64 (pwS N (k + 1) x t)) := Lib.hid (fun t ht => by
      have h := pwS_put (x := x) hk ht
      rw [hj, hy] at h
      rw [← h]
      unfold putF
      by_cases e : t = j
      · rw [if_pos e, if_pos e]
      · rw [if_neg e, if_neg e])
    have HY2 := Lib.hid (show y / 3 = dvs (k + 1) x by rw [← hy]; rfl)
    rw [hy] at hb i3
    have HI2 := Lib.hid i2
    have HI3 := Lib.hid i3
    have HI4 := Lib.hid i4
    have v0 : Aw.cell? ⟨G + 1, 0, none⟩ = some (.slice (some ⟨G, 0, none⟩) N N) := HV.out.cellv (i := 0) rfl
    have vz := HV.out.lt
    have n0 : Aw.cell? ⟨S0 + 1, 0, none⟩ = some (.int .i64 y) := i3.cellv (i := 0) rfl
    have nf := i3.frozen 0
    have nz := i3.lt
    have g0 := i2.cell (i := j) hjN
    have gf := i2.frozen j
    have gz := i2.lt
    have hGn : ¬ G = S0 + 1 := by omega
    have hGv : ¬ G = G + 1 := by omega
    have e1 : (j : Int) < (N : Int) := by omega
    have e2 : (0 : Int) ≤ (j : Int) := by omega
    rw [hji]
    clear i2 i3 i4 hj hji hy hXb
    gi_wp2
    refine ⟨[G, S0 + 1], ⟨rfl, ?_, ?_, ?_⟩, ?_, ?_⟩
    · exact (((HI2.out.set j (.int .i64 (y % 3))).of_block (Below.heap_setCell _ ⟨S0 + 1, 0, none⟩ _ G (by show G ≠ S0 + 1; exact hGn))).congr (fun t ht => HR2.out t ht))
    · have h := (HI3.out.setOther (a := ⟨G, j, none⟩) (by show G ≠ S0 + 1; exact hGn) (.int .i64 (y % 3))).set 0 (.int .i64 (y / 3))
      rw [← HY2.out]
      exact h
    · exact (HI4.out.trans (Ext.set _ ⟨G, j, none⟩ _ (by simp))).trans (Ext.set _ ⟨S0 + 1, 0, none⟩ _ (by simp))
    · exact (Ext.set _ ⟨G, j, none⟩ _ (by simp)).trans (Ext.set _ ⟨S0 + 1, 0, none⟩ _ (by simp))
    · intro b hb
      refine ⟨.inl hb, ?_⟩
      have h1 : ((Aw.setCell ⟨G, j, none⟩ (.int .i64 (y % 3))).setCell ⟨S0 + 1, 0, none⟩ (.int .i64 (y / 3))).heap.size = Aw.heap.size := by simp [World.setCell]
      rw [h1]
      simp at hb
      rcases hb with rfl | rfl
      · exact gz
      · exact nz
  case done =>
    rintro D X A9 hD hX ⟨rfl, i2, i3, i4⟩ hdef
    clear hit
    have HV9 := Lib.hid (HV4.out.of_block (i4.block (G + 1) HV4.out.lt (by simp; omega)))
    have HS9 := Lib.hid (HS4.out.of_block (i4.block S0 HS4.out.lt (by simp; omega)))
    have HZ9 := Lib.hid (HZ4.out.of_block (i4.block (S0 + 1 + 1) HZ4.out.lt (by simp; omega)))
    have HB9 := Lib.hid (HB4.out.trans (i4.below (B := S0) (by simp; omega) (by omega)))
    have HR9 := Lib.hid (i2.congr (fun t _ => by rw [pwS_all]))
    have HKD := Lib.hid hdef
    have hG9 := i2.lt
    have hD3 : G + 3 ≤ D := by omega
    have s0 : A9.cell? ⟨S0, 0, none⟩ = some (.int .i64 W) := HS9.out.cellv (i := 0) rfl
    have s1 : A9.cell? ⟨S0, 1, none⟩ = some (.int .i64 H) := HS9.out.cellv (i := 1) rfl
    have sz := HS9.out.lt
    have v0 : A9.cell? ⟨G + 1, 0, none⟩ = some (.slice (some ⟨G, 0, none⟩) N N) := HV9.out.cellv (i := 0) rfl
    have vz := HV9.out.lt
    have l0 : A9.cell? ⟨S0 + 1 + 1, 0, none⟩ = some (.int .i64 0) := HZ9.out.cellv (i := 0) rfl
    have l1 : A9.cell? ⟨S0 + 1 + 1, 1, none⟩ = some (.int .i64 0) := HZ9.out.cellv (i := 1) rfl
    have l2 : A9.cell? ⟨S0 + 1 + 1, 2, none⟩ = some (.slice none 0 0) := HZ9.out.cellv (i := 2) rfl
    have f0 := HZ9.out.frozen 0
    have f1 := HZ9.out.frozen 1
    have f2 := HZ9.out.frozen 2
    have zL := HZ9.out.lt
    clear i2 i3 i4 hdef hX
    gi_wp2
    have HA := Lib.hid (((HZ9.out.set 0 (.int .i64 W)).set 1 (.int .i64 H)).set 2 (.slice (some ⟨G, 0, none⟩) N N))
    have HBX := Lib.hid (((HB9.out.setCell (p := ⟨S0 + 1 + 1, 0, none⟩) (show S0 ≤ S0 + 1 + 1 by omega) (.int .i64 W)).setCell (p := ⟨S0 + 1 + 1, 1, none⟩) (show S0 ≤ S0 + 1 + 1 by omega) (.int .i64 H)).setCell (p := ⟨S0 + 1 + 1, 2, none⟩) (show S0 ≤ S0 + 1 + 1 by omega) (.slice (some ⟨G, 0, none⟩) N N))
    have HQ : Hid (∀ b, b ≠ S0 + 1 + 1 → (((A9.setCell ⟨S0 + 1 + 1, 0, none⟩ (.int .i64 W)).setCell ⟨S0 + 1 + 1, 1, none⟩ (.int .i64 H)).setCell ⟨S0 + 1 + 1, 2, none⟩ (.slice (some ⟨G, 0, none⟩) N N)).heap[b]? = A9.heap[b]?) := Lib.hid (fun b hb => by
      rw [Below.heap_setCell _ _ _ _ (by simpa using hb), Below.heap_setCell _ _ _ _ (by simpa using hb), Below.heap_setCell _ _ _ _ (by simpa using hb)])
    clear s0 s1 sz v0 vz l0 l1 l2 f0 f1 f2 zL
    generalize ((A9.setCell ⟨S0 + 1 + 1, 0, none⟩ (.int .i64 W)).setCell ⟨S0 + 1 + 1, 1, none⟩ (.int .i64 H)).setCell ⟨S0 + 1 + 1, 2, none⟩ (.slice (some ⟨G, 0, none⟩) N N) = Y at HA HBX HQ ⊢
    have HKX : Hid (Y.heap[D]? = some (.deferred (some []))) := Lib.hid ((HQ.out D (by omega)).trans HKD.out)
    refine ⟨by simp, .inl ⟨_, _, rfl, run_takeDeferred HKX.out, ?_⟩⟩
    have HA2 := Lib.hid (at_putP (o' := .deferred none) HA.out ⟨_, HKX.out, rfl⟩)
    have HB2 := Lib.hid (HBX.out.grown (grownBy_putObj' Y D (.deferred none)) (by have := HBX.out.size; have := HSE.out; omega) (fun j e => by cases e; omega))
    have HR2 := Lib.hid ((HR9.out.of_block (HQ.out G (by omega))).of_block (World.putObj_heap_other (o := .deferred none) (show G ≠ D by omega)))
    clear HA HBX HKX HQ
    generalize Y.putObj D (.deferred none) = Z at HA2 HB2 HR2 ⊢
    have q0 : Z.cell? ⟨S0 + 1 + 1, 0, none⟩ = some (.int .i64 W) := HA2.out.cellv (i := 0) rfl
    have q1 : Z.cell? ⟨S0 + 1 + 1, 1, none⟩ = some (.int .i64 H) := HA2.out.cellv (i := 1) rfl
    have q2 : Z.cell? ⟨S0 + 1 + 1, 2, none⟩ = some (.slice (some ⟨G, 0, none⟩) N N) := HA2.out.cellv (i := 2) rfl
    refine ⟨.agg #[.int .i64 W, .int .i64 H, .slice (some ⟨G, 0, none⟩) N N], ?_, some ⟨G, 0, none⟩, N, rfl, ?_, ?_⟩
    · simp [results, Try.results27, go_sem, q0, q1, q2]
    · exact ownRow_of HR2.out (by unfold maxLen; omega) (fun i hi => WalkArith.wf_i64 (by unfold dgF; omega)) (by have := HSE.out; omega)
    · have h := HB2.out
      rw [← HSE.out] at h
      exact h
  case stop => rintro D t k X hD hk h _; exact h.elim
set_option maxHeartbeats 1000000 in
theorem impl_panelWith_bad (w : World) (W H x : Int) (hc : pwC W H x ≠ 0) :
    Calls Try.prog 14 #[.int .i64 W, .int .i64 H, .int .i64 x] w (PanelOut 0 0 0 (fun _ => 0) (pwC W H x) w) := by
  have HC := Lib.hid (impl_panelCount W H (w.alloc (.cells #[.int .i64 0, .int .i64 0, .slice none 0 0] 30)))
  by_cases e : pcC W H = 0
  · obtain ⟨hW, hH, hm, hv⟩ := pc_zero e
    have hb : inB x 0 (mnP W H - 1) = false := by
      cases hb : inB x 0 (mnP W H - 1)
      · rfl
      · exact absurd (by unfold pwC; rw [if_pos e, hb]; rfl) hc
    have e2 : pwC W H x = 3 := by unfold pwC; rw [if_pos e, hb]; rfl
    rw [e2]
    rw [e, hv] at HC
    obtain ⟨m, hmm⟩ : ∃ m, mnP W H = m := ⟨_, rfl⟩
    rw [hmm] at HC hb
    have hn := in_no hb
    have h' : x < 0 ∨ (¬ x < 0 ∧ m ≤ x) := by omega
    clear hW hH hm hv hb e2 e hc hmm hn
    rcases h' with h | ⟨h0, h⟩
    all_goals
      go_enter Try.func14, Try.ntmps14
      go_wp2_with fail
      refine HC.out.mono ?_
      rintro e w1 ⟨rfl, b1⟩
      obtain ⟨q0, q1, q2, f0, f1, f2, hB, hz⟩ := out_cells b1
      clear b1
      go_wp2
      refine bodyPost_ret ?_ rfl ⟨none, 0, rfl, ownRow_nil _ _ _, ((hB.setCell (by simp) _).setCell (by simp) _).setCell (by simp) _⟩
      simp [results, Try.results14, go_sem, q0, q1, q2]
  · have e2 : pwC W H x = pcC W H := by unfold pwC; rw [if_neg e]
    rw [e2]
    obtain ⟨q, hq⟩ : ∃ q, pcC W H = q := ⟨_, rfl⟩
    obtain ⟨u, hu⟩ : ∃ u, pcV W H = u := ⟨_, rfl⟩
    rw [hq, hu] at HC
    rw [hq] at e ⊢
    clear hq e2 hc hu
    go_enter Try.func14, Try.ntmps14
    go_wp2_with fail
    refine HC.out.mono ?_
    rintro e w1 ⟨rfl, b1⟩
    obtain ⟨q0, q1, q2, f0, f1, f2, hB, hz⟩ := out_cells b1
    clear b1
    go_wp2
    refine bodyPost_ret ?_ rfl ⟨none, 0, rfl, ownRow_nil _ _ _, ((hB.setCell (by simp) _).setCell (by simp) _).setCell (by simp) _⟩
    simp [results, Try.results14, go_sem, q0, q1, q2]
set_option maxHeartbeats 1000000 in
theorem impl_panelWith_ok (w : World) (W H x : Int) (N : Nat) (hc : pwC W H x = 0) (hN : (N : Int) = inner W H) :
    Calls Try.prog 14 #[.int .i64 W, .int .i64 H, .int .i64 x] w (PanelOut W H N (dgF N x) 0 w) := by
  obtain ⟨e, hb⟩ := pwC_ok hc
  obtain ⟨hW, hH, hm, hv⟩ := pc_zero e
  have HC := Lib.hid (impl_panelCount W H (w.alloc (.cells #[.int .i64 0, .int .i64 0, .slice none 0 0] 30)))
  have hx := in_yes hb
  have HA := Lib.hid (fun w' : World => impl_panelWith0 w' W H x N hW hH hN hx.1 (by omega))
  rw [e, hv] at HC
  obtain ⟨m, hmm⟩ : ∃ m, mnP W H = m := ⟨_, rfl⟩
  rw [hmm] at HC hx
  have hx0 : ¬ x < 0 := by omega
  have hx1 : ¬ m ≤ x := by omega
  clear hW hH hm hb e hc hmm hN hv
  go_enter Try.func14, Try.ntmps14
  go_wp2_with fail
  refine HC.out.mono ?_
  rintro e w1 ⟨rfl, b1⟩
  have hz1 : (w.alloc (.cells #[.int .i64 0, .int .i64 0, .slice none 0 0] 30)).heap.size = w.heap.size + 1 := by simp
  have HB1 := Lib.hid b1
  clear b1
  go_wp2_with fail
  refine (HA.out _).mono ?_
  rintro e w2 ⟨A, c, rfl, hr, b2⟩
  obtain ⟨q0, q1, q2, f0, f1, f2, hB, hz⟩ := out_cells (HB1.out.trans (b2.mono HB1.out.size))
  have HR := Lib.hid hr
  have hw1 := HB1.out.size
  clear hr b2
  go_wp2
  refine bodyPost_ret ?_ rfl ⟨A, c, rfl, (ownRow_setBox HR.out (by omega) _ _ _).mono (by omega), ((hB.setCell (by simp) _).setCell (by simp) _).setCell (by simp) _⟩
  simp [results, Try.results14, go_sem, q0, q1, q2]
end Go.Proofs.Ytjgclemfehfgiaa.Base
