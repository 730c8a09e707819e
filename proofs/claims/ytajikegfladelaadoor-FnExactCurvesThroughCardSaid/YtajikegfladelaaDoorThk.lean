/-
  The set of the curves at a point, with its keys.
-/
import Derived.Test.YtajikegfladelaaDoorCri
import Derived.Lib.SlKeysI
import Derived.Test.YtajikegfladelaaDoorIls
import Derived.Test.YtajikegfladelaaDoorShg
import Derived.Shelf.AbstractIn
import Derived.Test.YtajikegfladelaaDoorTb2
import Derived.Test.YtajikegfladelaaDoorCln
import Derived.BigQuiet
import Derived.Deep.QuietTactic
import Derived.Test.YtajikegfladelaaDoorPnt
import Derived.Test.YtajikegfladelaaDoorWlk
import Derived.Test.YtajikegfladelaaDoorCta
namespace Go.Proofs.YtajikegfladelaaDoor.Base
open Go Go.RowKit
set_option linter.unusedVariables false
set_option linter.unusedSimpArgs false

/-- block b is a map of at most n entries whose keys are the numbers of S -/
def SetKs (w : World) (b n : Nat) (S : Nat → Bool) : Prop :=
  ∃ D : DataW Nat, w.ownsMap Tryd.prog 2 (plainElem Tryd.prog 4) b n D ∧ ∀ x : Int, Maps.has D (.int .i64 x) = true ↔ ∃ s : Nat, x = s ∧ S s = true
section
variable {w w' : World} {b n : Nat} {S : Nat → Bool}
theorem SetKs.lt (h : SetKs w b n S) : b < w.heap.size := by
  obtain ⟨D, ⟨es, cl, hb, _⟩, _⟩ := h
  exact (Array.getElem?_eq_some_iff.1 hb).1
theorem SetKs.of_block (h : SetKs w b n S) (e : w'.heap[b]? = w.heap[b]?) : SetKs w' b n S := by
  obtain ⟨D, ⟨es, cl, hb, h1, h2, h3⟩, h4⟩ := h
  exact ⟨D, ⟨es, cl, e.trans hb, h1, h2, h3⟩, h4⟩
theorem SetKs.below {B : Nat} (h : SetKs w b n S) (hb : Below B w w') (hB : b < B) : SetKs w' b n S := h.of_block (hb.block b hB)
theorem SetKs.ext {X : List Nat} (h : SetKs w b n S) (he : Ext X w w') (hx : b ∉ X) : SetKs w' b n S := h.of_block (he.block b h.lt hx)
theorem SetKs.new (w : World) : SetKs (w.alloc (.map #[] 0)) w.heap.size 0 (fun _ => false) :=
  ⟨.map [], World.ownsMap_made w Tryd.prog 2 (plainElem Tryd.prog 4), fun x => ⟨fun h => by simp [Maps.has] at h, fun ⟨_, _, h⟩ => by cases h⟩⟩
theorem SetKs.put (h : SetKs w b n S) (z : Nat) (hz : (Lit.int .i64 z).wf = true) (hn : n < maxLen) :
    ∃ w', (Instr.mapUpdate 118 (.map (some b)) (.int .i64 z) (.bool true)).run Tryd.prog w = .ok () w' ∧ SetKs w' b (n + 1) (fun s => s == z || S s) ∧ w.grownBy w' (some b) := by
  obtain ⟨D, h1, h2⟩ := h
  obtain ⟨w', hrun, r1, r2⟩ := h1.update (t := 118) (Maps.int_keyed Tryd.underlying2) Tryd.underlying118 hn (Maps.keyOf_int_mk Tryd.underlying2 hz) (plainElem_bool Tryd.underlying4 true)
  refine ⟨w', hrun, ⟨_, r1, fun x => ?_⟩, r2⟩
  by_cases e : x = (z : Int)
  · subst e
    rw [Maps.has_put_same h1.isMap (by trivial)]
    exact ⟨fun _ => ⟨z, rfl, by simp⟩, fun _ => rfl⟩
  · have hne : Lit.int .i64 x ≠ Lit.int .i64 (z : Int) := fun e' => e (Lit.int.inj e').2
    rw [Maps.has_put_other hne, h2 x]
    constructor
    · rintro ⟨s, rfl, hs⟩
      exact ⟨s, rfl, by simp [hs]⟩
    · rintro ⟨s, rfl, hs⟩
      refine ⟨s, rfl, ?_⟩
      have : ¬ s = z := fun h => e (by rw [h])
      simpa [this] using hs
end
def AddedK (b n : Nat) (S : Nat → Bool) (z : Nat) (w : World) (e : Ending) (w' : World) : Prop := (∃ v, e = .returned v) ∧ SetKs w' b (n + 1) (fun s => s == z || S s) ∧ w.grownBy w' (some b)
theorem set_addK (w : World) (b n : Nat) (S : Nat → Bool) (h : SetKs w b n S) (z : Nat) (hz : (Lit.int .i64 z).wf = true) (hn : n < maxLen) :
    Calls Tryd.prog 133 #[.map (some b), .int .i64 z] w (AddedK b n S z w) := by
  obtain ⟨w1, hl, h1, h2⟩ := h.put z hz hn
  have H1 := Lib.hid h1
  have H2 := Lib.hid h2
  clear h1 h2
  go_enter Tryd.func133, Tryd.ntmps133
  go_wp2
  go_end0
  exact ⟨⟨_, rfl⟩, H1.out, H2.out⟩
/-- what through makes: a set of its own, with just these keys -/
def ThroughK (z0 z1 z2 z3 : Nat) (w : World) (e : Ending) (w' : World) : Prop :=
  ∃ mb, e = .returned (.map (some mb)) ∧ w.heap.size ≤ mb ∧ SetKs w' mb 4 (setK z0 z1 z2 z3 4) ∧ Below w.heap.size w w'
set_option maxRecDepth 100000 in
set_option maxHeartbeats 4000000 in
theorem impl_throughK (w : World) (W H x y : Int) (A Au : Option Addr) (n c N cu cv M z0 z1 z2 z3 : Nat) (g : Nat → Int) (hT : Cel w 2 [.int .i64 (-1), .int .i64 (-1), .int .i64 1, .int .i64 (-1), .int .i64 (-1), .int .i64 1, .int .i64 1, .int .i64 1]) (ho : w.rowIs cv 2 M (fun s => .int .i64 (g s))) (hH : sideB H = true) (x1 : 1 ≤ x) (x2 : x ≤ 16) (y1 : 1 ≤ y) (y2 : y ≤ 16)
    (hs : SegsIn H M x y) (hM : M ≤ 256) (h0 : me0 H g x y = (z0 : Int)) (h1 : me1 H g x y = (z1 : Int)) (h2 : me2 H g x y = (z2 : Int)) (h3 : me3 H g x y = (z3 : Int)) (b0 : z0 ≤ 256) (b1 : z1 ≤ 256) (b2 : z2 ≤ 256) (b3 : z3 ≤ 256) :
    Calls Tryd.prog 85 #[.agg #[.int .i64 W, .int .i64 H, .slice A n c, .slice Au N cu, .slice (some ⟨cv, 0, none⟩) M M], .agg #[.int .i64 x, .int .i64 y]] w (ThroughK z0 z1 z2 z3 w) := by
  have HTD := Lib.hid hT
  have HO := Lib.hid ho
  have HSI := Lib.hid hs
  have hvl := ho.lt
  obtain ⟨⟨r0, r0'⟩, ⟨r1, r1'⟩, ⟨r2, r2'⟩, ⟨r3, r3'⟩⟩ := hs
  obtain ⟨s0, e0⟩ : ∃ s0 : Nat, segOf H x y (-1) (-1) = s0 := ⟨(segOf H x y (-1) (-1)).toNat, by omega⟩
  obtain ⟨s1, e1⟩ : ∃ s1 : Nat, segOf H x y 1 (-1) = s1 := ⟨(segOf H x y 1 (-1)).toNat, by omega⟩
  obtain ⟨s2, e2⟩ : ∃ s2 : Nat, segOf H x y (-1) 1 = s2 := ⟨(segOf H x y (-1) 1).toNat, by omega⟩
  obtain ⟨s3, e3⟩ : ∃ s3 : Nat, segOf H x y 1 1 = s3 := ⟨(segOf H x y 1 1).toNat, by omega⟩
  have g0 : g s0 = (z0 : Int) := by rw [← h0]; unfold me0; rw [e0]; rfl
  have g1 : g s1 = (z1 : Int) := by rw [← h1]; unfold me1; rw [e1]; rfl
  have g2 : g s2 = (z2 : Int) := by rw [← h2]; unfold me2; rw [e2]; rfl
  have g3 : g s3 = (z3 : Int) := by rw [← h3]; unfold me3; rw [e3]; rfl
  have hsq : sq4 H x y = .agg #[.int .i64 s0, .int .i64 s1, .int .i64 s2, .int .i64 s3] := by unfold sq4; rw [e0, e1, e2, e3]
  rw [e0] at r0'
  rw [e1] at r1'
  rw [e2] at r2'
  rw [e3] at r3'
  have HG0 := Lib.hid g0
  have HG1 := Lib.hid g1
  have HG2 := Lib.hid g2
  have HG3 := Lib.hid g3
  have HSQ := Lib.hid hsq
  have k0 : s0 < M := by omega
  have k1 : s1 < M := by omega
  have k2 : s2 < M := by omega
  have k3 : s3 < M := by omega
  clear hT ho h0 h1 h2 h3 e0 e1 e2 e3 g0 g1 g2 g3 r0 r1 r2 r3 r0' r1' r2' r3' hsq
  have hmm := @run_makeMap Tryd.prog
  go_enter Tryd.func85, Tryd.ntmps85
  go_wp2
  clear hmm
  have A1 := (Below.refl w.heap.size w).alloc (Nat.le_refl _) (.cells #[.int .i64 W, .int .i64 H, .slice A n c, .slice Au N cu, .slice (some ⟨cv, 0, none⟩) M M] 114)
  have A2 := A1.alloc A1.size (.cells #[.int .i64 x, .int .i64 y] 30)
  have A3 := A2.alloc A2.size (.map #[] 0)
  have HB := Lib.hid A3
  have HS0 := Lib.hid (((At.new w #[.int .i64 W, .int .i64 H, .slice A n c, .slice Au N cu, .slice (some ⟨cv, 0, none⟩) M M] 114).below ((Below.refl _ _).alloc (Nat.le_refl _) (.cells #[.int .i64 x, .int .i64 y] 30)) (by simp)).below ((Below.refl _ _).alloc (Nat.le_refl _) (.map #[] 0)) (by first | exact Nat.le_refl _ | (simp; done) | (simp; omega) | omega))
  have HS1 := Lib.hid ((show At ((w.alloc (.cells #[.int .i64 W, .int .i64 H, .slice A n c, .slice Au N cu, .slice (some ⟨cv, 0, none⟩) M M] 114)).alloc (.cells #[.int .i64 x, .int .i64 y] 30)) (w.heap.size + 1) #[.int .i64 x, .int .i64 y] 30 from At.newAt (by simp)).below ((Below.refl _ _).alloc (Nat.le_refl _) (.map #[] 0)) (by simp))
  have HM0 := Lib.hid (SetKs.new ((w.alloc (.cells #[.int .i64 W, .int .i64 H, .slice A n c, .slice Au N cu, .slice (some ⟨cv, 0, none⟩) M M] 114)).alloc (.cells #[.int .i64 x, .int .i64 y] 30)))
  have hmz : ((w.alloc (.cells #[.int .i64 W, .int .i64 H, .slice A n c, .slice Au N cu, .slice (some ⟨cv, 0, none⟩) M M] 114)).alloc (.cells #[.int .i64 x, .int .i64 y] 30)).heap.size = w.heap.size + 1 + 1 := by simp
  have hwz : (((w.alloc (.cells #[.int .i64 W, .int .i64 H, .slice A n c, .slice Au N cu, .slice (some ⟨cv, 0, none⟩) M M] 114)).alloc (.cells #[.int .i64 x, .int .i64 y] 30)).alloc (.map #[] 0)).heap.size = w.heap.size + 1 + 1 + 1 := by simp
  rw [hmz] at HM0
  clear A1 A2 A3 hmz
  generalize ((w.alloc (.cells #[.int .i64 W, .int .i64 H, .slice A n c, .slice Au N cu, .slice (some ⟨cv, 0, none⟩) M M] 114)).alloc (.cells #[.int .i64 x, .int .i64 y] 30)).alloc (.map #[] 0) = w4 at HB HS0 HS1 HM0 hwz ⊢
  have c0 : w4.cell? ⟨w.heap.size, 0, none⟩ = some (.int .i64 W) := HS0.out.cellv (i := 0) rfl
  have c1 : w4.cell? ⟨w.heap.size, 1, none⟩ = some (.int .i64 H) := HS0.out.cellv (i := 1) rfl
  have c2 : w4.cell? ⟨w.heap.size, 2, none⟩ = some (.slice A n c) := HS0.out.cellv (i := 2) rfl
  have d0 : w4.cell? ⟨w.heap.size + 1, 0, none⟩ = some (.int .i64 x) := HS1.out.cellv (i := 0) rfl
  have d1 : w4.cell? ⟨w.heap.size + 1, 1, none⟩ = some (.int .i64 y) := HS1.out.cellv (i := 1) rfl
  have l0 := HS0.out.lt
  have l1 := HS1.out.lt
  refine wp_region_stab [some 9, some 10, some 11, some 12, some 13, some 14] [9, 10, 11, 12, 13, 14] [] []
    [(fun a lo hi u w' => u = .pointer (some ⟨w.heap.size, 0, none⟩)), (fun a lo hi u w' => u = .agg #[.int .i64 W, .int .i64 H, .slice A n c]), (fun a lo hi u w' => u = .agg #[.int .i64 W, .int .i64 H]),
      (fun a lo hi u w' => u = .agg #[.int .i64 x, .int .i64 y]), (fun a lo hi u w' => u = sq4 H x y), (fun a lo hi u w' => u = .int .i64 0)]
    [[], [0], [1], [], [2, 3], []] [[], [], [], [], [], []] (by kernel_rfl) (by kernel_rfl) (fun k hk => absurd hk List.not_mem_nil) ?gS ?gO ?gR
  case gS => exact ⟨fun _ _ _ _ _ _ h _ => h, fun _ _ _ _ _ _ h _ => h, fun _ _ _ _ _ _ h _ => h, fun _ _ _ _ _ _ h _ => h, fun _ _ _ _ _ _ h _ => h, fun _ _ _ _ _ _ h _ => h, trivial⟩
  case gO =>
    refine ⟨?o0, ?o1, ?o2, ?o3, ?o4, ?o5, trivial⟩
    case o0 =>
      intro vs iv wk hx hf
      have ezz : w.heap.size < wk.heap.size := Nat.lt_of_lt_of_le l0 hx.size
      intro K' hK
      simp only [setA, setT, List.setIfInBounds_toArray, List.set_cons_zero, List.set_cons_succ]
      go_simp
      refine hK.out _ (.pointer (some ⟨w.heap.size, 0, none⟩)) _ ?_ ?_
      · simp only [setA, setT, List.setIfInBounds_toArray, List.set_cons_zero, List.set_cons_succ, Act.put]
      · exact ⟨Ext.refl _ _, rfl⟩
    case o1 =>
      intro vs iv wk hx hf
      obtain ⟨⟨hq, -⟩, -⟩ := hf
      have hq : vs 9 = .pointer (some ⟨w.heap.size, 0, none⟩) := hq
      have ezz : w.heap.size < wk.heap.size := Nat.lt_of_lt_of_le l0 hx.size
      have e0 : wk.cell? ⟨w.heap.size, 0, none⟩ = some (.int .i64 W) := hx.cell c0 (by simp)
      have e1 : wk.cell? ⟨w.heap.size, 1, none⟩ = some (.int .i64 H) := hx.cell c1 (by simp)
      have e2 : wk.cell? ⟨w.heap.size, 2, none⟩ = some (.slice A n c) := hx.cell c2 (by simp)
      intro K' hK
      simp only [setA, setT, List.setIfInBounds_toArray, List.set_cons_zero, List.set_cons_succ]
      go_simp
      refine hK.out _ (.agg #[.int .i64 W, .int .i64 H, .slice A n c]) _ ?_ ?_
      · simp only [setA, setT, List.setIfInBounds_toArray, List.set_cons_zero, List.set_cons_succ, Act.put, hq]
      · exact ⟨Ext.refl _ _, rfl⟩
    case o2 =>
      intro vs iv wk hx hf
      obtain ⟨⟨hq, -⟩, -⟩ := hf
      have hq : vs 10 = .agg #[.int .i64 W, .int .i64 H, .slice A n c] := hq
      intro K' hK
      simp only [setA, setT, List.setIfInBounds_toArray, List.set_cons_zero, List.set_cons_succ]
      go_simp
      refine (sizeOf_any _ W H A n c).mono ?_
      rintro e w2 ⟨rfl, b2⟩
      dsimp only
      refine hK.out _ (.agg #[.int .i64 W, .int .i64 H]) _ ?_ ?_
      · simp only [setA, setT, List.setIfInBounds_toArray, List.set_cons_zero, List.set_cons_succ, Act.put, hq]
      · exact ⟨Ext.of_below b2, rfl⟩
    case o3 =>
      intro vs iv wk hx hf
      have ezz : w.heap.size + 1 < wk.heap.size := Nat.lt_of_lt_of_le l1 hx.size
      have e0 : wk.cell? ⟨w.heap.size + 1, 0, none⟩ = some (.int .i64 x) := hx.cell d0 (by simp)
      have e1 : wk.cell? ⟨w.heap.size + 1, 1, none⟩ = some (.int .i64 y) := hx.cell d1 (by simp)
      intro K' hK
      simp only [setA, setT, List.setIfInBounds_toArray, List.set_cons_zero, List.set_cons_succ]
      go_simp
      refine hK.out _ (.agg #[.int .i64 x, .int .i64 y]) _ ?_ ?_
      · simp only [setA, setT, List.setIfInBounds_toArray, List.set_cons_zero, List.set_cons_succ, Act.put]
      · exact ⟨Ext.refl _ _, rfl⟩
    case o4 =>
      intro vs iv wk hx hf
      obtain ⟨⟨hq1, -⟩, ⟨hq3, -⟩, -⟩ := hf
      have hq1 : vs 11 = .agg #[.int .i64 W, .int .i64 H] := hq1
      have hq3 : vs 12 = .agg #[.int .i64 x, .int .i64 y] := hq3
      have hTk : Cel wk 2 [.int .i64 (-1), .int .i64 (-1), .int .i64 1, .int .i64 (-1), .int .i64 (-1), .int .i64 1, .int .i64 1, .int .i64 1] := HTD.out.below (HB.out.trans ((((Ext.drew _).trans hx).nil).mono HB.out.size)) HTD.out.1
      intro K' hK
      simp only [setA, setT, List.setIfInBounds_toArray, List.set_cons_zero, List.set_cons_succ]
      go_simp
      refine (impl_segmentsAt _ W H x y M hTk hH x1 x2 y1 y2 HSI.out hM).mono ?_
      rintro e w2 ⟨rfl, b2⟩
      dsimp only
      refine hK.out _ (sq4 H x y) _ ?_ ?_
      · simp only [setA, setT, List.setIfInBounds_toArray, List.set_cons_zero, List.set_cons_succ, Act.put, hq1, hq3]
      · exact ⟨Ext.of_below b2, rfl⟩
    case o5 =>
      intro vs iv wk hx hf
      intro K' hK
      simp only [setA, setT, List.setIfInBounds_toArray, List.set_cons_zero, List.set_cons_succ]
      go_simp
      refine hK.out _ (.int .i64 0) _ ?_ ?_
      · simp only [setA, setT, List.setIfInBounds_toArray, List.set_cons_zero, List.set_cons_succ, Act.put]
      · exact ⟨Ext.refl _ _, rfl⟩
  case gR =>
    intro vs iv w5 hx hap hf
    obtain ⟨-, -, -, -, ⟨hv4, -⟩, ⟨hv5, -⟩, -⟩ := hf
    have hv4 : vs 13 = sq4 H x y := hv4
    have hv5 : vs 14 = .int .i64 0 := hv5
    rw [HSQ.out] at hv4
    have hx5 := ((Ext.drew (X := []) w4).trans hx).nil
    have HB5 := Lib.hid (HB.out.trans (hx5.mono HB.out.size))
    have HS5 := Lib.hid (HS0.out.below hx5 l0)
    have HM5 := Lib.hid (HM0.out.below hx5 (by omega))
    have HO5 := Lib.hid (rowIs_below HO.out HB5.out hvl)
    have hwz5 := hx5.size
    simp only [setA, setT, List.setIfInBounds_toArray, List.set_cons_zero, List.set_cons_succ, hv4, hv5]
    generalize vs 9 = u9
    generalize vs 10 = u10
    generalize vs 11 = u11
    generalize vs 12 = u12
    clear hx hap hv4 hv5 hx5 c0 c1 c2 d0 d1 HB HS0 HS1 HM0
    go_wp2
    go_loopw [14] (fun kv wr => ∃ k : Nat, k ≤ 4 ∧ kv = .int .i64 k ∧ Hid (SetKs wr (w.heap.size + 1 + 1) k (setK z0 z1 z2 z3 k)) ∧ Hid (Ext [w.heap.size + 1 + 1] w5 wr)) (fun kv _ => 9 - (RowKit.intOf kv).toNat)
    case atStart => exact ⟨0, by omega, rfl, HM5, Lib.hid (Ext.refl _ _)⟩
    case round =>
      obtain ⟨k, hk, rfl, HS, HE⟩ := hrel
      have HX := Lib.hid (HS5.out.ext HE.out (by simp; omega))
      have HC := Lib.hid (rowIs_ext HO5.out HE.out (by simp; omega))
      have x4 : wr.cell? ⟨w.heap.size, 4, none⟩ = some (.slice (some ⟨cv, 0, none⟩) M M) := HX.out.cellv (i := 4) rfl
      have lx := HX.out.lt
      have lc := HC.out.lt
      rcases (show k = 0 ∨ k = 1 ∨ k = 2 ∨ k = 3 ∨ k = 4 by omega) with rfl | rfl | rfl | rfl | rfl
      · have hai := arr_at0
        have cc := HC.out.cell k0
        rw [HG0.out] at cc
        go_wp2_with fail
        refine (set_addK wr (w.heap.size + 1 + 1) 0 _ HS.out z0 (WalkArith.wf_i64 (by omega)) (by unfold maxLen; omega)).mono ?_
        rintro e w6 ⟨⟨v', rfl⟩, hS2, hg2⟩
        have HS2 := Lib.hid hS2
        have HE2 := Lib.hid (HE.out.trans (ext_grown hg2 (by simp)))
        clear hS2 hg2 cc x4 hai
        go_wp2
        go_roundw
        case rel => exact ⟨1, by omega, by go_num, HS2, HE2⟩
        case measure => simp [RowKit.intOf]
      · have hai := arr_at1
        have cc := HC.out.cell k1
        rw [HG1.out] at cc
        go_wp2_with fail
        refine (set_addK wr (w.heap.size + 1 + 1) 1 _ HS.out z1 (WalkArith.wf_i64 (by omega)) (by unfold maxLen; omega)).mono ?_
        rintro e w6 ⟨⟨v', rfl⟩, hS2, hg2⟩
        have HS2 := Lib.hid hS2
        have HE2 := Lib.hid (HE.out.trans (ext_grown hg2 (by simp)))
        clear hS2 hg2 cc x4 hai
        go_wp2
        go_roundw
        case rel => exact ⟨2, by omega, by go_num, HS2, HE2⟩
        case measure => simp [RowKit.intOf]
      · have hai := arr_at2
        have cc := HC.out.cell k2
        rw [HG2.out] at cc
        go_wp2_with fail
        refine (set_addK wr (w.heap.size + 1 + 1) 2 _ HS.out z2 (WalkArith.wf_i64 (by omega)) (by unfold maxLen; omega)).mono ?_
        rintro e w6 ⟨⟨v', rfl⟩, hS2, hg2⟩
        have HS2 := Lib.hid hS2
        have HE2 := Lib.hid (HE.out.trans (ext_grown hg2 (by simp)))
        clear hS2 hg2 cc x4 hai
        go_wp2
        go_roundw
        case rel => exact ⟨3, by omega, by go_num, HS2, HE2⟩
        case measure => simp [RowKit.intOf]
      · have hai := arr_at3
        have cc := HC.out.cell k3
        rw [HG3.out] at cc
        go_wp2_with fail
        refine (set_addK wr (w.heap.size + 1 + 1) 3 _ HS.out z3 (WalkArith.wf_i64 (by omega)) (by unfold maxLen; omega)).mono ?_
        rintro e w6 ⟨⟨v', rfl⟩, hS2, hg2⟩
        have HS2 := Lib.hid hS2
        have HE2 := Lib.hid (HE.out.trans (ext_grown hg2 (by simp)))
        clear hS2 hg2 cc x4 hai
        go_wp2
        go_roundw
        case rel => exact ⟨4, by omega, by go_num, HS2, HE2⟩
        case measure => simp [RowKit.intOf]
      · go_wp2
        go_ret
        exact ⟨_, rfl, by omega, HS.out, HB5.out.trans (HE.out.below (fun b hb => by simp at hb; omega) (by omega))⟩
end Go.Proofs.YtajikegfladelaaDoor.Base

namespace Go.Proofs.YtajikegfladelaaDoor.Base
open Go Go.RowKit
set_option linter.unusedVariables false
set_option linter.unusedSimpArgs false

def mnI (a b : Int) : Int := if a < b then a else b
def mxI (a b : Int) : Int := if b < a then a else b
theorem spec_min (a b : Int) (w : World) : Calls Tryd.prog 81 #[.int .i64 a, .int .i64 b] w fun e w' => e = .returned (.int .i64 (mnI a b)) ∧ w = w' := by
  unfold mnI
  by_cases h : a < b
  · rw [if_pos h]
    go_enter Tryd.func81, Tryd.ntmps81
    go_wp2
    go_ret
    exact ⟨rfl, rfl⟩
  · rw [if_neg h]
    go_enter Tryd.func81, Tryd.ntmps81
    go_wp2
    go_ret
    exact ⟨rfl, rfl⟩
theorem spec_max (a b : Int) (w : World) : Calls Tryd.prog 82 #[.int .i64 a, .int .i64 b] w fun e w' => e = .returned (.int .i64 (mxI a b)) ∧ w = w' := by
  unfold mxI
  by_cases h : b < a
  · rw [if_pos h]
    go_enter Tryd.func82, Tryd.ntmps82
    go_wp2
    go_ret
    exact ⟨rfl, rfl⟩
  · rw [if_neg h]
    go_enter Tryd.func82, Tryd.ntmps82
    go_wp2
    go_ret
    exact ⟨rfl, rfl⟩
/-- the least and the greatest of four curves -/
def lo4 (a b c d : Int) : Int := mnI (mnI a d) (mnI b c)
def hi4 (a b c d : Int) : Int := mxI (mxI a d) (mxI b c)
def two (a b : Int) : List Int := if a = b then [a] else [a, b]
/-- the curves through an inner point, ascending -/
noncomputable def thL (W H : Int) (f : Nat → Int) (x y : Int) : List Int :=
  two (lo4 (me0 H (trE W H f).of x y) (me1 H (trE W H f).of x y) (me2 H (trE W H f).of x y) (me3 H (trE W H f).of x y)) (hi4 (me0 H (trE W H f).of x y) (me1 H (trE W H f).of x y) (me2 H (trE W H f).of x y) (me3 H (trE W H f).of x y))
noncomputable def thN (W H : Int) (n : Nat) (f : Nat → Int) (x y : Int) : Nat := if codeP W H n f x y = 0 then (thL W H f x y).length else 0
noncomputable def thF (W H : Int) (f : Nat → Int) (x y : Int) (i : Nat) : Int := (thL W H f x y).getD i 0
theorem two_len (a b : Int) : (two a b).length ≤ 2 ∧ 1 ≤ (two a b).length := by unfold two; split <;> simp
theorem thN_le (W H : Int) (n : Nat) (f : Nat → Int) (x y : Int) : thN W H n f x y ≤ 2 := by
  unfold thN
  split
  · exact (two_len _ _).1
  · omega
/-- four curves that are equal in pairs -/
def Pairs4 (a b c d : Int) : Prop := (a = d ∧ b = c) ∨ (a = c ∧ b = d) ∨ (a = b ∧ c = d)
theorem two_mem {z0 z1 z2 z3 : Nat} (h : Pairs4 z0 z1 z2 z3) (x : Int) : x ∈ two (lo4 z0 z1 z2 z3) (hi4 z0 z1 z2 z3) ↔ ∃ s : Nat, x = s ∧ setK z0 z1 z2 z3 4 s = true := by
  have hS : ∀ s : Nat, setK z0 z1 z2 z3 4 s = true ↔ (s = z3 ∨ s = z2 ∨ s = z1 ∨ s = z0) := fun s => by
    simp only [setK, Bool.or_eq_true, beq_iff_eq, Bool.false_eq_true, or_false]
  have h1 : x ∈ two (lo4 z0 z1 z2 z3) (hi4 z0 z1 z2 z3) ↔ (x = lo4 z0 z1 z2 z3 ∨ x = hi4 z0 z1 z2 z3) := by
    unfold two
    split
    · next e => rw [← e]; simp
    · simp
  rw [h1]
  unfold Pairs4 at h
  constructor
  · intro hx
    have hz : ∃ s : Nat, x = s ∧ (s = z3 ∨ s = z2 ∨ s = z1 ∨ s = z0) := by
      have hp : x = z0 ∨ x = z1 ∨ x = z2 ∨ x = z3 := by
        unfold lo4 hi4 mnI mxI at hx
        rcases hx with hx | hx <;> (repeat' split at hx) <;> omega
      rcases hp with e | e | e | e
      · exact ⟨z0, e, by omega⟩
      · exact ⟨z1, e, by omega⟩
      · exact ⟨z2, e, by omega⟩
      · exact ⟨z3, e, by omega⟩
    obtain ⟨s, e, hs⟩ := hz
    exact ⟨s, e, (hS s).2 hs⟩
  · rintro ⟨s, rfl, hs⟩
    have hs := (hS s).1 hs
    unfold lo4 hi4 mnI mxI
    (repeat' split) <;> omega
theorem two_sorted {z0 z1 z2 z3 : Nat} : (two (lo4 z0 z1 z2 z3) (hi4 z0 z1 z2 z3)).Pairwise (fun a b => a < b) := by
  unfold two
  split
  · exact List.pairwise_singleton _ _
  · next h =>
    refine List.Pairwise.cons (fun b hb => ?_) (List.pairwise_singleton _ _)
    simp at hb
    subst hb
    unfold lo4 hi4 mnI mxI at h ⊢
    (repeat' split) <;> (repeat' split at h) <;> omega
/-- the four curves at an inner point -/
theorem pt_pairs {W H : Int} {n : Nat} {f : Nat → Int} {x y : Int} (hv : validB W H n f = true) (hp : hasB W H x y = true) (he : edgeB W H x y = false) :
    ∃ z0 z1 z2 z3 : Nat, me0 H (trE W H f).of x y = z0 ∧ me1 H (trE W H f).of x y = z1 ∧ me2 H (trE W H f).of x y = z2 ∧ me3 H (trE W H f).of x y = z3 ∧ Pairs4 z0 z1 z2 z3 ∧ z0 ≤ 256 ∧ z1 ≤ 256 ∧ z2 ≤ 256 ∧ z3 ≤ 256 := by
  obtain ⟨hW, hH, hn, -⟩ := validB_yes hv
  obtain ⟨m0, m1⟩ := segs_bd hW hH
  have hcn := cnN_le hv
  obtain ⟨u1, u2, u3, u4, u5⟩ := has_yes hp
  have u6 : ¬ (x = 0 ∨ y = 0 ∨ x = 2 * W ∨ y = 2 * H) := of_decide_eq_false he
  have hc : Closed W H n f (trE W H f).of := trs_closed hv (4 * W * H).toNat (by omega)
  obtain ⟨⟨r0, r0'⟩, ⟨r1, r1'⟩, ⟨r2, r2'⟩, ⟨r3, r3'⟩⟩ := segs_in hv (x := x) (y := y) (by omega) (by omega) (by omega) (by omega) u5
  have q0 := meet hc (wk_mk hv (ex := -1) (ey := -1) rfl rfl hp (has_mk (by omega) (by omega) (by omega) (by omega) (by omega)))
  have q1 := meet hc (wk_mk hv (ex := 1) (ey := -1) rfl rfl hp (has_mk (by omega) (by omega) (by omega) (by omega) (by omega)))
  have q2 := meet hc (wk_mk hv (ex := -1) (ey := 1) rfl rfl hp (has_mk (by omega) (by omega) (by omega) (by omega) (by omega)))
  generalize tkOf W H f x y = t at q0 q1 q2
  have rng : ∀ s : Int, 0 ≤ s → s < ((4 * W * H).toNat : Int) → 0 ≤ (trE W H f).of s.toNat ∧ (trE W H f).of s.toNat < cnN W H f := fun s h1 h2 =>
    ⟨trs_done hv (4 * W * H).toNat s.toNat (by omega) (by omega), (trs_of_ge W H f (4 * W * H).toNat s.toNat).2.1⟩
  have e0 : 0 ≤ me0 H (trE W H f).of x y ∧ me0 H (trE W H f).of x y < cnN W H f := rng _ r0 r0'
  have e1 : 0 ≤ me1 H (trE W H f).of x y ∧ me1 H (trE W H f).of x y < cnN W H f := rng _ r1 r1'
  have e2 : 0 ≤ me2 H (trE W H f).of x y ∧ me2 H (trE W H f).of x y < cnN W H f := rng _ r2 r2'
  have e3 : 0 ≤ me3 H (trE W H f).of x y ∧ me3 H (trE W H f).of x y < cnN W H f := rng _ r3 r3'
  have hpr : Pairs4 (me0 H (trE W H f).of x y) (me1 H (trE W H f).of x y) (me2 H (trE W H f).of x y) (me3 H (trE W H f).of x y) := by
    unfold Pairs4 me0 me1 me2 me3
    by_cases t1 : t = 1
    · subst t1
      simp only [if_true, show ¬ ((1 : Int) = 2) by decide, if_false, Int.neg_neg] at q0 q1
      exact .inr (.inl ⟨q0, q1⟩)
    · by_cases t2 : t = 2
      · subst t2
        simp only [if_true, show ¬ ((2 : Int) = 1) by decide, if_false, Int.neg_neg] at q0 q2
        exact .inr (.inr ⟨q0, q2⟩)
      · simp only [if_neg t1, if_neg t2, Int.neg_neg] at q0 q1
        exact .inl ⟨q0, q1⟩
  refine ⟨(me0 H (trE W H f).of x y).toNat, (me1 H (trE W H f).of x y).toNat, (me2 H (trE W H f).of x y).toNat, (me3 H (trE W H f).of x y).toNat, by omega, by omega, by omega, by omega, ?_, by omega, by omega, by omega, by omega⟩
  rw [show (((me0 H (trE W H f).of x y).toNat : Nat) : Int) = me0 H (trE W H f).of x y by omega, show (((me1 H (trE W H f).of x y).toNat : Nat) : Int) = me1 H (trE W H f).of x y by omega, show (((me2 H (trE W H f).of x y).toNat : Nat) : Int) = me2 H (trE W H f).of x y by omega, show (((me3 H (trE W H f).of x y).toNat : Nat) : Int) = me3 H (trE W H f).of x y by omega]
  exact hpr
theorem code_in {W H : Int} {n : Nat} {f : Nat → Int} {x y : Int} (h : codeP W H n f x y = 0) : validB W H n f = true ∧ hasB W H x y = true ∧ edgeB W H x y = false := by
  unfold codeP at h
  cases h1 : validB W H n f
  · simp [h1] at h
  · cases h2 : hasB W H x y
    · simp [h1, h2] at h
    · cases h3 : edgeB W H x y
      · exact ⟨rfl, rfl, rfl⟩
      · simp [h1, h2, h3] at h
end Go.Proofs.YtajikegfladelaaDoor.Base

namespace Go.Proofs.YtajikegfladelaaDoor.Base
open Go Go.RowKit Go.Maps Go.Sort Go.Shelf
set_option linter.unusedVariables false
set_option linter.unusedSimpArgs false

/-- slices.Sort's two contracts here -/
theorem sortsA (m : Nat) : AnyZI.SortsIn Tryd.prog Tryd.sortedA_ren Fence.wide m :=
  ⟨fun blk off cap ss W hH hblk hsz => callsIn_wide.2 (AnyM.slices_Sort_int Tryd.sortA blk off cap ss W hH hblk hsz),
   fun p cap W => callsIn_wide.2 (AnyM.slices_Sort_int_none Tryd.sortA p cap W)⟩
/-- the list, in memory of its own -/
def SortedOut (l : List Int) (w : World) (e : Ending) (w' : World) : Prop :=
  ∃ A c, e = .returned (.slice A l.length c) ∧ w'.ownsRow w.heap.size 2 1 (.slice A l.length c) l.length (ivs l) ∧ Below w.heap.size w w'
set_option maxHeartbeats 1000000 in
theorem impl_sortedSet (w : World) (mb : Nat) (S : Nat → Bool) (l : List Int) (h : SetKs w mb 4 S) (hl : ∀ x, x ∈ l ↔ ∃ s : Nat, x = s ∧ S s = true) (hp : l.Pairwise (fun a b => a < b)) (hll : l.length ≤ 4) :
    Calls Tryd.prog 86 #[.map (some mb)] w (SortedOut l w) := by
  obtain ⟨D0, hown, hk⟩ := h
  have hperm : l.Perm (intKeys D0) := by
    have hc : CollectedI D0 (fun _ => false) l := ⟨hp.imp (fun {a b} h e => by subst e; exact absurd h (Int.lt_irrefl _)), fun x => by rw [hl x, hk x]; simp⟩
    exact hc.perm hown (Maps.int_keyed Tryd.underlying2) Tryd.underlying2 (fun _ => rfl)
  have hsz : Maps.size D0 ≤ 4 := by
    have h2 : Maps.size D0 ≤ (intKeys D0).length := by cases D0 <;> simp [Maps.size, intKeys]
    have hlen := hperm.length_eq
    omega
  refine (callsIn_wide (n := 6)).1 ?_
  have hbl := hown.lt
  have hseq : SeqGives Fence.wide 2 Tryd.prog 158 #[.pointer (some ⟨w.heap.size, 0, none⟩)] encZ (fun ss => ss.Perm (intKeys D0)) (Maps.size D0) (w.alloc (.cells #[.map (some mb)] 118)) :=
    AnyZI.keys_gives (ρ := Tryd.keysA_ren) { Tryd.keysA with } Fence.wide _ trivial rfl (by omega) w.heap.size mb 4 D0 _ (by simp) (by simp) (by
      obtain ⟨es, clock, hb, Ft, hs, hD⟩ := hown
      exact ⟨es, clock, (Below.heap_alloc _ _ mb hbl).trans hb, Ft, hs, hD⟩)
  have cK : ∀ m W, CallsIn Fence.wide 5 Tryd.prog 136 #[.map m] W fun e w' => e = .returned (.func (.func 158) #[] #[.pointer (some ⟨W.heap.size, 0, none⟩)]) ∧ w' = W.alloc (.cells #[.map m] 118) := fun m W => AnyZI.keys_in Tryd.keysA Fence.wide 5 trivial rfl m W
  have cS := AnyZI.sorted_in Tryd.sortedA Fence.wide 5 trivial trivial trivial trivial rfl (by omega) (sortsA _) (enters_of Tryd.func157 (by kernel_rfl) rfl) 158 #[.pointer (some ⟨w.heap.size, 0, none⟩)] trivial (enters_of Tryd.func158 (by kernel_rfl) rfl) _ _ (by unfold maxLen; omega) (by omega) _ hseq
  change CallsIn _ _ Tryd.prog 135 _ _ _ at cS
  have hfK : Fence.wide.fn 136 := trivial
  have hfS : Fence.wide.fn 135 := trivial
  refine callsIn_of_wp Tryd.func86 rfl trivial ?_ rfl
  simp only [Tryd.ntmps86, List.size_toArray, List.length_cons, List.length_nil, Nat.reduceAdd, Nat.reduceSub, Array.replicate_succ, Array.replicate_zero, List.push_toArray, List.append_toArray, List.nil_append, List.cons_append]
  gi_wp2_with (first
    | (gi_at_call 136; refine (cK _ _).mono ?_; rintro e w' ⟨rfl, rfl⟩)
    | (gi_at_call 135; refine cS.mono ?_; rintro e w' ⟨v, ss, rfl, hS, hrow, hnil, hb⟩))
  have hms : ss.mergeSort (fun x y => decide (x ≤ y)) = l := by
    have h1 := mergeSort_of_perm_i (hS.trans hperm.symm)
    have h2 : l.mergeSort leI = l := by
      refine List.mergeSort_of_pairwise (hp.imp (fun {a b} h => ?_))
      simp only [leI, decide_eq_true_eq]
      omega
    exact h1.trans h2
  have hlen : ss.length = l.length := (hS.trans hperm.symm).length_eq
  rw [hms, hlen] at hrow
  obtain ⟨A, c, rfl⟩ := owns_slice hrow
  go_ret
  exact ⟨A, c, rfl, owns_base hrow (by simp), ((Below.refl _ w).alloc (Nat.le_refl _) _).trans (hb.mono (by simp))⟩
end Go.Proofs.YtajikegfladelaaDoor.Base

namespace Go.Proofs.YtajikegfladelaaDoor.Base
open Go Go.RowKit
set_option linter.unusedVariables false
set_option linter.unusedSimpArgs false

theorem two_wf {a b : Int} (ha : (Lit.int .i64 a).wf = true) (hb : (Lit.int .i64 b).wf = true) : ∀ i, i < (two a b).length → (Lit.int .i64 ((two a b).getD i 0)).wf = true := by
  intro i hi
  unfold two at hi ⊢
  split
  · next h =>
    rw [if_pos h] at hi
    match i, hi with
    | 0, _ => exact ha
    | i + 1, hi => exact absurd hi (by show ¬ i + 1 < 1; omega)
  · next h =>
    rw [if_neg h] at hi
    match i, hi with
    | 0, _ => exact ha
    | 1, _ => exact hb
    | i + 2, hi => exact absurd hi (by show ¬ i + 2 < 2; omega)
theorem ivs_getD (l : List Int) (i : Nat) (h : i < l.length) : (ivs l)[i]? = some (.int .i64 (l.getD i 0)) := by
  simp [ivs, List.getD_eq_getElem?_getD, List.getElem?_eq_getElem h]
theorem row_new (w : World) (T : TypeId) (l : List Int) : (w.alloc (.cells (ivs l).toArray T)).rowIs w.heap.size T l.length (fun i => .int .i64 (l.getD i 0)) :=
  ⟨_, heap_alloc_new w _, by simp [ivs], fun i hi => by simpa using ivs_getD l i hi⟩
section
variable (w : World) (W H : Int) (A : Option Addr) (n c : Nat) (f : Nat → Int) (x y : Int)
theorem impl_throughBad (hr : Row .i64 w A n c f) (hk : codeP W H n f x y ≠ 0) :
    Calls Tryd.prog 30 #[.agg #[.int .i64 W, .int .i64 H, .slice A n c], .agg #[.int .i64 x, .int .i64 y]] w (ListOut 1 (thN W H n f x y) (thF W H f x y) (codeP W H n f x y) w.heap.size w) := by
  have HL := Lib.hid (show Below w.heap.size w ((w.alloc (.cells #[.int .i64 W, .int .i64 H, .slice A n c] 35)).alloc (.cells #[.int .i64 x, .int .i64 y] 30)) from ((Below.refl _ _).alloc (Nat.le_refl _) _).alloc (by simp) _)
  have HR := Lib.hid hr
  have e0 : thN W H n f x y = 0 := if_neg hk
  rw [e0]
  obtain ⟨cd, hcd⟩ : ∃ cd, codeP W H n f x y = cd := ⟨_, rfl⟩
  have hc := impl_numberOf ((w.alloc (.cells #[.int .i64 W, .int .i64 H, .slice A n c] 35)).alloc (.cells #[.int .i64 x, .int .i64 y] 30)) W H A n c f x y (HR.out.below HL.out (Nat.le_refl _))
  rw [hcd] at hc hk ⊢
  have HC := Lib.hid hc
  have hb : (cd != 0) = true := by simp [hk]
  clear hr hc hcd hk e0
  go_enter Tryd.func30, Tryd.ntmps30
  go_wp2_with fail
  refine HC.out.mono ?_
  rintro e w1 ⟨rfl, b1⟩
  go_wp2
  go_ret2
  exact ⟨none, 0, rfl, ownS_nil _ _ _ _, HL.out.trans (b1.mono (by first | exact Nat.le_refl _ | (simp; done) | (simp; omega) | omega))⟩
set_option maxHeartbeats 1000000 in
theorem impl_throughOk (hr : Row .i64 w A n c f) (hT : Tabs w) (hk : codeP W H n f x y = 0) :
    Calls Tryd.prog 30 #[.agg #[.int .i64 W, .int .i64 H, .slice A n c], .agg #[.int .i64 x, .int .i64 y]] w (ListOut 1 (thN W H n f x y) (thF W H f x y) (codeP W H n f x y) w.heap.size w) := by
  have HL := Lib.hid (show Below w.heap.size w ((w.alloc (.cells #[.int .i64 W, .int .i64 H, .slice A n c] 35)).alloc (.cells #[.int .i64 x, .int .i64 y] 30)) from ((Below.refl _ _).alloc (Nat.le_refl _) _).alloc (by simp) _)
  obtain ⟨hv, hp, he⟩ := code_in hk
  obtain ⟨hW, hH, -, -⟩ := validB_yes hv
  obtain ⟨m0, m1⟩ := segs_bd hW hH
  obtain ⟨a1, a2⟩ := side_mk hW
  obtain ⟨b1, b2⟩ := side_mk hH
  obtain ⟨u1, u2, u3, u4, u5⟩ := has_yes hp
  have u6 : ¬ (x = 0 ∨ y = 0 ∨ x = 2 * W ∨ y = 2 * H) := of_decide_eq_false he
  have v1 : 1 ≤ x := by omega
  have v2 : x ≤ 16 := by omega
  have v3 : 1 ≤ y := by omega
  have v4 : y ≤ 16 := by omega
  obtain ⟨z0, z1, z2, z3, g0, g1, g2, g3, hpr, hz0, hz1, hz2, hz3⟩ := pt_pairs hv hp he
  have hsi := segs_in hv (x := x) (y := y) (by omega) (by omega) (by omega) (by omega) u5
  have e0 : thN W H n f x y = (thL W H f x y).length := if_pos hk
  have eL : thL W H f x y = two (lo4 z0 z1 z2 z3) (hi4 z0 z1 z2 z3) := by unfold thL; rw [g0, g1, g2, g3]
  have eF : thF W H f x y = fun i => (two (lo4 z0 z1 z2 z3) (hi4 z0 z1 z2 z3)).getD i 0 := by unfold thF; rw [eL]
  have HMEM := Lib.hid (two_mem hpr)
  have HSRT := Lib.hid (two_sorted (z0 := z0) (z1 := z1) (z2 := z2) (z3 := z3))
  have hll := two_len (lo4 z0 z1 z2 z3) (hi4 z0 z1 z2 z3)
  have hwf : ∀ i, i < (two (lo4 z0 z1 z2 z3) (hi4 z0 z1 z2 z3)).length → (Lit.int .i64 ((two (lo4 z0 z1 z2 z3) (hi4 z0 z1 z2 z3)).getD i 0)).wf = true :=
    two_wf (WalkArith.wf_i64 (by unfold lo4 mnI; (repeat' split) <;> omega)) (WalkArith.wf_i64 (by unfold hi4 mxI; (repeat' split) <;> omega))
  rw [e0, eL, eF, hk]
  obtain ⟨l, hle⟩ : ∃ l, two (lo4 z0 z1 z2 z3) (hi4 z0 z1 z2 z3) = l := ⟨_, rfl⟩
  rw [hle] at HMEM HSRT hll hwf ⊢
  have hcn := cnN_le hv
  have hc := impl_numberOf ((w.alloc (.cells #[.int .i64 W, .int .i64 H, .slice A n c] 35)).alloc (.cells #[.int .i64 x, .int .i64 y] 30)) W H A n c f x y (hr.below HL.out (Nat.le_refl _))
  rw [hk] at hc
  have HC := Lib.hid hc
  have HWF := Lib.hid hwf
  have hcE : (trs W H f (4 * W * H).toNat).cnt = cnN W H f := rfl
  have heE : trs W H f (4 * W * H).toNat = trE W H f := rfl
  obtain ⟨N, hN⟩ : ∃ N, cnN W H f = N := ⟨_, rfl⟩
  obtain ⟨M, hM⟩ : ∃ M, (4 * W * H).toNat = M := ⟨_, rfl⟩
  have hM1 : M ≤ 256 := by omega
  rw [hM] at hsi
  rw [hN] at hcn
  have HSI := Lib.hid hsi
  have HR := Lib.hid hr
  have HT := Lib.hid hT
  have HV := Lib.hid hv
  have HG0 := Lib.hid g0
  have HG1 := Lib.hid g1
  have HG2 := Lib.hid g2
  have HG3 := Lib.hid g3
  have HE1 := Lib.hid hcE
  have HE2 := Lib.hid heE
  have HN := Lib.hid hN
  have HM := Lib.hid hM
  have hP := (At.new w #[.int .i64 W, .int .i64 H, .slice A n c] 35).below ((Below.refl _ _).alloc (Nat.le_refl _) (.cells #[.int .i64 x, .int .i64 y] 30)) (by simp)
  have hQ : At ((w.alloc (.cells #[.int .i64 W, .int .i64 H, .slice A n c] 35)).alloc (.cells #[.int .i64 x, .int .i64 y] 30)) (w.heap.size + 1) #[.int .i64 x, .int .i64 y] 30 := At.newAt (by simp)
  have HP := Lib.hid hP
  have HQ := Lib.hid hQ
  clear hr hT hk hv hp he g0 g1 g2 g3 hpr hsi e0 eL eF hle hc hwf hcE heE hN hM hP hQ u5 u6
  go_enter Tryd.func30, Tryd.ntmps30
  go_wp2_with fail
  refine HC.out.mono ?_
  rintro e w1 ⟨rfl, c1⟩
  have HP1 := Lib.hid (HP.out.below c1 HP.out.lt)
  have HQ1 := Lib.hid (HQ.out.below c1 HQ.out.lt)
  have HB1 := Lib.hid (HL.out.trans (c1.mono (by first | exact Nat.le_refl _ | (simp; done) | (simp; omega) | omega)))
  clear c1 HP HQ HL HC
  have k0 : w1.cell? ⟨w.heap.size, 0, none⟩ = some (.int .i64 W) := HP1.out.cellv (i := 0) rfl
  have k1 : w1.cell? ⟨w.heap.size, 1, none⟩ = some (.int .i64 H) := HP1.out.cellv (i := 1) rfl
  have k2 : w1.cell? ⟨w.heap.size, 2, none⟩ = some (.slice A n c) := HP1.out.cellv (i := 2) rfl
  have l0 := HP1.out.lt
  go_wp2_with fail
  clear k0 k1 k2
  have hto := impl_tracedOk w1 W H A n c f (HR.out.below HB1.out (Nat.le_refl _)) (HT.out.2.1.below HB1.out HT.out.2.1.1) HV.out
  unfold TracedOut at hto
  rw [HE1.out, HE2.out, HN.out, HM.out] at hto
  refine hto.mono ?_
  clear hto
  rintro e w2 ⟨Au, cu, cv, rfl, h1, h2, h3, c2⟩
  have HQ2 := Lib.hid (HQ1.out.below c2 HQ1.out.lt)
  have HB2 := Lib.hid (HB1.out.trans (c2.mono HB1.out.size))
  have HV2 := Lib.hid h2
  clear c2 h1 h2 h3 HP1 HQ1 HB1
  have q0 : w2.cell? ⟨w.heap.size + 1, 0, none⟩ = some (.int .i64 x) := HQ2.out.cellv (i := 0) rfl
  have q1 : w2.cell? ⟨w.heap.size + 1, 1, none⟩ = some (.int .i64 y) := HQ2.out.cellv (i := 1) rfl
  have lq := HQ2.out.lt
  go_wp2_with fail
  clear q0 q1
  have X3 := (Below.refl w2.heap.size w2).alloc (Nat.le_refl _) (.cells #[.int .i64 W, .int .i64 H, .slice A n c, .slice Au N cu, .slice (some ⟨cv, 0, none⟩) M M] 114)
  have HB3 := Lib.hid (HB2.out.trans (X3.mono HB2.out.size))
  refine (impl_throughK _ W H x y A Au n c N cu cv M z0 z1 z2 z3 (trE W H f).of (HT.out.2.2.below HB3.out HT.out.2.2.1) (rowIs_below HV2.out X3 HV2.out.lt) hH v1 v2 v3 v4 HSI.out hM1 HG0.out HG1.out HG2.out HG3.out hz0 hz1 hz2 hz3).mono ?_
  rintro e w4 ⟨mb, rfl, hmb, hS, c4⟩
  have HS4 := Lib.hid hS
  have HB4 := Lib.hid (HB3.out.trans (c4.mono HB3.out.size))
  clear c4 hS
  go_wp2_with fail
  refine (impl_sortedSet w4 mb _ l HS4.out HMEM.out HSRT.out (by omega)).mono ?_
  rintro e w5 ⟨A5, c5, rfl, ho, hb5⟩
  have HO5 := Lib.hid ho
  have HB5 := Lib.hid (HB4.out.trans (hb5.mono HB4.out.size))
  have hz5 := HB4.out.size
  clear ho hb5
  go_wp2
  go_ret2
  exact ⟨A5, c5, rfl, ownS_ivs HO5.out (fun i hi => ivs_getD l i hi) (fun i hi => HWF.out i hi) hz5 (by unfold maxLen; omega), HB5.out⟩
end
theorem impl_curvesThrough (w : World) (W H : Int) (A : Option Addr) (n c : Nat) (f : Nat → Int) (x y : Int) (hr : Row .i64 w A n c f) (hT : Tabs w) :
    Calls Tryd.prog 30 #[.agg #[.int .i64 W, .int .i64 H, .slice A n c], .agg #[.int .i64 x, .int .i64 y]] w (ListOut 1 (thN W H n f x y) (thF W H f x y) (codeP W H n f x y) w.heap.size w) := by
  by_cases hk : codeP W H n f x y = 0
  · exact impl_throughOk w W H A n c f x y hr hT hk
  · exact impl_throughBad w W H A n c f x y hr hk
set_option maxHeartbeats 2000000 in
theorem spec_curvesThrough (w : World) (W H : Int) (A : Option Addr) (n c : Nat) (f : Nat → Int) (x y : Int) (hr : Row .i64 w A n c f) :
    Calls Tryd.prog 28 #[.agg #[.int .i64 W, .int .i64 H, .slice A n c], .agg #[.int .i64 x, .int .i64 y]] w (ListOut 1 (thN W H n f x y) (thF W H f x y) (codeP W H n f x y) w.heap.size w) := by
  have HL := Lib.hid (show Below w.heap.size w ((w.alloc (.cells #[.int .i64 W, .int .i64 H, .slice A n c] 35)).alloc (.cells #[.int .i64 x, .int .i64 y] 30)) from ((Below.refl _ _).alloc (Nat.le_refl _) _).alloc (by simp) _)
  have HX := Lib.hid ((Box.new w 35 W H A n c).below ((Below.refl _ _).alloc (Nat.le_refl _) (.cells #[.int .i64 x, .int .i64 y] 30)) (by simp))
  have HQ := Lib.hid (show At ((w.alloc (.cells #[.int .i64 W, .int .i64 H, .slice A n c] 35)).alloc (.cells #[.int .i64 x, .int .i64 y] 30)) (w.heap.size + 1) #[.int .i64 x, .int .i64 y] 30 from At.newAt (by simp))
  have HR := Lib.hid (hr.below HL.out (Nat.le_refl _))
  by_cases hk : codeP W H n f x y = 0
  · obtain ⟨hv, hp, he⟩ := code_in hk
    obtain ⟨hW, hH, -, -⟩ := validB_yes hv
    obtain ⟨m0, m1⟩ := segs_bd hW hH
    obtain ⟨a1, a2⟩ := side_mk hW
    obtain ⟨b1, b2⟩ := side_mk hH
    obtain ⟨u1, u2, u3, u4, u5⟩ := has_yes hp
    have u6 : ¬ (x = 0 ∨ y = 0 ∨ x = 2 * W ∨ y = 2 * H) := of_decide_eq_false he
    have v1 : 1 ≤ x := by omega
    have v2 : x ≤ 16 := by omega
    have v3 : 1 ≤ y := by omega
    have v4 : y ≤ 16 := by omega
    obtain ⟨z0, z1, z2, z3, g0, g1, g2, g3, hpr, hz0, hz1, hz2, hz3⟩ := pt_pairs hv hp he
    have hsi := segs_in hv (x := x) (y := y) (by omega) (by omega) (by omega) (by omega) u5
    have e0 : thN W H n f x y = (thL W H f x y).length := if_pos hk
    have eL : thL W H f x y = two (lo4 z0 z1 z2 z3) (hi4 z0 z1 z2 z3) := by unfold thL; rw [g0, g1, g2, g3]
    have eF : thF W H f x y = fun i => (two (lo4 z0 z1 z2 z3) (hi4 z0 z1 z2 z3)).getD i 0 := by unfold thF; rw [eL]
    have hlo : 0 ≤ lo4 z0 z1 z2 z3 ∧ lo4 z0 z1 z2 z3 ≤ 256 := by unfold lo4 mnI; (repeat' split) <;> omega
    have hhi : 0 ≤ hi4 z0 z1 z2 z3 ∧ hi4 z0 z1 z2 z3 ≤ 256 := by unfold hi4 mxI; (repeat' split) <;> omega
    rw [e0, eL, eF, hk]
    obtain ⟨lo, elo⟩ : ∃ lo, lo4 z0 z1 z2 z3 = lo := ⟨_, rfl⟩
    obtain ⟨hi, ehi⟩ : ∃ hi, hi4 z0 z1 z2 z3 = hi := ⟨_, rfl⟩
    rw [elo] at hlo ⊢
    rw [ehi] at hhi ⊢
    obtain ⟨l, hl⟩ : ∃ l, two lo hi = l := ⟨_, rfl⟩
    rw [hl]
    have HLT := Lib.hid hl
    clear hl
    have hc := spec_code ((w.alloc (.cells #[.int .i64 W, .int .i64 H, .slice A n c] 35)).alloc (.cells #[.int .i64 x, .int .i64 y] 30)) w.heap.size W H A n c f x y HX.out HR.out
    rw [hk] at hc
    have HC := Lib.hid hc
    have heE : trs W H f (4 * W * H).toNat = trE W H f := rfl
    have hM1 : (4 * W * H).toNat ≤ 256 := by omega
    have HSI := Lib.hid hsi
    have HV := Lib.hid hv
    have HG0 := Lib.hid g0
    have HG1 := Lib.hid g1
    have HG2 := Lib.hid g2
    have HG3 := Lib.hid g3
    have HE2 := Lib.hid heE
    have HLO := Lib.hid hlo
    have HHI := Lib.hid hhi
    have HD1 := Lib.hid (show lo = mnI (mnI z0 z3) (mnI z1 z2) from elo.symm)
    have HD2 := Lib.hid (show hi = mxI (mxI z0 z3) (mxI z1 z2) from ehi.symm)
    clear hr hk hv hp he g0 g1 g2 g3 hpr hsi e0 eL eF hc heE u5 u6 hlo hhi elo ehi
    have q0 := HQ.out.cellv (i := 0) rfl
    have q1 := HQ.out.cellv (i := 1) rfl
    have lq := HQ.out.lt
    go_enter Tryd.func28, Tryd.ntmps28
    go_wp2_with fail
    refine HC.out.mono ?_
    rintro e w1 ⟨rfl, c1⟩
    have HX1 := Lib.hid (HX.out.below c1 HX.out.1)
    have HQ1 := Lib.hid (HQ.out.below c1 HQ.out.lt)
    have HR1 := Lib.hid (HR.out.below c1 (Nat.le_refl _))
    have HB1 := Lib.hid (HL.out.trans (c1.mono (by first | exact Nat.le_refl _ | (simp; done) | (simp; omega) | omega)))
    clear c1 q0 q1 lq HX HQ HR HL HC
    go_wp2_with fail
    have hal := spec_all w1 w.heap.size W H A n c f HX1.out HR1.out HV.out
    refine hal.mono ?_
    clear hal
    rintro e w2 ⟨A1, d1, L, rfl, h1⟩
    have HO := Lib.hid h1.of
    rw [HE2.out] at HO
    have HX2 := Lib.hid (HX1.out.below h1.below HX1.out.1)
    have HQ2 := Lib.hid (HQ1.out.below h1.below HQ1.out.lt)
    have HB2 := Lib.hid (HB1.out.trans (h1.below.mono HB1.out.size))
    clear h1 HX1 HQ1 HR1 HB1
    have q0 := HQ2.out.cellv (i := 0) rfl
    have q1 := HQ2.out.cellv (i := 1) rfl
    have lq := HQ2.out.lt
    go_wp2_with fail
    refine (spec_meet w2 w.heap.size _ W H A n c (4 * W * H).toNat (trE W H f).of x y HX2.out HO.out hH v1 v2 v3 v4 HSI.out hM1).mono ?_
    rintro e w3 ⟨bq, cq, rfl, hq, r0, r1, r2, r3, c3⟩
    have HB3 := Lib.hid (HB2.out.trans (c3.mono HB2.out.size))
    rw [HG0.out] at r0
    rw [HG1.out] at r1
    rw [HG2.out] at r2
    rw [HG3.out] at r3
    clear c3 q0 q1 lq HX2 HQ2 HB2 HO HSI
    go_wp2
    go_quiet (first | (go_at_call 81; with_reducible exact quiet_left (spec_min _ _ _)) | (go_at_call 82; with_reducible exact quiet_left (spec_max _ _ _)))
    have s0 : (w3.drewN nq).cell? ⟨bq, 0, none⟩ = some (.int .i64 z0) := r0
    have s1 : (w3.drewN nq).cell? ⟨bq, 1, none⟩ = some (.int .i64 z1) := r1
    have s2 : (w3.drewN nq).cell? ⟨bq, 2, none⟩ = some (.int .i64 z2) := r2
    have s3 : (w3.drewN nq).cell? ⟨bq, 3, none⟩ = some (.int .i64 z3) := r3
    have HB4 := Lib.hid (below_drewN HB3.out nq)
    have hq4 : bq < (w3.drewN nq).heap.size := hq
    clear r0 r1 r2 r3 hq
    generalize w3.drewN nq = w4 at s0 s1 s2 s3 HB4 hq4 ⊢
    go_wp2
    go_quiet (first | (go_at_call 81; with_reducible exact quiet_left (spec_min _ _ _)) | (go_at_call 82; with_reducible exact quiet_left (spec_max _ _ _)))
    have t0 : (w4.drewN nq).cell? ⟨bq, 0, none⟩ = some (.int .i64 z0) := s0
    have t1 : (w4.drewN nq).cell? ⟨bq, 1, none⟩ = some (.int .i64 z1) := s1
    have t2 : (w4.drewN nq).cell? ⟨bq, 2, none⟩ = some (.int .i64 z2) := s2
    have t3 : (w4.drewN nq).cell? ⟨bq, 3, none⟩ = some (.int .i64 z3) := s3
    have HB5 := Lib.hid (below_drewN HB4.out nq)
    have hq5 : bq < (w4.drewN nq).heap.size := hq4
    clear s0 s1 s2 s3 hq4
    generalize w4.drewN nq = w5 at t0 t1 t2 t3 HB5 hq5 ⊢
    go_wp2
    go_quiet (first | (go_at_call 81; with_reducible exact quiet_left (spec_min _ _ _)) | (go_at_call 82; with_reducible exact quiet_left (spec_max _ _ _)))
    have r0 : (w5.drewN nq).cell? ⟨bq, 0, none⟩ = some (.int .i64 z0) := t0
    have r1 : (w5.drewN nq).cell? ⟨bq, 1, none⟩ = some (.int .i64 z1) := t1
    have r2 : (w5.drewN nq).cell? ⟨bq, 2, none⟩ = some (.int .i64 z2) := t2
    have r3 : (w5.drewN nq).cell? ⟨bq, 3, none⟩ = some (.int .i64 z3) := t3
    have HB6 := Lib.hid (below_drewN HB5.out nq)
    have hq6 : bq < (w5.drewN nq).heap.size := hq5
    clear t0 t1 t2 t3 hq5
    generalize w5.drewN nq = w6 at r0 r1 r2 r3 HB6 hq6 ⊢
    go_wp2
    go_quiet (first | (go_at_call 81; with_reducible exact quiet_left (spec_min _ _ _)) | (go_at_call 82; with_reducible exact quiet_left (spec_max _ _ _)))
    rw [← HD1.out, ← HD2.out]
    have HB7 := Lib.hid (below_drewN HB6.out nq)
    clear r0 r1 r2 r3 HB6 HD1 HD2 hq6
    generalize w6.drewN nq = w7 at HB7 ⊢
    obtain ⟨l0, l1⟩ := HLO.out
    obtain ⟨l2, l3⟩ := HHI.out
    have wlo : (Lit.int .i64 lo).wf = true := WalkArith.wf_i64 (by omega)
    have whi : (Lit.int .i64 hi).wf = true := WalkArith.wf_i64 (by omega)
    have hz7 := HB7.out.size
    by_cases hlh : lo = hi
    · have hb : (lo == hi) = true := by simp [hlh]
      have et : l = [lo] := HLT.out.symm.trans (if_pos hlh)
      have HET := Lib.hid et
      clear hlh et HLT HLO HHI
      go_wp2
      go_ret2
      rw [HET.out]
      refine ⟨_, _, rfl, ?_, HB7.out.alloc hz7 _⟩
      exact ownS_row (row_new w7 _ [lo]) (by unfold maxLen; simp) (fun i hi => by
        match i, hi with
        | 0, _ => exact wlo
        | i + 1, hi => exact absurd hi (by show ¬ i + 1 < 1; omega)) hz7
    · have hb : (lo == hi) = false := beq_eq_false_iff_ne.2 hlh
      have et : l = [lo, hi] := HLT.out.symm.trans (if_neg hlh)
      have HET := Lib.hid et
      clear hlh et HLT HLO HHI
      go_wp2
      go_ret2
      rw [HET.out]
      refine ⟨_, _, rfl, ?_, HB7.out.alloc hz7 _⟩
      exact ownS_row (row_new w7 _ [lo, hi]) (by unfold maxLen; simp) (fun i hi' => by
        match i, hi' with
        | 0, _ => exact wlo
        | 1, _ => exact whi
        | i + 2, hi' => exact absurd hi' (by show ¬ i + 2 < 2; omega)) hz7
  · have e0 : thN W H n f x y = 0 := if_neg hk
    rw [e0]
    obtain ⟨cd, hcd⟩ : ∃ cd, codeP W H n f x y = cd := ⟨_, rfl⟩
    have hc := spec_code ((w.alloc (.cells #[.int .i64 W, .int .i64 H, .slice A n c] 35)).alloc (.cells #[.int .i64 x, .int .i64 y] 30)) w.heap.size W H A n c f x y HX.out HR.out
    rw [hcd] at hc hk ⊢
    have HC := Lib.hid hc
    have hb : (cd != 0) = true := by simp [hk]
    have q0 := HQ.out.cellv (i := 0) rfl
    have q1 := HQ.out.cellv (i := 1) rfl
    have lq := HQ.out.lt
    clear hr hc hcd hk e0
    go_enter Tryd.func28, Tryd.ntmps28
    go_wp2_with fail
    refine HC.out.mono ?_
    rintro e w1 ⟨rfl, b1⟩
    go_wp2
    go_ret2
    exact ⟨none, 0, rfl, ownS_nil _ _ _ _, HL.out.trans (b1.mono (by first | exact Nat.le_refl _ | (simp; done) | (simp; omega) | omega))⟩
theorem OwnS.lower {s : Nat} {w : World} {base base' : Nat} {A : Option Addr} {n c : Nat} {f : Nat → Int} (h : OwnS s w base A n c f) (hb : base' ≤ base) : OwnS s w base' A n c f :=
  ⟨h.1, h.2.1, h.2.2.1, fun hn => by obtain ⟨b, o, e, hb', hl, hc⟩ := h.2.2.2 hn; exact ⟨b, o, e, Nat.le_trans hb hb', hl, hc⟩⟩
theorem Tabs.old {W w' : World} (h : Tabs W) (hS : (∀ b o, b < W.heap.size → w'.cell? ⟨b, o, none⟩ = W.cell? ⟨b, o, none⟩) ∧ Below W.heap.size W w') : Tabs w' := h.below hS.2 h.1
theorem Tabs.grownR {w w' : World} {r : Option Nat} (h : Tabs w) (g : w.grownBy w' r) (hne : ∀ p, p ≤ max 0 2 → r = some p → False) : Tabs w' :=
  Tabs.mk_ (h.2.1.grownR g (hne _ (by omega))) (h.2.2.grownR g (hne _ (by omega)))
end Go.Proofs.YtajikegfladelaaDoor.Base

namespace Go.Proofs.YtajikegfladelaaDoor.Base
open Go Go.RowKit
set_option linter.unusedVariables false

/-- a sum -/
def smB (F : Nat → Nat) : Nat → Nat
  | 0 => 0
  | b + 1 => smB F b + F b
theorem smB_succ (F : Nat → Nat) (b : Nat) : smB F (b + 1) = smB F b + F b := rfl
theorem smB_congr {F G : Nat → Nat} : ∀ {N : Nat}, (∀ x, x < N → F x = G x) → smB F N = smB G N
  | 0, _ => rfl
  | N + 1, h => by rw [smB_succ, smB_succ, smB_congr (fun x hx => h x (by omega)), h N (by omega)]
theorem smB_add (F G : Nat → Nat) : ∀ N, smB (fun x => F x + G x) N = smB F N + smB G N
  | 0 => rfl
  | N + 1 => by rw [smB_succ, smB_succ, smB_succ, smB_add F G N]; omega
theorem smB_zero : ∀ N, smB (fun _ => 0) N = 0
  | 0 => rfl
  | N + 1 => by rw [smB_succ, smB_zero N]
theorem smB_one (c : Nat) : ∀ N, smB (fun x => if x = c then 1 else 0) N = if c < N then 1 else 0
  | 0 => by rw [if_neg (by omega)]; rfl
  | N + 1 => by
    rw [smB_succ, smB_one c N]
    by_cases h : N = c
    · rw [if_pos h, if_neg (by omega), if_pos (by omega)]
    · rw [if_neg h]
      by_cases h2 : c < N
      · rw [if_pos h2, if_pos (by omega)]
      · rw [if_neg h2, if_neg (by omega)]
theorem smB_mono (F : Nat → Nat) : ∀ {a N : Nat}, a ≤ N → smB F a ≤ smB F N
  | a, 0, h => by rw [show a = 0 by omega]; exact Nat.le_refl _
  | a, N + 1, h => by
    rcases Nat.eq_or_lt_of_le h with e | e
    · rw [e]; exact Nat.le_refl _
    · exact Nat.le_trans (smB_mono F (a := a) (N := N) (by omega)) (Nat.le_add_right _ _)
/-- what the law sums up of the curve a: its crossings with itself and with those before it -/
def rowS (cr : Nat → Nat → Nat) (a : Nat) : Nat := cr a a + smB (cr a) a
def iB (z0 z1 : Nat) (a b : Nat) : Nat := if crB z0 z1 a b then 1 else 0
theorem iB_one {z0 z1 N : Nat} (h0 : z0 < N) (h1 : z1 < N) : smB (rowS (iB z0 z1)) N = 1 := by
  have hB : ∀ a b : Nat, crB z0 z1 a b = true ↔ (z0 = a ∧ z1 = b ∨ z0 = b ∧ z1 = a) := fun a b => by
    simp only [crB, Bool.or_eq_true, Bool.and_eq_true, beq_iff_eq]
    omega
  by_cases e : z0 = z1
  · have hr : ∀ a, a < N → rowS (iB z0 z1) a = if a = z0 then 1 else 0 := fun a _ => by
      unfold rowS
      have h2 : smB (iB z0 z1 a) a = 0 := by
        rw [smB_congr (G := fun _ => 0) (fun b hb => ?_), smB_zero]
        unfold iB
        rw [if_neg (by rw [hB]; omega)]
      rw [h2]
      unfold iB
      by_cases h : a = z0
      · rw [if_pos h, if_pos (by rw [hB]; omega)]
      · rw [if_neg h, if_neg (by rw [hB]; omega)]
    rw [smB_congr hr, smB_one, if_pos h0]
  · obtain ⟨lo, hi, hlt, hlh, hhn⟩ : ∃ lo hi, lo < hi ∧ (z0 = lo ∧ z1 = hi ∨ z0 = hi ∧ z1 = lo) ∧ hi < N := by
      rcases Nat.lt_or_ge z0 z1 with h | h
      · exact ⟨z0, z1, h, .inl ⟨rfl, rfl⟩, h1⟩
      · exact ⟨z1, z0, by omega, .inr ⟨rfl, rfl⟩, h0⟩
    have hr : ∀ a, a < N → rowS (iB z0 z1) a = if a = hi then 1 else 0 := fun a _ => by
      unfold rowS
      have h3 : iB z0 z1 a a = 0 := by unfold iB; rw [if_neg (by rw [hB]; omega)]
      rw [h3]
      by_cases h : a = hi
      · rw [if_pos h, smB_congr (G := fun x => if x = lo then 1 else 0) (fun b hb => ?_), smB_one, if_pos (by omega)]
        unfold iB
        by_cases h2 : b = lo
        · rw [if_pos h2, if_pos (by rw [hB]; omega)]
        · rw [if_neg h2, if_neg (by rw [hB]; omega)]
      · rw [if_neg h, smB_congr (G := fun _ => 0) (fun b hb => ?_), smB_zero]
        unfold iB
        rw [if_neg (by rw [hB]; omega)]
    rw [smB_congr hr, smB_one, if_pos hhn]
/-- the crossings of two curves, as the law counts them -/
noncomputable def crN (W H : Int) (f : Nat → Int) (n : Nat) (a b : Nat) : Nat := crF W H f (trE W H f).of a b n
theorem cross_sum {W H : Int} {f g : Nat → Int} {N : Nat} : ∀ (K : Nat), (∀ k, k < K → f k = 0 → ∃ z0 z1 : Nat, me0 H g (ptX W k) (ptY W k) = z0 ∧ me1 H g (ptX W k) (ptY W k) = z1 ∧ z0 < N ∧ z1 < N) →
    (smB (rowS (fun a b => crF W H f g a b K)) N : Int) = cntK 0 f K
  | 0, _ => by
    have h : ∀ a, a < N → rowS (fun a b => crF W H f g a b 0) a = 0 := fun a _ => by
      have h2 : smB (fun b => crF W H f g a b 0) a = 0 := by rw [smB_congr (F := fun b : Nat => crF W H f g a b 0) (G := fun _ => 0) (fun b _ => rfl), smB_zero]
      show 0 + smB (fun b => crF W H f g a b 0) a = 0
      rw [h2]
    rw [smB_congr h, smB_zero]
    rfl
  | K + 1, hz => by
    have ih := cross_sum K (fun k hk => hz k (by omega))
    by_cases hf : f K = 0
    · obtain ⟨z0, z1, g0, g1, h0, h1⟩ := hz K (by omega) hf
      have hs : ∀ a b : Nat, crF W H f g a b (K + 1) = crF W H f g a b K + iB z0 z1 a b := fun a b => crF_step g0 g1 hf
      have hr : ∀ a, a < N → rowS (fun a b => crF W H f g a b (K + 1)) a = rowS (fun a b => crF W H f g a b K) a + rowS (iB z0 z1) a := fun a _ => by
        show crF W H f g a a (K + 1) + smB (fun b => crF W H f g a b (K + 1)) a = (crF W H f g a a K + smB (fun b => crF W H f g a b K) a) + (iB z0 z1 a a + smB (fun b => iB z0 z1 a b) a)
        rw [smB_congr (G := fun b => crF W H f g a b K + iB z0 z1 a b) (fun b _ => hs a b), smB_add (fun b : Nat => crF W H f g a b K) (fun b => iB z0 z1 a b), hs a a]
        omega
      rw [smB_congr hr, smB_add, iB_one h0 h1]
      have e : cntK 0 f (K + 1) = cntK 0 f K + 1 := by simp [cntK, hf]
      rw [e]
      omega
    · have hr : ∀ a, a < N → rowS (fun a b => crF W H f g a b (K + 1)) a = rowS (fun a b => crF W H f g a b K) a := fun a _ => by
        show crF W H f g a a (K + 1) + smB (fun b => crF W H f g a b (K + 1)) a = crF W H f g a a K + smB (fun b => crF W H f g a b K) a
        rw [smB_congr (G := fun b => crF W H f g a b K) (fun b _ => crF_skip hf), crF_skip hf]
      rw [smB_congr hr, ih]
      simp [cntK, hf]
theorem crN_sum {W H : Int} {n : Nat} {f : Nat → Int} (hv : validB W H n f = true) : (smB (rowS (crN W H f n)) (cnN W H f) : Int) = cntK 0 f n :=
  cross_sum n (fun k hk hf => by obtain ⟨z0, z1, g0, g1, -, -, h0, h1⟩ := pt_curves hv hk hf; exact ⟨z0, z1, g0, g1, h0, h1⟩)
theorem crN_even {W H : Int} {n : Nat} {f : Nat → Int} {a b : Nat} (hv : validB W H n f = true) (h : a ≠ b) : crN W H f n a b % 2 = 0 := by
  obtain ⟨hW, hH, -, -⟩ := validB_yes hv
  obtain ⟨m0, m1⟩ := segs_bd hW hH
  exact cross_even hv (trs_closed hv (4 * W * H).toNat (by omega)) (by omega)
/-- the law's sum stays small -/
theorem crN_part {W H : Int} {n : Nat} {f : Nat → Int} {a b : Nat} (hv : validB W H n f = true) (ha : a < cnN W H f) (hb : b ≤ a) :
    smB (rowS (crN W H f n)) a + crN W H f n a a + smB (crN W H f n a) b ≤ n := by
  have h1 := crN_sum hv
  have h2 := (cntK_bd 0 f n).2
  have h3 := smB_mono (rowS (crN W H f n)) (a := a + 1) (N := cnN W H f) ha
  have h4 := smB_mono (crN W H f n a) hb
  rw [smB_succ] at h3
  unfold rowS at h3
  have h5 : smB (fun a => crN W H f n a a + smB (crN W H f n a) a) a = smB (rowS (crN W H f n)) a := rfl
  have h6 : smB (fun a => crN W H f n a a + smB (crN W H f n a) a) (cnN W H f) = smB (rowS (crN W H f n)) (cnN W H f) := rfl
  omega
end Go.Proofs.YtajikegfladelaaDoor.Base

namespace Go.Proofs.YtajikegfladelaaDoor.Base
open Go Go.RowKit
set_option linter.unusedVariables false

def a2V (n : Nat) (f : Nat → Int) (at' m : Int) : Int := if at' < n then f at'.toNat % m else 0
theorem a2V_bd {n : Nat} {f : Nat → Int} {at' m : Int} (h1 : 1 ≤ m) : 0 ≤ a2V n f at' m ∧ a2V n f at' m < m := by
  have r1 : 0 ≤ f at'.toNat % m := Int.emod_nonneg _ (by omega)
  have r2 : f at'.toNat % m < m := Int.emod_lt_of_pos _ (by omega)
  unfold a2V
  split <;> omega
theorem a2At_is (w : World) (A : Option Addr) (n c : Nat) (f : Nat → Int) (at' m : Int) (hr : Row .u8 w A n c f) (h0 : 0 ≤ at') (h1 : 1 ≤ m) (h2 : m ≤ 1000) (hn : n ≤ 3000) :
    Calls Tryd.prog 27 #[.slice A n c, .int .i64 at', .int .i64 m] w (Gives (.int .i64 (a2V n f at' m)) w) := by
  have hnc := hr.1
  have hcm := hr.2.1
  unfold maxLen at hcm
  by_cases hl : at' < n
  · obtain ⟨b, o, rfl, hb, hc⟩ := hr.2.2.2 (by omega)
    have ck := hc at'.toNat (by omega)
    obtain ⟨q1, q2⟩ := u8_bd (hr.2.2.1 at'.toNat (by omega))
    have r1 : 0 ≤ f at'.toNat % m := Int.emod_nonneg _ (by omega)
    have r2 : f at'.toNat % m < m := Int.emod_lt_of_pos _ (by omega)
    have e : a2V n f at' m = f at'.toNat % m := if_pos hl
    rw [e]
    clear hc hr e
    go_enter Tryd.func27, Tryd.ntmps27
    go_wp2
    go_ret
    exact ⟨rfl, Below.refl _ _⟩
  · clear hr
    have hl' : (n : Int) ≤ at' := by omega
    have e : a2V n f at' m = 0 := if_neg hl
    rw [e]
    clear e
    go_enter Tryd.func27, Tryd.ntmps27
    go_wp2
    go_ret
    exact ⟨rfl, Below.refl _ _⟩
section
variable {W H : Int} {A : Option Addr} {n c : Nat} {f : Nat → Int}
theorem curves_k (w : World) (hr : Row .i64 w A n c f) (hv : validB W H n f = true) :
    Calls Tryd.prog 40 #[.agg #[.int .i64 W, .int .i64 H, .slice A n c]] w (Gives (.tuple #[.int .i64 (cnN W H f), .int .i64 0]) w) := by
  have h := spec_countCurves w W H A n c f hr
  rwa [cnV_yes hv, (segN_yes hv).2] at h
theorem breaks_k (w : World) (hr : Row .i64 w A n c f) (hv : validB W H n f = true) :
    Calls Tryd.prog 41 #[.agg #[.int .i64 W, .int .i64 H, .slice A n c], .int .i64 0] w (Gives (.tuple #[.int .i64 (cntK 0 f n), .int .i64 0]) w) := by
  have h := spec_countBreaks w W H A n c f 0 hr
  have e1 : cntC W H n f 0 = 0 := by simp [cntC, hv, inB]
  have e2 : cntP W H n f 0 = cntK 0 f n := by unfold cntP; rw [if_pos e1]
  rwa [e1, e2] at h
theorem cu_at (hv : validB W H n f = true) {a : Nat} (ha : a < cnN W H f) : cuC W H n f a = 0 := cu_in hv (decide_eq_true ⟨by omega, by omega⟩)
theorem self_k (w : World) (a : Nat) (hr : Row .i64 w A n c f) (hT : Tabs w) (hv : validB W H n f = true) (ha : a < cnN W H f) :
    Calls Tryd.prog 36 #[.agg #[.int .i64 W, .int .i64 H, .slice A n c], .int .i64 a] w (Gives (.tuple #[.int .i64 (crN W H f n a a), .int .i64 0]) w) := by
  have h := impl_selfCrossingsT w W H A n c f a hr hT
  have e : scV W H n f a = (crN W H f n a a : Nat) := by unfold scV crN; rw [if_pos (cu_at hv ha)]
  rwa [cu_at hv ha, e] at h
theorem common_k (w : World) (a b : Nat) (hr : Row .i64 w A n c f) (hT : Tabs w) (hv : validB W H n f = true) (ha : a < cnN W H f) (hb : b < a) :
    Calls Tryd.prog 38 #[.agg #[.int .i64 W, .int .i64 H, .slice A n c], .int .i64 a, .int .i64 b] w (Gives (.tuple #[.int .i64 (crN W H f n a b), .int .i64 0]) w) := by
  have h := impl_commonCrossingsT w W H A n c f a b hr hT
  have e0 : ccC W H n f a b = 0 := by
    unfold ccC
    rw [if_pos (cu_at hv ha), if_pos (cu_at hv (by omega)), if_neg (by omega)]
  have e : ccV W H n f a b = (crN W H f n a b : Nat) := by unfold ccV crN; rw [if_pos e0]
  rwa [e0, e] at h
theorem pt_hh (hv : validB W H n f = true) {k : Int} (h0 : 0 ≤ k) (h1 : k < n) : hasB W H (ptX W k) (ptY W k) = true ∧ edgeB W H (ptX W k) (ptY W k) = false := by
  obtain ⟨hW, hH, hn, -⟩ := validB_yes hv
  obtain ⟨h2, h3, -⟩ := pt_is hW hH h0 (by omega)
  exact ⟨h2, h3⟩
theorem through_k (w : World) (k : Int) (hr : Row .i64 w A n c f) (hT : Tabs w) (hv : validB W H n f = true) (h0 : 0 ≤ k) (h1 : k < n) {l : List Int} (hl : thL W H f (ptX W k) (ptY W k) = l) :
    Calls Tryd.prog 30 #[.agg #[.int .i64 W, .int .i64 H, .slice A n c], .agg #[.int .i64 (ptX W k), .int .i64 (ptY W k)]] w (ListOut 1 l.length (fun i => l.getD i 0) 0 w.heap.size w) := by
  obtain ⟨h2, h3⟩ := pt_hh hv h0 h1
  have h := impl_curvesThrough w W H A n c f (ptX W k) (ptY W k) hr hT
  have e0 := (code_0 hv h2 h3).1
  have e1 : thN W H n f (ptX W k) (ptY W k) = l.length := by unfold thN; rw [if_pos e0, hl]
  have e2 : thF W H f (ptX W k) (ptY W k) = fun i => l.getD i 0 := by unfold thF; rw [hl]
  rwa [e0, e1, e2] at h
theorem pt_wk (hv : validB W H n f = true) {k : Int} (h0 : 0 ≤ k) (h1 : k < n) : wkB W H n f (ptX W k) (ptY W k) 1 1 = true ∧ inB (segOf H (ptX W k) (ptY W k) 1 1) 0 (4 * W * H - 1) = true := by
  obtain ⟨h2, h3⟩ := pt_hh hv h0 h1
  obtain ⟨hW, hH, -, -⟩ := validB_yes hv
  obtain ⟨x1, x2, y1, y2, o⟩ := has_yes h2
  have u6 : ¬ (ptX W k = 0 ∨ ptY W k = 0 ∨ ptX W k = 2 * W ∨ ptY W k = 2 * H) := of_decide_eq_false h3
  have hw : wkB W H n f (ptX W k) (ptY W k) 1 1 = true := wk_mk hv rfl rfl h2 (has_mk (by omega) (by omega) (by omega) (by omega) (by omega))
  have hk : okW W H n f (ptX W k, ptY W k, 1, 1) = true := hw
  obtain ⟨r1, r2, -⟩ := sg_rng hk
  exact ⟨hw, decide_eq_true ⟨r1, by have : segOf H (ptX W k) (ptY W k) 1 1 < 4 * W * H := r2; omega⟩⟩
theorem segOf_k (w : World) (k : Int) (hr : Row .i64 w A n c f) (hv : validB W H n f = true) (h0 : 0 ≤ k) (h1 : k < n) :
    Calls Tryd.prog 43 #[.agg #[.int .i64 W, .int .i64 H, .slice A n c], .agg #[.int .i64 (ptX W k), .int .i64 (ptY W k), .int .i64 1, .int .i64 1]] w (Gives (.tuple #[.int .i64 (segOf H (ptX W k) (ptY W k) 1 1), .int .i64 0]) w) := by
  have h := spec_segmentOf w W H A n c f (ptX W k) (ptY W k) 1 1 hr
  rwa [sgN_yes (pt_wk hv h0 h1).1, wkC_yes (pt_wk hv h0 h1).1] at h
theorem curveAt_k (w : World) (k : Int) (hr : Row .i64 w A n c f) (hT : Tabs w) (hv : validB W H n f = true) (h0 : 0 ≤ k) (h1 : k < n) :
    Calls Tryd.prog 44 #[.agg #[.int .i64 W, .int .i64 H, .slice A n c], .int .i64 (segOf H (ptX W k) (ptY W k) 1 1)] w (Gives (.tuple #[.int .i64 (me3 H (trE W H f).of (ptX W k) (ptY W k)), .int .i64 0]) w) := by
  have h := impl_curveAt w W H A n c f (segOf H (ptX W k) (ptY W k) 1 1) hr hT.2.1
  have e := (wt_in hv (pt_wk hv h0 h1).2).1
  have e2 : caV W H n f (segOf H (ptX W k) (ptY W k) 1 1) = me3 H (trE W H f).of (ptX W k) (ptY W k) := by unfold caV; rw [if_pos e]; rfl
  rwa [e, e2] at h
/-- the curves through an inner point: one or two, ascending; that of the segment to the right and below is one of them -/
theorem thL_is (hv : validB W H n f = true) {k : Int} (h0 : 0 ≤ k) (h1 : k < n) :
    ∃ a : Int, 0 ≤ a ∧ a ≤ 256 ∧ ((thL W H f (ptX W k) (ptY W k) = [a] ∧ me3 H (trE W H f).of (ptX W k) (ptY W k) = a) ∨
      ∃ b, a < b ∧ b ≤ 256 ∧ thL W H f (ptX W k) (ptY W k) = [a, b] ∧ (me3 H (trE W H f).of (ptX W k) (ptY W k) = a ∨ me3 H (trE W H f).of (ptX W k) (ptY W k) = b)) := by
  obtain ⟨h2, h3⟩ := pt_hh hv h0 h1
  obtain ⟨z0, z1, z2, z3, g0, g1, g2, g3, hpr, hz0, hz1, hz2, hz3⟩ := pt_pairs hv h2 h3
  have eL : thL W H f (ptX W k) (ptY W k) = two (lo4 z0 z1 z2 z3) (hi4 z0 z1 z2 z3) := by unfold thL; rw [g0, g1, g2, g3]
  rw [eL, g3]
  have hlo : 0 ≤ lo4 z0 z1 z2 z3 ∧ lo4 z0 z1 z2 z3 ≤ 256 := by unfold lo4 mnI; (repeat' split) <;> omega
  have hhi : 0 ≤ hi4 z0 z1 z2 z3 ∧ hi4 z0 z1 z2 z3 ≤ 256 := by unfold hi4 mxI; (repeat' split) <;> omega
  have hle : lo4 z0 z1 z2 z3 ≤ hi4 z0 z1 z2 z3 := by unfold lo4 hi4 mnI mxI; (repeat' split) <;> omega
  have hz : (z3 : Int) = lo4 z0 z1 z2 z3 ∨ (z3 : Int) = hi4 z0 z1 z2 z3 := by
    unfold Pairs4 at hpr
    unfold lo4 hi4 mnI mxI
    (repeat' split) <;> omega
  refine ⟨lo4 z0 z1 z2 z3, hlo.1, hlo.2, ?_⟩
  by_cases e : lo4 z0 z1 z2 z3 = hi4 z0 z1 z2 z3
  · exact .inl ⟨if_pos e, by omega⟩
  · exact .inr ⟨hi4 z0 z1 z2 z3, by omega, hhi.2, if_neg e, hz⟩
end
end Go.Proofs.YtajikegfladelaaDoor.Base
