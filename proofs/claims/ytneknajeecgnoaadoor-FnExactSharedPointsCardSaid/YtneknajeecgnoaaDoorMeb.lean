/-
  The inner points of curves: the program's.
-/
import Derived.Test.YtneknajeecgnoaaDoorMea
import Derived.Test.YtneknajeecgnoaaDoorStab
import Derived.Test.YtneknajeecgnoaaDoorTb2
import Derived.Test.YtneknajeecgnoaaDoorTch
namespace Go.Proofs.YtneknajeecgnoaaDoor.Base
open Go Go.RowKit
set_option linter.unusedVariables false
set_option linter.unusedSimpArgs false

theorem lib_indexF1 (w : World) (A : Option Addr) (q cq : Nat) (cs : Nat → Int) (pb : Nat) (P : Nat → Bool) (hr : Row .i64 w A q cq cs) (hq : q ≤ 1000000)
    (HC : Hid (∀ i, i < q → ∀ w', Below w.heap.size w w' → Calls Tryd.prog 45 #[.int .i64 (cs i), .pointer (some ⟨pb, 0, none⟩)] w' (Gives (.bool (P i)) w'))) :
    Calls Tryd.prog 69 #[.slice A q cq, .func (.func 45) #[] #[.pointer (some ⟨pb, 0, none⟩)]] w (fun e w' => ∃ r : Int, e = .returned (.int .i64 r) ∧ decide (0 ≤ r) = (List.range q).any P ∧ Below w.heap.size w w') := by
  have HR := Lib.hid hr
  have hcm := hr.2.1
  have hnc := hr.1
  unfold maxLen at hcm
  clear hr
  go_enter Tryd.func69, Tryd.ntmps69
  go_wp2
  go_loopw [8] (fun iv wr => ∃ k : Nat, k ≤ q ∧ iv = .int .i64 (k : Int) ∧ Hid (∀ i, i < k → P i = false) ∧ Hid (Below w.heap.size w wr)) (fun iv _ => q - (intOf iv).toNat)
  case atStart => exact ⟨0, Nat.zero_le _, rfl, Lib.hid (fun i h => absurd h (Nat.not_lt_zero _)), Lib.hid (Below.refl _ _)⟩
  case round =>
    obtain ⟨k, hk, rfl, HN, HB⟩ := hrel
    by_cases hlt : k < q
    · obtain ⟨b, o, rfl, hbl, hc⟩ := (HR.out.below HB.out (Nat.le_refl _)).2.2.2 (by omega)
      have hck := hc k hlt
      have HCk := Lib.hid (HC.out k hlt wr HB.out)
      obtain ⟨v, hv⟩ : ∃ v, P k = v := ⟨_, rfl⟩
      rw [hv] at HCk
      have HV := Lib.hid hv
      clear hc hv
      go_wp2_with fail
      refine HCk.out.mono ?_
      rintro e w2 ⟨rfl, b2⟩
      have HB2 := Lib.hid (HB.out.trans (b2.mono HB.out.size))
      clear b2 HCk
      cases v
      · go_wp2
        go_roundw
        case rel =>
          refine ⟨k + 1, by omega, by go_num, Lib.hid (fun i hi => ?_), HB2⟩
          rcases Nat.lt_succ_iff_lt_or_eq.1 hi with h | rfl
          · exact HN.out i h
          · exact HV.out
        case measure => simp [intOf]; omega
      · have HT : Hid ((List.range q).any P = true) := Lib.hid (List.any_eq_true.2 ⟨k, List.mem_range.2 hlt, HV.out⟩)
        go_wp2
        go_ret
        exact ⟨(k : Int), rfl, by rw [HT.out]; simp, HB2.out⟩
    · obtain rfl : k = q := by omega
      have HT : Hid ((List.range k).any P = false) := Lib.hid (List.any_eq_false.2 (fun x hx => by rw [HN.out x (List.mem_range.1 hx)]; simp))
      go_wp2
      go_ret
      exact ⟨-1, rfl, by rw [HT.out]; rfl, HB.out⟩
theorem lib_containsF1 (w : World) (A : Option Addr) (q cq : Nat) (cs : Nat → Int) (pb : Nat) (P : Nat → Bool) (v : Bool) (hr : Row .i64 w A q cq cs) (hq : q ≤ 1000000)
    (HC : Hid (∀ i, i < q → ∀ w', Below w.heap.size w w' → Calls Tryd.prog 45 #[.int .i64 (cs i), .pointer (some ⟨pb, 0, none⟩)] w' (Gives (.bool (P i)) w'))) (hv : (List.range q).any P = v) :
    Calls Tryd.prog 44 #[.slice A q cq, .func (.func 45) #[] #[.pointer (some ⟨pb, 0, none⟩)]] w (Gives (.bool v) w) := by
  have HX := Lib.hid (lib_indexF1 w A q cq cs pb P hr hq HC)
  have HV := Lib.hid hv
  clear hr hv
  go_enter Tryd.func44, Tryd.ntmps44
  go_wp2_with fail
  refine HX.out.mono ?_
  rintro e w1 ⟨r, rfl, hd, b1⟩
  rw [HV.out] at hd
  clear HV HX HC
  cases v
  · have hr := of_decide_eq_false hd
    go_wp2
    go_ret
    exact ⟨ret_bool (by first | (simp; done) | (simp; omega)), b1⟩
  · have hr := of_decide_eq_true hd
    go_wp2
    go_ret
    exact ⟨ret_bool (by first | (simp; done) | (simp; omega)), b1⟩
theorem lib_indexF2 (w : World) (A : Option Addr) (q cq : Nat) (cs : Nat → Int) (pb : Nat) (P : Nat → Bool) (hr : Row .i64 w A q cq cs) (hq : q ≤ 1000000)
    (HC : Hid (∀ i, i < q → ∀ w', Below w.heap.size w w' → Calls Tryd.prog 50 #[.int .i64 (cs i), .pointer (some ⟨pb, 0, none⟩)] w' (Gives (.bool (P i)) w'))) :
    Calls Tryd.prog 69 #[.slice A q cq, .func (.func 50) #[] #[.pointer (some ⟨pb, 0, none⟩)]] w (fun e w' => ∃ r : Int, e = .returned (.int .i64 r) ∧ decide (0 ≤ r) = (List.range q).any P ∧ Below w.heap.size w w') := by
  have HR := Lib.hid hr
  have hcm := hr.2.1
  have hnc := hr.1
  unfold maxLen at hcm
  clear hr
  go_enter Tryd.func69, Tryd.ntmps69
  go_wp2
  go_loopw [8] (fun iv wr => ∃ k : Nat, k ≤ q ∧ iv = .int .i64 (k : Int) ∧ Hid (∀ i, i < k → P i = false) ∧ Hid (Below w.heap.size w wr)) (fun iv _ => q - (intOf iv).toNat)
  case atStart => exact ⟨0, Nat.zero_le _, rfl, Lib.hid (fun i h => absurd h (Nat.not_lt_zero _)), Lib.hid (Below.refl _ _)⟩
  case round =>
    obtain ⟨k, hk, rfl, HN, HB⟩ := hrel
    by_cases hlt : k < q
    · obtain ⟨b, o, rfl, hbl, hc⟩ := (HR.out.below HB.out (Nat.le_refl _)).2.2.2 (by omega)
      have hck := hc k hlt
      have HCk := Lib.hid (HC.out k hlt wr HB.out)
      obtain ⟨v, hv⟩ : ∃ v, P k = v := ⟨_, rfl⟩
      rw [hv] at HCk
      have HV := Lib.hid hv
      clear hc hv
      go_wp2_with fail
      refine HCk.out.mono ?_
      rintro e w2 ⟨rfl, b2⟩
      have HB2 := Lib.hid (HB.out.trans (b2.mono HB.out.size))
      clear b2 HCk
      cases v
      · go_wp2
        go_roundw
        case rel =>
          refine ⟨k + 1, by omega, by go_num, Lib.hid (fun i hi => ?_), HB2⟩
          rcases Nat.lt_succ_iff_lt_or_eq.1 hi with h | rfl
          · exact HN.out i h
          · exact HV.out
        case measure => simp [intOf]; omega
      · have HT : Hid ((List.range q).any P = true) := Lib.hid (List.any_eq_true.2 ⟨k, List.mem_range.2 hlt, HV.out⟩)
        go_wp2
        go_ret
        exact ⟨(k : Int), rfl, by rw [HT.out]; simp, HB2.out⟩
    · obtain rfl : k = q := by omega
      have HT : Hid ((List.range k).any P = false) := Lib.hid (List.any_eq_false.2 (fun x hx => by rw [HN.out x (List.mem_range.1 hx)]; simp))
      go_wp2
      go_ret
      exact ⟨-1, rfl, by rw [HT.out]; rfl, HB.out⟩
theorem lib_containsF2 (w : World) (A : Option Addr) (q cq : Nat) (cs : Nat → Int) (pb : Nat) (P : Nat → Bool) (v : Bool) (hr : Row .i64 w A q cq cs) (hq : q ≤ 1000000)
    (HC : Hid (∀ i, i < q → ∀ w', Below w.heap.size w w' → Calls Tryd.prog 50 #[.int .i64 (cs i), .pointer (some ⟨pb, 0, none⟩)] w' (Gives (.bool (P i)) w'))) (hv : (List.range q).any P = v) :
    Calls Tryd.prog 44 #[.slice A q cq, .func (.func 50) #[] #[.pointer (some ⟨pb, 0, none⟩)]] w (Gives (.bool v) w) := by
  have HX := Lib.hid (lib_indexF2 w A q cq cs pb P hr hq HC)
  have HV := Lib.hid hv
  clear hr hv
  go_enter Tryd.func44, Tryd.ntmps44
  go_wp2_with fail
  refine HX.out.mono ?_
  rintro e w1 ⟨r, rfl, hd, b1⟩
  rw [HV.out] at hd
  clear HV HX HC
  cases v
  · have hr := of_decide_eq_false hd
    go_wp2
    go_ret
    exact ⟨ret_bool (by first | (simp; done) | (simp; omega)), b1⟩
  · have hr := of_decide_eq_true hd
    go_wp2
    go_ret
    exact ⟨ret_bool (by first | (simp; done) | (simp; omega)), b1⟩
theorem impl_clos1 (w : World) (pt : Nat) (W H x : Int) (A Au : Option Addr) (n c N cu cv M : Nat) (v : Bool) (hT : At w pt #[.int .i64 W, .int .i64 H, .slice A n c, .slice Au N cu, .slice (some ⟨cv, 0, none⟩) M M] 73) (hN : N ≤ 1000) (h : inB x 0 ((N : Int) - 1) = v) :
    Calls Tryd.prog 45 #[.int .i64 x, .pointer (some ⟨pt, 0, none⟩)] w (Gives (.bool !v) w) := by
  have x0 := hT.cellv (i := 0) rfl
  have x1 := hT.cellv (i := 1) rfl
  have x2 := hT.cellv (i := 2) rfl
  have x3 := hT.cellv (i := 3) rfl
  have x4 := hT.cellv (i := 4) rfl
  have lx := hT.lt
  have HH := Lib.hid (hasCurve_is (w := w) (W := W) (H := H) (s := x) (A := A) (A1 := Au) (A2 := some ⟨cv, 0, none⟩) (n := n) (c := c) (n1 := N) (c1 := cu) (n2 := M) (c2 := M) hN h)
  clear hT h
  go_enter Tryd.func45, Tryd.ntmps45
  go_wp2_with fail
  refine HH.out.mono ?_
  rintro e w1 ⟨rfl, b1⟩
  cases v
  · go_wp2
    go_ret
    exact ⟨rfl, b1⟩
  · go_wp2
    go_ret
    exact ⟨rfl, b1⟩
theorem impl_clos2 (w : World) (pm mb k : Nat) (S : Nat → Bool) (a : Nat) (hM : At w pm #[.map (some mb)] 78) (hS : SetIs w mb k S) (ha : a ≤ 1000) :
    Calls Tryd.prog 50 #[.int .i64 (a : Int), .pointer (some ⟨pm, 0, none⟩)] w (Gives (.bool !(S a)) w) := by
  have x0 := hM.cellv (i := 0) rfl
  have lx := hM.lt
  have HH := Lib.hid (set_has w mb k S hS a (WalkArith.wf_i64 (by omega)))
  clear hM hS
  generalize S a = v at *
  go_enter Tryd.func50, Tryd.ntmps50
  go_wp2_with fail
  refine HH.out.mono ?_
  rintro e w1 ⟨rfl, hw⟩
  subst hw
  cases v
  · go_wp2
    go_ret
    exact ⟨rfl, Below.refl _ _⟩
  · go_wp2
    go_ret
    exact ⟨rfl, Below.refl _ _⟩
theorem mt_set {H : Int} {g : Nat → Int} {x y : Int} {z0 z1 z2 z3 a : Nat} (h0 : me0 H g x y = z0) (h1 : me1 H g x y = z1) (h2 : me2 H g x y = z2) (h3 : me3 H g x y = z3) : mtB H g x y (a : Int) = setK z0 z1 z2 z3 4 a := by
  unfold mtB setK
  rw [h0, h1, h2, h3, Bool.eq_iff_iff]
  simp only [Bool.or_eq_true, beq_iff_eq, Bool.or_false]
  omega
/-- a list of points and a code -/
def PtsO (ok : Nat → Bool) (n : Nat) (w : World) (e : Ending) (w' : World) : Prop :=
  ∃ A c, e = .returned (.tuple #[.slice A (flI ok n).length c, .int .i64 0]) ∧ w'.ownsRow w.heap.size 2 1 (.slice A (flI ok n).length c) (flI ok n).length (ivs (flI ok n)) ∧ Below w.heap.size w w'
section
variable (w : World) (W H : Int) (A : Option Addr) (n c : Nat) (f : Nat → Int) (C : Option Addr) (q cq : Nat) (cs : Nat → Int)
theorem impl_ptsBad (hr : Row .i64 w A n c f) (hv : validB W H n f = false) :
    Calls Tryd.prog 28 #[.agg #[.int .i64 W, .int .i64 H, .slice A n c], .slice C q cq] w (Gives (.tuple #[.slice none 0 0, .int .i64 1]) w) := by
  have HL := Lib.hid (show Below w.heap.size w (w.alloc (.cells #[.int .i64 W, .int .i64 H, .slice A n c] 26)) from (Below.refl _ _).alloc (Nat.le_refl _) _)
  have HR := Lib.hid hr
  have HV := Lib.hid hv
  clear hr hv
  go_enter Tryd.func28, Tryd.ntmps28
  go_wp2_with fail
  refine (impl_tracedBad _ (HR.out.below HL.out (Nat.le_refl _)) HV.out).mono ?_
  rintro e w1 ⟨rfl, b1⟩
  go_wp2
  go_ret2
  exact ⟨rfl, (HL.out.trans (b1.mono (by first | exact Nat.le_refl _ | (simp; done) | (simp; omega) | omega))).alloc (Nat.le_trans HL.out.size b1.size) _⟩
theorem impl_ptsOut (hr : Row .i64 w A n c f) (hq : Row .i64 w C q cq cs) (hq2 : q ≤ 1000000) (hT : Cel w 0 [.int .i64 1, .int .i64 1, .int .i64 (-1), .int .i64 1, .int .i64 1, .int .i64 (-1)]) (hv : validB W H n f = true) (hk : (List.range q).any (fun i => !(inB (cs i) 0 ((cnN W H f : Int) - 1))) = true) :
    Calls Tryd.prog 28 #[.agg #[.int .i64 W, .int .i64 H, .slice A n c], .slice C q cq] w (Gives (.tuple #[.slice none 0 0, .int .i64 2]) w) := by
  have HL := Lib.hid (show Below w.heap.size w (w.alloc (.cells #[.int .i64 W, .int .i64 H, .slice A n c] 26)) from (Below.refl _ _).alloc (Nat.le_refl _) _)
  have hcn := cnN_le hv
  unfold cnN at hk hcn
  have HR := Lib.hid hr
  have HQ := Lib.hid hq
  have HV := Lib.hid hv
  have HT := Lib.hid hT
  have HK := Lib.hid hk
  clear hr hv hT hk hq
  go_enter Tryd.func28, Tryd.ntmps28
  go_wp2_with fail
  refine (impl_tracedOk _ W H A n c f (HR.out.below HL.out (Nat.le_refl _)) (HT.out.below HL.out HT.out.1) HV.out).mono ?_
  rintro e w1 ⟨Au, cu, cv, rfl, h1, h2, h3, b1⟩
  have HB := Lib.hid (HL.out.trans (b1.mono (by first | exact Nat.le_refl _ | (simp; done) | (simp; omega) | omega)))
  clear b1 h1 h2 h3
  have X2 := (Below.refl w1.heap.size w1).alloc (Nat.le_refl _) (.cells #[.int .i64 W, .int .i64 H, .slice A n c, .slice Au (trs W H f (4 * W * H).toNat).cnt cu, .slice (some ⟨cv, 0, none⟩) (4 * W * H).toNat (4 * W * H).toNat] 73)
  have HN := Lib.hid (At.new w1 #[.int .i64 W, .int .i64 H, .slice A n c, .slice Au (trs W H f (4 * W * H).toNat).cnt cu, .slice (some ⟨cv, 0, none⟩) (4 * W * H).toNat (4 * W * H).toNat] 73)
  have HB2 := Lib.hid (HB.out.trans (X2.mono HB.out.size))
  clear X2
  go_wp2_with fail
  refine (lib_containsF1 _ C q cq cs w1.heap.size (fun i => !(inB (cs i) 0 (((trs W H f (4 * W * H).toNat).cnt : Int) - 1))) true (HQ.out.below HB2.out (Nat.le_refl _)) hq2 (Lib.hid fun i hi w' hb => impl_clos1 w' w1.heap.size W H (cs i) A Au n c _ cu cv _ _ (HN.out.below hb HN.out.lt) (by omega) rfl) HK.out).mono ?_
  rintro e w3 ⟨rfl, b3⟩
  go_wp2
  go_ret2
  exact ⟨rfl, HB2.out.trans (b3.mono HB2.out.size)⟩
end
set_option maxHeartbeats 8000000 in
set_option maxRecDepth 100000 in
theorem impl_ptsIn (w : World) (W H : Int) (A : Option Addr) (n c : Nat) (f : Nat → Int) (C : Option Addr) (q cq : Nat) (cs : Nat → Int) (hr : Row .i64 w A n c f) (hq : Row .i64 w C q cq cs) (hq2 : q ≤ 1000000) (hT : Cel w 0 [.int .i64 1, .int .i64 1, .int .i64 (-1), .int .i64 1, .int .i64 1, .int .i64 (-1)]) (hD : Cel w 1 [.int .i64 (-1), .int .i64 (-1), .int .i64 1, .int .i64 (-1), .int .i64 (-1), .int .i64 1, .int .i64 1, .int .i64 1]) (hv : validB W H n f = true)
    (hk : ∀ i, i < q → inB (cs i) 0 ((cnN W H f : Int) - 1) = true) (ok : Nat → Bool) (hok : ∀ k : Nat, (List.range q).all (fun i => mtB H (trE W H f).of (ptX W k) (ptY W k) (cs i)) = ok k) :
    Calls Tryd.prog 28 #[.agg #[.int .i64 W, .int .i64 H, .slice A n c], .slice C q cq] w (PtsO ok n w) := by
  have HL := Lib.hid (show Below w.heap.size w (w.alloc (.cells #[.int .i64 W, .int .i64 H, .slice A n c] 26)) from (Below.refl _ _).alloc (Nat.le_refl _) _)
  have HP := Lib.hid (At.new w #[.int .i64 W, .int .i64 H, .slice A n c] 26)
  obtain ⟨hW, hH, hn, -⟩ := validB_yes hv
  obtain ⟨m0, m1⟩ := segs_bd hW hH
  obtain ⟨i0, i1⟩ := inner_bd hW hH
  obtain ⟨a1, a2⟩ := side_mk hW
  obtain ⟨b1', b2'⟩ := side_mk hH
  have hn1 : n ≤ 112 := by omega
  have hcn := cnN_le hv
  have HPT := Lib.hid (fun (k : Nat) (hk : k < n) => (show SegsIn H (4 * W * H).toNat (ptX W k) (ptY W k) ∧ 1 ≤ ptX W k ∧ ptX W k ≤ 16 ∧ 1 ≤ ptY W k ∧ ptY W k ≤ 16 ∧ ∃ z0 z1 z2 z3 : Nat, me0 H (trE W H f).of (ptX W k) (ptY W k) = z0 ∧ me1 H (trE W H f).of (ptX W k) (ptY W k) = z1 ∧ me2 H (trE W H f).of (ptX W k) (ptY W k) = z2 ∧ me3 H (trE W H f).of (ptX W k) (ptY W k) = z3 ∧ z0 ≤ 256 ∧ z1 ≤ 256 ∧ z2 ≤ 256 ∧ z3 ≤ 256 by
    obtain ⟨p1, p2, p3, p4, p5⟩ := pt_in hW hH (k := (k : Int)) (by omega) (by omega)
    obtain ⟨z0, z1, z2, z3, e0, e1, e2, e3, -, q0, q1, q2, q3⟩ := pt_pairs hv (has_mk (W := W) (H := H) (x := ptX W k) (y := ptY W k) (by omega) (by omega) (by omega) (by omega) p5) (by unfold edgeB; simp; omega)
    exact ⟨segs_in hv p1 p2 p3 p4 p5, p1, by omega, p3, by omega, z0, z1, z2, z3, e0, e1, e2, e3, q0, q1, q2, q3⟩))
  have hcE : (trs W H f (4 * W * H).toNat).cnt = cnN W H f := rfl
  have heE : trs W H f (4 * W * H).toNat = trE W H f := rfl
  have HO := impl_tracedOk (w.alloc (.cells #[.int .i64 W, .int .i64 H, .slice A n c] 26)) W H A n c f (hr.below HL.out (Nat.le_refl _)) (hT.below HL.out hT.1) hv
  obtain ⟨N, hN⟩ : ∃ N, cnN W H f = N := ⟨_, rfl⟩
  obtain ⟨M, hM⟩ : ∃ M, (4 * W * H).toNat = M := ⟨_, rfl⟩
  unfold TracedOut at HO
  rw [hcE, heE, hM, hN] at HO
  rw [hN] at hk hcn
  rw [hM] at HPT
  have hM1 : M ≤ 256 := by omega
  have HO := Lib.hid HO
  have HK := Lib.hid hk
  have HOK := Lib.hid hok
  have HQ := Lib.hid hq
  have HD := Lib.hid hD
  have HKN := Lib.hid (show (List.range q).any (fun i => !(inB (cs i) 0 ((N : Int) - 1))) = false from List.any_eq_false.2 (fun i hi => by rw [hk i (List.mem_range.1 hi)]; simp))
  have HNI : Hid (inner W H = (n : Int)) := Lib.hid hn.symm
  obtain ⟨i2, hi2, hz0, hz1, hz2⟩ := info_parts infoI64
  clear hr hq hT hD hv hk hok hcE heE hM hN hn
  go_enter Tryd.func28, Tryd.ntmps28
  go_wp2_with fail
  refine HO.out.mono ?_
  rintro e w1 ⟨Au, cu, cv, rfl, h1, h2, h3, b1⟩
  have HB := Lib.hid (HL.out.trans (b1.mono (by first | exact Nat.le_refl _ | (simp; done) | (simp; omega) | omega)))
  have HPp := Lib.hid (HP.out.below b1 HP.out.lt)
  have HC := Lib.hid h2
  have hcv : w.heap.size < cv := by simp at h3; omega
  clear b1 h1 h2 h3 HO HL HP
  have X2 := (Below.refl w1.heap.size w1).alloc (Nat.le_refl _) (.cells #[.int .i64 W, .int .i64 H, .slice A n c, .slice Au N cu, .slice (some ⟨cv, 0, none⟩) M M] 73)
  have HN := Lib.hid (At.new w1 #[.int .i64 W, .int .i64 H, .slice A n c, .slice Au N cu, .slice (some ⟨cv, 0, none⟩) M M] 73)
  have HB2 := Lib.hid (HB.out.trans (X2.mono HB.out.size))
  have HP2 := Lib.hid (HPp.out.below X2 HPp.out.lt)
  have HC2 := Lib.hid (rowIs_below HC.out X2 HC.out.lt)
  have hpt : w.heap.size < w1.heap.size := HPp.out.lt
  have hcl := HC.out.lt
  clear X2 HB HPp HC
  go_wp2_with fail
  generalize w1.alloc (.cells #[.int .i64 W, .int .i64 H, .slice A n c, .slice Au N cu, .slice (some ⟨cv, 0, none⟩) M M] 73) = w2 at *
  generalize w1.heap.size = pt at *
  refine (lib_containsF1 _ C q cq cs pt (fun i => !(inB (cs i) 0 ((N : Int) - 1))) false (HQ.out.below HB2.out (Nat.le_refl _)) hq2 (Lib.hid fun i hi w' hb => impl_clos1 w' pt W H (cs i) A Au n c N cu cv M _ (HN.out.below hb HN.out.lt) (by omega) rfl) HKN.out).mono ?_
  rintro e w3 ⟨rfl, b3⟩
  have HB3 := Lib.hid (HB2.out.trans (b3.mono HB2.out.size))
  have HP3 := Lib.hid (HP2.out.below b3 HP2.out.lt)
  have HN3 := Lib.hid (HN.out.below b3 HN.out.lt)
  have HC3 := Lib.hid (rowIs_below HC2.out b3 HC2.out.lt)
  have p0 : w3.cell? ⟨w.heap.size, 0, none⟩ = some (.int .i64 W) := HP3.out.cellv (i := 0) rfl
  have p1 : w3.cell? ⟨w.heap.size, 1, none⟩ = some (.int .i64 H) := HP3.out.cellv (i := 1) rfl
  have p2 : w3.cell? ⟨w.heap.size, 2, none⟩ = some (.slice A n c) := HP3.out.cellv (i := 2) rfl
  have lp := HP3.out.lt
  clear b3 HB2 HP2 HN HC2
  have HO1 := Lib.hid (owns_empty w3 2)
  have X4 := (Below.refl w3.heap.size w3).alloc (Nat.le_refl _) (.cells #[] 2)
  have HB4 := Lib.hid (HB3.out.trans (X4.mono HB3.out.size))
  have HP4 := Lib.hid (HP3.out.below X4 HP3.out.lt)
  have HN4 := Lib.hid (HN3.out.below X4 HN3.out.lt)
  have HC4 := Lib.hid (rowIs_below HC3.out X4 HC3.out.lt)
  clear X4
  go_wp2_with fail
  refine (sizeOf_any _ W H A n c).mono ?_
  rintro e w5 ⟨rfl, b5⟩
  go_wp2_with fail
  refine (innerPts_any W H hW hH _).mono ?_
  rintro e w6 ⟨rfl, b6⟩
  rw [HNI.out]
  have b7 := b5.trans (b6.mono b5.size)
  have HB6 := Lib.hid (HB4.out.trans (b7.mono HB4.out.size))
  have HP6 := Lib.hid (HP4.out.below b7 HP4.out.lt)
  have HN6 := Lib.hid (HN4.out.below b7 HN4.out.lt)
  have HC6 := Lib.hid (rowIs_below HC4.out b7 HC4.out.lt)
  have HU6 := Lib.hid (owns_belowS HO1.out b7)
  have hz6 := b7.size
  have hz36 : w3.heap.size ≤ w6.heap.size := Nat.le_trans (by simp) hz6
  have hzw : w.heap.size ≤ w3.heap.size := HB3.out.size
  have hlp := HP3.out.lt
  have hlt3 := HN3.out.lt
  have hlc := HC3.out.lt
  clear p0 p1 p2 lp b5 b6 b7 HB3 HP3 HN3 HC3 HB4 HP4 HN4 HC4 HO1
  go_wp2_with fail
  go_loopw [8, 26] (fun u kv wr => ∃ k : Nat, k ≤ n ∧ kv = .int .i64 (k : Int) ∧ Hid (wr.ownsRow w3.heap.size 2 1 u (flI ok k).length (ivs (flI ok k))) ∧ Hid (Below w3.heap.size w6 wr)) (fun _ kv _ => n - (intOf kv).toNat)
  case atStart => exact ⟨0, Nat.zero_le _, rfl, HU6, Lib.hid (Below.refl _ _)⟩
  case round =>
    clear HU6
    obtain ⟨k, hk, rfl, HU, HB⟩ := hrel
    obtain ⟨Ao, co, rfl⟩ := owns_slice HU.out
    have hBz := HB.out.size
    have hln := flI_len (ok := ok) k
    by_cases hlt : k < n
    · obtain ⟨hSI, p1, p2, p3, p4, z0, z1, z2, z3, e0, e1, e2, e3, q0, q1, q2, q3⟩ := HPT.out k hlt
      have HSS := Lib.hid hSI
      have E0 := Lib.hid e0
      have E1 := Lib.hid e1
      have E2 := Lib.hid e2
      have E3 := Lib.hid e3
      have HBw := Lib.hid (HB6.out.trans (HB.out.mono hzw))
      have HPr := Lib.hid (HP6.out.below HB.out hlp)
      have HNr := Lib.hid (HN6.out.below HB.out hlt3)
      have HCr := Lib.hid (rowIs_below HC6.out HB.out hlc)
      have c0 : wr.cell? ⟨w.heap.size, 0, none⟩ = some (.int .i64 W) := HPr.out.cellv (i := 0) rfl
      have c1 : wr.cell? ⟨w.heap.size, 1, none⟩ = some (.int .i64 H) := HPr.out.cellv (i := 1) rfl
      have c2 : wr.cell? ⟨w.heap.size, 2, none⟩ = some (.slice A n c) := HPr.out.cellv (i := 2) rfl
      have t0 : wr.cell? ⟨pt, 0, none⟩ = some (.int .i64 W) := HNr.out.cellv (i := 0) rfl
      have t1 : wr.cell? ⟨pt, 1, none⟩ = some (.int .i64 H) := HNr.out.cellv (i := 1) rfl
      have t2 : wr.cell? ⟨pt, 2, none⟩ = some (.slice A n c) := HNr.out.cellv (i := 2) rfl
      have t3 : wr.cell? ⟨pt, 3, none⟩ = some (.slice Au N cu) := HNr.out.cellv (i := 3) rfl
      have t4 : wr.cell? ⟨pt, 4, none⟩ = some (.slice (some ⟨cv, 0, none⟩) M M) := HNr.out.cellv (i := 4) rfl
      have l0 := HPr.out.lt
      have l1 := HNr.out.lt
      have l2 := HCr.out.lt
      clear hSI e0 e1 e2 e3
      go_wp2_with fail
      refine wp_region_stab [some 29, some 30, some 31, some 32, some 33, some 34, some 10, none] [29, 30, 31, 32, 33, 34, 10] [] [(7, 6)]
        [(fun a lo hi u w' => u = .agg #[.int .i64 W, .int .i64 H, .slice A n c, .slice Au N cu, .slice (some ⟨cv, 0, none⟩) M M]), (fun a lo hi u w' => u = .agg #[.int .i64 W, .int .i64 H, .slice A n c]), (fun a lo hi u w' => u = .agg #[.int .i64 W, .int .i64 H]), (fun a lo hi u w' => u = .int .i64 (k : Int)),
          (fun a lo hi u w' => u = .agg #[.int .i64 (ptX W k), .int .i64 (ptY W k)]), (fun a lo hi u w' => ∃ mb : Nat, u = .map (some mb) ∧ lo ≤ mb ∧ mb < hi ∧ SetIs w' mb 4 (setK z0 z1 z2 z3 4)),
          (fun a lo hi u w' => u = .pointer (some ⟨lo, 0, none⟩) ∧ hi = lo + 1 ∧ At w' lo #[.map none] 78), (fun a lo hi u w' => a.getD 0 undef = .pointer (some ⟨lo, 0, none⟩) ∧ lo < hi ∧ At w' lo #[a.getD 1 undef] 78)]
        [[], [], [1], [], [2, 3], [0, 4], [], [6, 5]] [[], [], [], [], [], [], [], [10, 34]] (by kernel_rfl) (by kernel_rfl) (fun k hk => absurd hk List.not_mem_nil) ?gS ?gO ?gR
      case gS => exact ⟨fun _ _ _ _ _ _ h _ => h, fun _ _ _ _ _ _ h _ => h, fun _ _ _ _ _ _ h _ => h, fun _ _ _ _ _ _ h _ => h, fun _ _ _ _ _ _ h _ => h, fun _ _ _ _ _ _ ⟨mb, h1, h2, h3, h4⟩ e => ⟨mb, h1, h2, h3, h4.of_block (e.block mb h4.lt (.inr ⟨h2, h3⟩))⟩, fun _ _ _ _ _ _ ⟨h1, h2, h3⟩ e => ⟨h1, h2, h3.same e (.inr ⟨Nat.le_refl _, by omega⟩)⟩, fun _ _ _ _ _ _ ⟨h1, h2, h3⟩ e => ⟨h1, h2, h3.same e (.inr ⟨Nat.le_refl _, h2⟩)⟩, trivial⟩
      case gO =>
        refine ⟨?o0, ?o1, ?o2, ?o3, ?o4, ?o5, ?o6, ?o7, trivial⟩
        case o0 =>
          intro vs iv wk hx hf
          have ezz : pt < wk.heap.size := Nat.lt_of_lt_of_le l1 hx.size
          have e0 : wk.cell? ⟨pt, 0, none⟩ = some (.int .i64 W) := hx.cell t0 (by simp)
          have e1 : wk.cell? ⟨pt, 1, none⟩ = some (.int .i64 H) := hx.cell t1 (by simp)
          have e2 : wk.cell? ⟨pt, 2, none⟩ = some (.slice A n c) := hx.cell t2 (by simp)
          have e3 : wk.cell? ⟨pt, 3, none⟩ = some (.slice Au N cu) := hx.cell t3 (by simp)
          have e4 : wk.cell? ⟨pt, 4, none⟩ = some (.slice (some ⟨cv, 0, none⟩) M M) := hx.cell t4 (by simp)
          intro K' hK
          simp only [setA, setT, List.setIfInBounds_toArray, List.set_cons_zero, List.set_cons_succ]
          go_simp
          refine hK.out _ (.agg #[.int .i64 W, .int .i64 H, .slice A n c, .slice Au N cu, .slice (some ⟨cv, 0, none⟩) M M]) _ ?_ ?_
          · simp only [setA, setT, List.setIfInBounds_toArray, List.set_cons_zero, List.set_cons_succ, Act.put]
          · exact ⟨Ext.refl _ _, rfl⟩
        case o1 =>
          intro vs iv wk hx hf
          have ezz : w.heap.size < wk.heap.size := Nat.lt_of_lt_of_le l0 hx.size
          have e0 : wk.cell? ⟨w.heap.size, 0, none⟩ = some (.int .i64 W) := hx.cell c0 (by simp)
          have e1 : wk.cell? ⟨w.heap.size, 1, none⟩ = some (.int .i64 H) := hx.cell c1 (by simp)
          have e2 : wk.cell? ⟨w.heap.size, 2, none⟩ = some (.slice A n c) := hx.cell c2 (by simp)
          intro K' hK
          simp only [setA, setT, List.setIfInBounds_toArray, List.set_cons_zero, List.set_cons_succ]
          go_simp
          refine hK.out _ (.agg #[.int .i64 W, .int .i64 H, .slice A n c]) _ ?_ ?_
          · simp only [setA, setT, List.setIfInBounds_toArray, List.set_cons_zero, List.set_cons_succ, Act.put]
          · exact ⟨Ext.refl _ _, rfl⟩
        case o2 =>
          intro vs iv wk hx hf
          obtain ⟨⟨hq, -⟩, -⟩ := hf
          have hq : vs 30 = .agg #[.int .i64 W, .int .i64 H, .slice A n c] := hq
          intro K' hK
          simp only [setA, setT, List.setIfInBounds_toArray, List.set_cons_zero, List.set_cons_succ]
          go_simp
          refine (sizeOf_any _ W H A n c).mono ?_
          rintro e w2 ⟨rfl, b2⟩
          dsimp only
          refine hK.out _ (.agg #[.int .i64 W, .int .i64 H]) _ ?_ ?_
          · simp only [setA, setT, List.setIfInBounds_toArray, List.set_cons_zero, List.set_cons_succ, Act.put, hq]
          · exact ⟨Ext.of_below b2, rfl⟩
        case o3 =>
          intro vs iv wk hx hf
          intro K' hK
          simp only [setA, setT, List.setIfInBounds_toArray, List.set_cons_zero, List.set_cons_succ]
          go_simp
          refine hK.out _ (.int .i64 (k : Int)) _ ?_ ?_
          · simp only [setA, setT, List.setIfInBounds_toArray, List.set_cons_zero, List.set_cons_succ, Act.put]
          · exact ⟨Ext.refl _ _, rfl⟩
        case o4 =>
          intro vs iv wk hx hf
          obtain ⟨⟨hq1, -⟩, ⟨hq3, -⟩, -⟩ := hf
          have hq1 : vs 31 = .agg #[.int .i64 W, .int .i64 H] := hq1
          have hq3 : vs 32 = .int .i64 (k : Int) := hq3
          intro K' hK
          simp only [setA, setT, List.setIfInBounds_toArray, List.set_cons_zero, List.set_cons_succ]
          go_simp
          refine (pointAt_any _ W H k hW (by omega) (by omega)).mono ?_
          rintro e w2 ⟨rfl, b2⟩
          dsimp only
          refine hK.out _ (.agg #[.int .i64 (ptX W k), .int .i64 (ptY W k)]) _ ?_ ?_
          · simp only [setA, setT, List.setIfInBounds_toArray, List.set_cons_zero, List.set_cons_succ, Act.put, hq1, hq3]
          · exact ⟨Ext.of_below b2, rfl⟩
        case o5 =>
          intro vs iv wk hx hf
          obtain ⟨⟨hq1, -⟩, ⟨hq3, -⟩, -⟩ := hf
          have hq1 : vs 29 = .agg #[.int .i64 W, .int .i64 H, .slice A n c, .slice Au N cu, .slice (some ⟨cv, 0, none⟩) M M] := hq1
          have hq3 : vs 33 = .agg #[.int .i64 (ptX W k), .int .i64 (ptY W k)] := hq3
          have bk := ((Ext.drew _).trans hx).nil
          have hDk : Cel wk 1 [.int .i64 (-1), .int .i64 (-1), .int .i64 1, .int .i64 (-1), .int .i64 (-1), .int .i64 1, .int .i64 1, .int .i64 1] := HD.out.below (HBw.out.trans (bk.mono HBw.out.size)) HD.out.1
          have hOk := rowIs_below HCr.out bk l2
          intro K' hK
          simp only [setA, setT, List.setIfInBounds_toArray, List.set_cons_zero, List.set_cons_succ]
          go_simp
          refine (impl_through _ W H (ptX W k) (ptY W k) A Au n c N cu cv M z0 z1 z2 z3 _ hDk hOk hH p1 p2 p3 p4 HSS.out hM1 E0.out E1.out E2.out E3.out q0 q1 q2 q3).mono ?_
          rintro e w2 ⟨mb, rfl, hmb, hset, b2⟩
          dsimp only
          refine hK.out _ (.map (some mb)) _ ?_ ?_
          · simp only [setA, setT, List.setIfInBounds_toArray, List.set_cons_zero, List.set_cons_succ, Act.put, hq1, hq3]
          · exact ⟨Ext.of_below b2, mb, rfl, hmb, hset.lt, hset⟩
        case o6 =>
          intro vs iv wk hx hf
          intro K' hK
          simp only [setA, setT, List.setIfInBounds_toArray, List.set_cons_zero, List.set_cons_succ]
          go_simp
          refine hK.out _ (.pointer (some ⟨wk.heap.size, 0, none⟩)) _ ?_ ?_
          · simp only [setA, setT, List.setIfInBounds_toArray, List.set_cons_zero, List.set_cons_succ, Act.put]
          · exact ⟨Ext.alloc _ _, rfl, by simp, At.new _ _ _⟩
        case o7 =>
          intro vs iv wk hx hf
          obtain ⟨⟨⟨h9, hhi, hA9⟩, -⟩, ⟨⟨mb, hq5, hm1, hm2, hm3⟩, -⟩, -⟩ := hf
          have h9 : vs 10 = .pointer (some ⟨(iv 6).1, 0, none⟩) := h9
          have hq5 : vs 34 = .map (some mb) := hq5
          have hA9 : At wk (iv 6).1 #[.map none] 78 := hA9
          have hhi : (iv 6).2 = (iv 6).1 + 1 := hhi
          have x0 := hA9.cellv (i := 0) rfl
          have f0 := hA9.frozen 0
          have lx := hA9.lt
          have HA9 := Lib.hid hA9
          have HLT := Lib.hid (show (iv 6).1 < (iv 6).2 by omega)
          clear hA9 hhi hm1 hm2 hm3
          intro K' hK
          simp only [setA, setT, List.setIfInBounds_toArray, List.set_cons_zero, List.set_cons_succ]
          go_simp
          refine hK.out _ (undef) _ ?_ ?_
          · simp only [setA, setT, List.setIfInBounds_toArray, List.set_cons_zero, List.set_cons_succ, Act.put, h9, hq5]
          · exact ⟨HLT.out, Ext.set _ _ _ (by simp), h9, HLT.out, by have h := HA9.out.set 0 (.map (some mb)); rw [← hq5] at h ⊢; exact h⟩
      case gR =>
        intro vs iv w5x hx hap hf
        obtain ⟨-, -, -, -, -, ⟨⟨mb, hv5, hm1, hm2, hm3⟩, hi5⟩, -, ⟨⟨hs7, hl7, hB7⟩, hi7⟩, -⟩ := hf
        have hv5 : vs 34 = .map (some mb) := hv5
        have hs7 : vs 10 = .pointer (some ⟨(iv 6).1, 0, none⟩) := hs7
        have hB7 : At w5x (iv 6).1 #[vs 34] 78 := hB7
        rw [hv5] at hB7
        have HMB := Lib.hid hB7
        have HMS := Lib.hid hm3
        have bx := ((Ext.drew _).trans hx).nil
        simp only [setA, setT, List.setIfInBounds_toArray, List.set_cons_zero, List.set_cons_succ, hv5, hs7]
        have HBx := Lib.hid (HB.out.trans (bx.mono (Nat.le_trans hz36 hBz)))
        have HUx := Lib.hid (owns_belowS HU.out bx)
        have hQx := HQ.out.below (HBw.out.trans (bx.mono HBw.out.size)) (Nat.le_refl _)
        have HQx := Lib.hid hQx
        generalize (iv 6).1 = pm at *
        clear hx hap hm1 hm2 hm3 hi5 hi7 hl7 hB7 hs7 hv5 hQx bx c0 c1 c2 t0 t1 t2 t3 t4 l0 l1 l2 HB HU
        obtain ⟨v, hv⟩ : ∃ v, ok k = v := ⟨_, rfl⟩
        have HV := Lib.hid hv
        have HAN : Hid ((List.range q).any (fun i => !(mtB H (trE W H f).of (ptX W k) (ptY W k) (cs i))) = !v) := Lib.hid (by rw [← hv, ← HOK.out k, List.not_all_eq_any_not])
        clear hv
        go_wp2_with fail
        refine (lib_containsF2 _ C q cq cs pm (fun i => !(mtB H (trE W H f).of (ptX W k) (ptY W k) (cs i))) (!v) HQx.out hq2 (Lib.hid fun i hi w' hb => ?clo) HAN.out).mono ?_
        case clo =>
          obtain ⟨u1, u2⟩ := in_yes (HK.out i hi)
          obtain ⟨a, ha⟩ : ∃ a : Nat, cs i = a := ⟨(cs i).toNat, by omega⟩
          rw [ha, mt_set E0.out E1.out E2.out E3.out]
          exact impl_clos2 w' pm mb 4 _ a (HMB.out.below hb HMB.out.lt) (HMS.out.below hb HMS.out.lt) (by omega)
        rintro e w7 ⟨rfl, b7⟩
        have HB7 := Lib.hid (HBx.out.trans (b7.mono (Nat.le_trans hz36 HBx.out.size)))
        have HU7 := Lib.hid (owns_belowS HUx.out b7)
        have hz7 := HB7.out.size
        clear b7 HBx HUx HMB HMS HQx
        cases v
        · go_wp2
          go_roundw
          case rel => exact ⟨k + 1, by omega, by go_num, Lib.hid (by rw [flI_no HV.out]; exact HU7.out), HB7⟩
          case measure => simp [intOf]; omega
        · have HYS := Lib.hid (flI_yes (ok := ok) (k := k) HV.out)
          have hXa := Lib.hid ((Below.refl w7.heap.size w7).alloc (Nat.le_refl _) (.cells #[.int .i64 (k : Int)] 2))
          obtain ⟨ln, hlne⟩ : ∃ ln, (flI ok k).length = ln := ⟨_, rfl⟩
          rw [hlne] at HU7 hln ⊢
          have HLN := Lib.hid hlne
          clear hlne
          go_wp2_with (first
            | (at_builtin; refine wpList_append_lies _ (by rfl) _ _ _ (by rfl) w3.heap.size 2 i2 _ 1 8 Tryd.underlying24 hi2 hz0 hz1 hz2 rfl (by omega) _ ln (ivs (flI ok k)) (by rfl) (owns_belowS HU7.out hXa.out) ⟨w7.heap.size, 0, none⟩ 1 1 [.int .i64 (k : Int)] (by rfl) (by rfl) (World.news_of_block (cs := #[.int .i64 (k : Int)]) (t := 2) (fr := (0, 0)) (heap_alloc_new w7 _)) (fun u hu => by simp at hu; subst hu; rfl) (by omega) (by unfold maxLen; omega) (by omega) (by simp; omega) (w7.heap.size + 1) (by simp) ?_; intro g6 cap6 w8 hown6 hgrow6 hat6 hlt6; have HOW := Lib.hid hown6; have HGR := Lib.hid hgrow6; clear hown6 hgrow6 hat6))
          go_roundw
          case rel =>
            refine ⟨k + 1, by omega, by go_num, Lib.hid ?_, Lib.hid ((HB7.out.trans (hXa.out.mono (by omega))).grown HGR.out (by simp; omega) (fun b e => (HU7.out.lt b e).1))⟩
            have e : ivs (flI ok (k + 1)) = ivs (flI ok k) ++ [.int .i64 (k : Int)] := by rw [HYS.out]; unfold ivs; simp
            have e2 : (flI ok (k + 1)).length = ln + 1 := by rw [HYS.out, List.length_append, HLN.out]; rfl
            rw [e, e2]
            exact HOW.out
          case measure => simp [intOf]; omega
    · obtain rfl : k = n := by omega
      go_wp2
      go_ret2
      exact ⟨Ao, co, rfl, owns_base HU.out hzw, HB6.out.trans (HB.out.mono hzw)⟩
end Go.Proofs.YtneknajeecgnoaaDoor.Base
