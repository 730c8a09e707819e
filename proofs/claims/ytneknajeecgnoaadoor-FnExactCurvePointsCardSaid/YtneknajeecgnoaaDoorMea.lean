/-
  The inner points of curves: the model, the specification's CurvePoints and SharedPoints.
-/
import Derived.Test.YtneknajeecgnoaaDoorPpr
import Derived.Test.YtneknajeecgnoaaDoorIls
import Derived.Test.YtneknajeecgnoaaDoorWls
import Derived.Deep.AppendLies
namespace Go.Proofs.YtneknajeecgnoaaDoor.Base
open Go Go.RowKit
set_option linter.unusedVariables false
set_option linter.unusedSimpArgs false

/-- the numbers below n with a property -/
def flI (ok : Nat → Bool) : Nat → List Int
  | 0 => []
  | k + 1 => if ok k then flI ok k ++ [(k : Int)] else flI ok k
section
variable {ok ok' : Nat → Bool}
theorem flI_yes {k : Nat} (h : ok k = true) : flI ok (k + 1) = flI ok k ++ [(k : Int)] := if_pos h
theorem flI_no {k : Nat} (h : ok k = false) : flI ok (k + 1) = flI ok k := if_neg (by simp [h])
theorem flI_len : ∀ k, (flI ok k).length ≤ k
  | 0 => Nat.le_refl _
  | k + 1 => by
    have := flI_len k
    cases h : ok k
    · rw [flI_no h]; omega
    · rw [flI_yes h]; simp; omega
theorem flI_bd : ∀ k, ∀ x ∈ flI ok k, 0 ≤ x ∧ x < (k : Int)
  | 0 => fun x hx => by cases hx
  | k + 1 => fun x hx => by
    cases h : ok k
    · rw [flI_no h] at hx
      have := flI_bd k x hx
      omega
    · rw [flI_yes h] at hx
      rcases List.mem_append.1 hx with hx | hx
      · have := flI_bd k x hx
        omega
      · simp at hx
        omega
theorem flI_congr : ∀ n, (∀ k, k < n → ok k = ok' k) → flI ok n = flI ok' n
  | 0, _ => rfl
  | n + 1, h => by
    have ih := flI_congr n (fun k hk => h k (by omega))
    show (if ok n then flI ok n ++ [(n : Int)] else flI ok n) = (if ok' n then flI ok' n ++ [(n : Int)] else flI ok' n)
    rw [ih, h n (by omega)]
end
def flF (ok : Nat → Bool) (n i : Nat) : Int := (flI ok n).getD i 0
theorem fl_own {w : World} {base base' : Nat} {ok : Nat → Bool} {n : Nat} {A : Option Addr} {c : Nat} (hn : n ≤ 1000000) (h : w.ownsRow base 2 1 (.slice A (flI ok n).length c) (flI ok n).length (ivs (flI ok n))) (hb : base' ≤ base) : OwnS 1 w base' A (flI ok n).length c (flF ok n) :=
  ownS_ivs h (fun i hi => by
      unfold ivs
      simp [flF, hi])
    (fun i hi => by
      have hm : flF ok n i ∈ flI ok n := by
        unfold flF
        rw [List.getD_eq_getElem?_getD, List.getElem?_eq_getElem hi]
        exact List.getElem_mem hi
      have := flI_bd n _ hm
      exact WalkArith.wf_i64 (by omega)) hb (by unfold maxLen; have := flI_len (ok := ok) n; omega)
/-- a list of the numbers below n with a property, made by the call -/
def PtsL (ok : Nat → Bool) (n : Nat) (w : World) (e : Ending) (w' : World) : Prop :=
  ∃ A c, e = .returned (.slice A (flI ok n).length c) ∧ w'.ownsRow w.heap.size 2 1 (.slice A (flI ok n).length c) (flI ok n).length (ivs (flI ok n)) ∧ Below w.heap.size w w'
/-- a is the curve of a segment at a point -/
def mtB (H : Int) (g : Nat → Int) (x y a : Int) : Bool := me0 H g x y == a || (me1 H g x y == a || (me2 H g x y == a || me3 H g x y == a))
theorem spec_has4 (w : World) (b c : Nat) (m0 m1 m2 m3 a : Int) (v : Bool) (hv : (m0 == a || (m1 == a || (m2 == a || m3 == a))) = v) (h0 : w.cell? ⟨b, 0, none⟩ = some (.int .i64 m0)) (h1 : w.cell? ⟨b, 1, none⟩ = some (.int .i64 m1)) (h2 : w.cell? ⟨b, 2, none⟩ = some (.int .i64 m2)) (h3 : w.cell? ⟨b, 3, none⟩ = some (.int .i64 m3)) :
    Calls Tryd.prog 56 #[.slice (some ⟨b, 0, none⟩) 4 c, .int .i64 a] w (fun e w' => e = .returned (.bool v) ∧ w = w') := by
  have hb := World.block_lt_of_cell? _ _ h0
  have HV := Lib.hid hv
  clear hv
  go_enter Tryd.func56, Tryd.ntmps56
  go_wp2
  go_loop [5] (fun i => ∃ k : Nat, k ≤ 4 ∧ i = .int .i64 k ∧ Hid ((1 ≤ k → (m0 == a) = false) ∧ (2 ≤ k → (m1 == a) = false) ∧ (3 ≤ k → (m2 == a) = false) ∧ (4 ≤ k → (m3 == a) = false))) (fun i => 5 - (intOf i).toNat)
  case atStart => exact ⟨0, Nat.zero_le _, rfl, Lib.hid ⟨fun h => absurd h (by omega), fun h => absurd h (by omega), fun h => absurd h (by omega), fun h => absurd h (by omega)⟩⟩
  case round =>
    obtain ⟨k, hk, rfl, HN⟩ := hrel
    have hk4 : k = 0 ∨ k = 1 ∨ k = 2 ∨ k = 3 ∨ k = 4 := by omega
    rcases hk4 with rfl | rfl | rfl | rfl | rfl
    · cases e : (m0 == a)
      · go_wp2
        go_round
        case rel => exact ⟨1, by omega, rfl, Lib.hid ⟨fun _ => (by first | exact e | trivial), fun h => absurd h (by omega), fun h => absurd h (by omega), fun h => absurd h (by omega)⟩⟩
        case measure => simp [intOf]
      · have hv := HV.out
        rw [e] at hv
        have HT := Lib.hid hv
        clear hv
        go_wp2
        go_ret
        exact ⟨ret_bool (by rw [← HT.out]; rfl), rfl⟩
    · cases e : (m1 == a)
      · go_wp2
        go_round
        case rel => exact ⟨2, by omega, rfl, Lib.hid ⟨fun _ => HN.out.1 (by omega), fun _ => (by first | exact e | trivial), fun h => absurd h (by omega), fun h => absurd h (by omega)⟩⟩
        case measure => simp [intOf]
      · have hv := HV.out
        rw [e] at hv
        have HT := Lib.hid hv
        clear hv
        go_wp2
        go_ret
        exact ⟨ret_bool (by rw [← HT.out]; simp), rfl⟩
    · cases e : (m2 == a)
      · go_wp2
        go_round
        case rel => exact ⟨3, by omega, rfl, Lib.hid ⟨fun _ => HN.out.1 (by omega), fun _ => HN.out.2.1 (by omega), fun _ => (by first | exact e | trivial), fun h => absurd h (by omega)⟩⟩
        case measure => simp [intOf]
      · have hv := HV.out
        rw [e] at hv
        have HT := Lib.hid hv
        clear hv
        go_wp2
        go_ret
        exact ⟨ret_bool (by rw [← HT.out]; simp), rfl⟩
    · cases e : (m3 == a)
      · go_wp2
        go_round
        case rel => exact ⟨4, by omega, rfl, Lib.hid ⟨fun _ => HN.out.1 (by omega), fun _ => HN.out.2.1 (by omega), fun _ => HN.out.2.2.1 (by omega), fun _ => (by first | exact e | trivial)⟩⟩
        case measure => simp [intOf]
      · have hv := HV.out
        rw [e] at hv
        have HT := Lib.hid hv
        clear hv
        go_wp2
        go_ret
        exact ⟨ret_bool (by rw [← HT.out]; simp), rfl⟩
    · have hv := HV.out
      rw [HN.out.1 (by omega), HN.out.2.1 (by omega), HN.out.2.2.1 (by omega), HN.out.2.2.2 (by omega)] at hv
      have HT := Lib.hid hv
      clear hv
      go_wp2
      go_ret
      exact ⟨ret_bool (by rw [← HT.out]; rfl), rfl⟩
set_option maxHeartbeats 4000000 in
set_option maxRecDepth 100000 in
theorem spec_meetPts (w : World) (p b : Nat) (W H : Int) (A : Option Addr) (n c : Nat) (f g : Nat → Int) (a1 a2 : Int) (hb : Box w p W H A n c) (hr : Row .i64 w A n c f) (ho : w.rowIs b 2 (4 * W * H).toNat (fun s => .int .i64 (g s))) (hv : validB W H n f = true) (ok : Nat → Bool) (hok : ∀ k : Nat, (mtB H g (ptX W k) (ptY W k) a1 && mtB H g (ptX W k) (ptY W k) a2) = ok k) :
    Calls Tryd.prog 30 #[.pointer (some ⟨p, 0, none⟩), .slice (some ⟨b, 0, none⟩) (4 * W * H).toNat (4 * W * H).toNat, .int .i64 a1, .int .i64 a2] w (PtsL ok n w) := by
  obtain ⟨hW, hH, hn, -⟩ := validB_yes hv
  obtain ⟨m0, m1⟩ := segs_bd hW hH
  obtain ⟨i0, i1⟩ := inner_bd hW hH
  obtain ⟨w1', w2'⟩ := side_mk hW
  obtain ⟨v1', v2'⟩ := side_mk hH
  have HSI := Lib.hid (fun (k : Nat) (hk : k < n) => by
    obtain ⟨p1, p2, p3, p4, p5⟩ := pt_in hW hH (k := (k : Int)) (by omega) (by omega)
    exact (⟨segs_in hv p1 p2 p3 p4 p5, p1, by omega, p3, by omega⟩ : SegsIn H (4 * W * H).toNat (ptX W k) (ptY W k) ∧ 1 ≤ ptX W k ∧ ptX W k ≤ 16 ∧ 1 ≤ ptY W k ∧ ptY W k ≤ 16))
  have hM1 : (4 * W * H).toNat ≤ 256 := by omega
  have hb1 := hb.1
  have hcm := hr.2.1
  have hnc := hr.1
  unfold maxLen at hcm
  have HX := Lib.hid hb
  have HO := Lib.hid ho
  have hbl := ho.lt
  obtain ⟨i2, hi2, hz0, hz1, hz2⟩ := info_parts infoI64
  have HO1 := Lib.hid (owns_empty w 2)
  have hn1 : n ≤ 112 := by omega
  clear hb hr ho hv
  generalize (4 * W * H).toNat = M at HSI hM1 HO ⊢
  have HOK := Lib.hid hok
  clear hok
  go_enter Tryd.func30, Tryd.ntmps30
  go_wp2
  go_loopw [9, 10] (fun u kv wr => ∃ k : Nat, k ≤ n ∧ kv = .int .i64 k ∧ Hid (wr.ownsRow w.heap.size 2 1 u (flI ok k).length (ivs (flI ok k))) ∧ Hid (Below w.heap.size w wr)) (fun _ kv _ => 200 - (intOf kv).toNat)
  case atStart => exact ⟨0, Nat.zero_le _, rfl, HO1, Lib.hid ((Below.refl _ _).alloc (Nat.le_refl _) _)⟩
  case round =>
    clear HO1
    obtain ⟨k, hk, rfl, HU, HB⟩ := hrel
    obtain ⟨Ao, co, rfl⟩ := owns_slice HU.out
    have hBz := HB.out.size
    have hln := flI_len (ok := ok) k
    have HXr := Lib.hid (HX.out.below HB.out hb1)
    obtain ⟨hp, k0, k1, k2⟩ := id HXr.out
    by_cases hlt : k < n
    · obtain ⟨hSI, p1, p2, p3, p4⟩ := HSI.out k hlt
      have HSS := Lib.hid hSI
      obtain ⟨v1, hv1⟩ : ∃ v1, mtB H g (ptX W k) (ptY W k) a1 = v1 := ⟨_, rfl⟩
      obtain ⟨v2, hv2⟩ : ∃ v2, mtB H g (ptX W k) (ptY W k) a2 = v2 := ⟨_, rfl⟩
      have HOk := Lib.hid (show (v1 && v2) = ok k by rw [← hv1, ← hv2]; exact HOK.out k)
      have HV1 := Lib.hid hv1
      have HV2 := Lib.hid hv2
      clear hSI hv1 hv2
      go_wp2_with fail
      refine (specPoint _ p W H _ n c k HXr.out hW hH (by omega) (by omega)).mono ?_
      rintro e w2 ⟨rfl, b2⟩
      have HB2 := Lib.hid (HB.out.trans (b2.mono HB.out.size))
      have HU2 := Lib.hid (owns_belowS HU.out b2)
      clear b2 k0 k1 k2
      go_wp2_with fail
      refine (spec_meet _ p b W H _ n c M g (ptX W k) (ptY W k) (HX.out.below HB2.out hb1) (rowIs_below HO.out HB2.out hbl) hH p1 p2 p3 p4 HSS.out hM1).mono ?_
      rintro e w3 ⟨bq, cq, rfl, hq, q0, q1, q2, q3, b3⟩
      have HB3 := Lib.hid (HB2.out.trans (b3.mono HB2.out.size))
      have HU3 := Lib.hid (owns_belowS HU2.out b3)
      have HH1 := Lib.hid (spec_has4 w3 bq cq _ _ _ _ a1 v1 HV1.out q0 q1 q2 q3)
      have HH2 := Lib.hid (spec_has4 w3 bq cq _ _ _ _ a2 v2 HV2.out q0 q1 q2 q3)
      have hz3 := HB3.out.size
      clear b3 HSS HU HU2 HB2 HB q0 q1 q2 q3 hq HV1 HV2
      go_wp2_with fail
      refine HH1.out.mono ?_
      rintro e w4 ⟨rfl, hw⟩
      subst hw
      cases v1
      · go_wp2
        go_roundw
        case rel => exact ⟨k + 1, by omega, by go_num, Lib.hid (by rw [flI_no (by rw [← HOk.out]; rfl)]; exact HU3.out), HB3⟩
        case measure => simp [intOf]; omega
      · go_wp2_with fail
        refine HH2.out.mono ?_
        rintro e w4 ⟨rfl, hw⟩
        subst hw
        cases v2
        · go_wp2
          go_roundw
          case rel => exact ⟨k + 1, by omega, by go_num, Lib.hid (by rw [flI_no (by rw [← HOk.out]; rfl)]; exact HU3.out), HB3⟩
          case measure => simp [intOf]; omega
        · have HYS := Lib.hid (flI_yes (ok := ok) (k := k) (by rw [← HOk.out]; rfl))
          have hXa := Lib.hid ((Below.refl w3.heap.size w3).alloc (Nat.le_refl _) (.cells #[.int .i64 (k : Int)] 2))
          obtain ⟨ln, hlne⟩ : ∃ ln, (flI ok k).length = ln := ⟨_, rfl⟩
          rw [hlne] at HU3 hln ⊢
          have HLN := Lib.hid hlne
          clear hlne
          go_wp2_with (first
            | (at_builtin; refine wpList_append_lies _ (by rfl) _ _ _ (by rfl) w.heap.size 2 i2 _ 1 8 Tryd.underlying24 hi2 hz0 hz1 hz2 rfl (by omega) _ ln (ivs (flI ok k)) (by rfl) (owns_belowS HU3.out hXa.out) ⟨w3.heap.size, 0, none⟩ 1 1 [.int .i64 (k : Int)] (by rfl) (by rfl) (World.news_of_block (cs := #[.int .i64 (k : Int)]) (t := 2) (fr := (0, 0)) (heap_alloc_new w3 _)) (fun u hu => by simp at hu; subst hu; rfl) (by omega) (by unfold maxLen; omega) (by omega) (by simp; omega) (w3.heap.size + 1) (by simp) ?_; intro g6 cap6 w6 hown6 hgrow6 hat6 hlt6; have HOW := Lib.hid hown6; have HGR := Lib.hid hgrow6; clear hown6 hgrow6 hat6))
          go_roundw
          case rel =>
            refine ⟨k + 1, by omega, by go_num, Lib.hid ?_, Lib.hid ((HB3.out.trans (hXa.out.mono (by omega))).grown HGR.out (by simp; omega) (fun b e => (HU3.out.lt b e).1))⟩
            have e : ivs (flI ok (k + 1)) = ivs (flI ok k) ++ [.int .i64 (k : Int)] := by rw [HYS.out]; unfold ivs; simp
            have e2 : (flI ok (k + 1)).length = ln + 1 := by rw [HYS.out, List.length_append, HLN.out]; rfl
            rw [e, e2]
            exact HOW.out
          case measure => simp [intOf]; omega
    · obtain rfl : k = n := by omega
      go_wp2
      go_ret
      exact ⟨Ao, co, rfl, HU.out, HB.out⟩
/-- segments of both curves meet at the point with a number -/
noncomputable def okP (W H : Int) (f : Nat → Int) (a b : Int) (k : Nat) : Bool := mtB H (trE W H f).of (ptX W k) (ptY W k) a && mtB H (trE W H f).of (ptX W k) (ptY W k) b
noncomputable def cpN (W H : Int) (n : Nat) (f : Nat → Int) (a : Int) : Nat := if cuC W H n f a = 0 then (flI (okP W H f a a) n).length else 0
noncomputable def spN (W H : Int) (n : Nat) (f : Nat → Int) (a b : Int) : Nat := if ccC W H n f a b = 0 then (flI (okP W H f a b) n).length else 0
noncomputable def spF (W H : Int) (n : Nat) (f : Nat → Int) (a b : Int) : Nat → Int := flF (okP W H f a b) n
theorem cpN_bd (W H : Int) (n : Nat) (f : Nat → Int) (a : Int) : cpN W H n f a ≤ n := by
  unfold cpN
  split
  · exact flI_len n
  · omega
theorem spN_bd (W H : Int) (n : Nat) (f : Nat → Int) (a b : Int) : spN W H n f a b ≤ n := by
  unfold spN
  split
  · exact flI_len n
  · omega
theorem spec_curvePoints (w : World) (W H : Int) (A : Option Addr) (n c : Nat) (f : Nat → Int) (s : Int) (hr : Row .i64 w A n c f) :
    Calls Tryd.prog 12 #[.agg #[.int .i64 W, .int .i64 H, .slice A n c], .int .i64 s] w (ListOut 1 (cpN W H n f s) (spF W H n f s s) (cuC W H n f s) w.heap.size w) := by
  have HL := Lib.hid (show Below w.heap.size w (w.alloc (.cells #[.int .i64 W, .int .i64 H, .slice A n c] 26)) from (Below.refl _ _).alloc (Nat.le_refl _) _)
  have HX := Lib.hid (Box.new w 26 W H A n c)
  have HR := Lib.hid (hr.below HL.out (Nat.le_refl _))
  clear hr
  unfold cpN
  rcases cu_cases W H n f s with ⟨hv, e⟩ | ⟨hv, hk, e⟩ | ⟨hv, hk, e⟩
  · rw [e]
    have hc := spec_codeBad _ _ W H A n c f s HX.out HR.out hv
    have HC := Lib.hid hc
    clear hc hv e
    go_enter Tryd.func12, Tryd.ntmps12
    go_wp2_with fail
    refine HC.out.mono ?_
    rintro e w1 ⟨rfl, b1⟩
    go_wp2
    go_ret2
    exact ⟨none, 0, rfl, ownS_nil _ _ _ _, HL.out.trans (b1.mono (by first | exact Nat.le_refl _ | (simp; done) | (simp; omega) | omega))⟩
  · rw [e]
    have hc := spec_codeOut _ _ W H A n c f s HX.out HR.out hv hk
    have HC := Lib.hid hc
    clear hc hv hk e
    go_enter Tryd.func12, Tryd.ntmps12
    go_wp2_with fail
    refine HC.out.mono ?_
    rintro e w1 ⟨rfl, b1⟩
    go_wp2
    go_ret2
    exact ⟨none, 0, rfl, ownS_nil _ _ _ _, HL.out.trans (b1.mono (by first | exact Nat.le_refl _ | (simp; done) | (simp; omega) | omega))⟩
  · rw [e, if_pos rfl]
    have hc := spec_codeIn _ _ W H A n c f s HX.out HR.out hv hk
    have HC := Lib.hid hc
    have HV := Lib.hid hv
    have hn : n ≤ 1000000 := by
      obtain ⟨hW, hH, hn, -⟩ := validB_yes hv
      have := inner_bd hW hH
      omega
    clear hc hv hk e
    go_enter Tryd.func12, Tryd.ntmps12
    go_wp2_with fail
    refine HC.out.mono ?_
    rintro e w1 ⟨b, rfl, h1, b1⟩
    have HO := Lib.hid h1
    have HB := Lib.hid b1
    clear h1 b1
    go_wp2_with fail
    refine (spec_meetPts _ _ b W H A n c f _ s s (HX.out.below HB.out HX.out.1) (HR.out.below HB.out (Nat.le_refl _)) HO.out HV.out (okP W H f s s) (fun _ => rfl)).mono ?_
    rintro e w2 ⟨A2, c2, rfl, h2, b2⟩
    have HO2 := Lib.hid h2
    have HB2 := Lib.hid ((HL.out.trans (HB.out.mono (by first | exact Nat.le_refl _ | (simp; done) | (simp; omega) | omega))).trans (b2.mono (Nat.le_trans HL.out.size HB.out.size)))
    have hsz := Nat.le_trans HL.out.size HB.out.size
    clear h2 b2
    go_wp2
    go_ret2
    exact ⟨A2, c2, rfl, fl_own hn HO2.out hsz, HB2.out⟩
theorem spec_sharedPoints (w : World) (W H : Int) (A : Option Addr) (n c : Nat) (f : Nat → Int) (s t : Int) (hr : Row .i64 w A n c f) :
    Calls Tryd.prog 9 #[.agg #[.int .i64 W, .int .i64 H, .slice A n c], .int .i64 s, .int .i64 t] w (ListOut 1 (spN W H n f s t) (spF W H n f s t) (ccC W H n f s t) w.heap.size w) := by
  have HL := Lib.hid (show Below w.heap.size w (w.alloc (.cells #[.int .i64 W, .int .i64 H, .slice A n c] 26)) from (Below.refl _ _).alloc (Nat.le_refl _) _)
  have HX := Lib.hid (Box.new w 26 W H A n c)
  have HR := Lib.hid (hr.below HL.out (Nat.le_refl _))
  clear hr
  unfold spN ccC
  rcases cu_cases W H n f s with ⟨hv, e⟩ | ⟨hv, hk, e⟩ | ⟨hv, hk, e⟩
  · rw [e]
    have hc := spec_codeBad _ _ W H A n c f s HX.out HR.out hv
    have HC := Lib.hid hc
    clear hc hv e
    go_enter Tryd.func9, Tryd.ntmps9
    go_wp2_with fail
    refine HC.out.mono ?_
    rintro e w1 ⟨rfl, b1⟩
    go_wp2
    go_ret2
    exact ⟨none, 0, rfl, ownS_nil _ _ _ _, HL.out.trans (b1.mono (by first | exact Nat.le_refl _ | (simp; done) | (simp; omega) | omega))⟩
  · rw [e]
    have hc := spec_codeOut _ _ W H A n c f s HX.out HR.out hv hk
    have HC := Lib.hid hc
    clear hc hv hk e
    go_enter Tryd.func9, Tryd.ntmps9
    go_wp2_with fail
    refine HC.out.mono ?_
    rintro e w1 ⟨rfl, b1⟩
    go_wp2
    go_ret2
    exact ⟨none, 0, rfl, ownS_nil _ _ _ _, HL.out.trans (b1.mono (by first | exact Nat.le_refl _ | (simp; done) | (simp; omega) | omega))⟩
  · rw [e]
    have hc := spec_codeIn _ _ W H A n c f s HX.out HR.out hv hk
    have HC := Lib.hid hc
    have HV := Lib.hid hv
    have hn : n ≤ 1000000 := by
      obtain ⟨hW, hH, hn, -⟩ := validB_yes hv
      have := inner_bd hW hH
      omega
    rcases cu_cases W H n f t with ⟨hv2, e2⟩ | ⟨-, hk2, e2⟩ | ⟨-, hk2, e2⟩
    · rw [hv] at hv2; cases hv2
    · rw [e2]
      have HK2 := Lib.hid hk2
      clear hc hv hk e e2 hk2
      go_enter Tryd.func9, Tryd.ntmps9
      go_wp2_with fail
      refine HC.out.mono ?_
      rintro e w1 ⟨b, rfl, h1, b1⟩
      have HB := Lib.hid b1
      clear h1 b1
      go_wp2_with fail
      refine (spec_codeOut _ _ W H A n c f t (HX.out.below HB.out HX.out.1) (HR.out.below HB.out (Nat.le_refl _)) HV.out HK2.out).mono ?_
      rintro e w2 ⟨rfl, b2⟩
      go_wp2
      go_ret2
      exact ⟨none, 0, rfl, ownS_nil _ _ _ _, (HL.out.trans (HB.out.mono (by first | exact Nat.le_refl _ | (simp; done) | (simp; omega) | omega))).trans (b2.mono (Nat.le_trans HL.out.size HB.out.size))⟩
    · rw [e2]
      have HK2 := Lib.hid hk2
      clear hc hv hk e e2 hk2
      by_cases hst : s = t
      · subst hst
        simp only [if_true]
        go_enter Tryd.func9, Tryd.ntmps9
        go_wp2_with fail
        refine HC.out.mono ?_
        rintro e w1 ⟨b, rfl, h1, b1⟩
        have HB := Lib.hid b1
        clear h1 b1
        go_wp2_with fail
        refine (spec_codeIn _ _ W H A n c f s (HX.out.below HB.out HX.out.1) (HR.out.below HB.out (Nat.le_refl _)) HV.out HK2.out).mono ?_
        rintro e w2 ⟨b', rfl, h2, b2⟩
        have HB2 := Lib.hid ((HL.out.trans (HB.out.mono (by first | exact Nat.le_refl _ | (simp; done) | (simp; omega) | omega))).trans (b2.mono (Nat.le_trans HL.out.size HB.out.size)))
        clear h2 b2
        go_wp2
        go_ret2
        exact ⟨none, 0, rfl, ownS_nil _ _ _ _, HB2.out⟩
      · have hb : (s == t) = false := beq_eq_false_iff_ne.2 hst
        simp only [if_neg hst, if_true]
        clear hst
        go_enter Tryd.func9, Tryd.ntmps9
        go_wp2_with fail
        refine HC.out.mono ?_
        rintro e w1 ⟨b, rfl, h1, b1⟩
        have HB := Lib.hid b1
        have HO := Lib.hid h1
        clear h1 b1
        go_wp2_with fail
        refine (spec_codeIn _ _ W H A n c f t (HX.out.below HB.out HX.out.1) (HR.out.below HB.out (Nat.le_refl _)) HV.out HK2.out).mono ?_
        rintro e w2 ⟨b', rfl, h2, b2⟩
        have HO2 := Lib.hid (rowIs_below HO.out b2 HO.out.lt)
        have HB2 := Lib.hid (HB.out.trans (b2.mono HB.out.size))
        clear h2 b2
        go_wp2_with fail
        refine (spec_meetPts _ _ b W H A n c f _ s t (HX.out.below HB2.out HX.out.1) (HR.out.below HB2.out (Nat.le_refl _)) HO2.out HV.out (okP W H f s t) (fun _ => rfl)).mono ?_
        rintro e w3 ⟨A3, c3, rfl, h3, b3⟩
        have HO3 := Lib.hid h3
        have HB3 := Lib.hid ((HL.out.trans (HB2.out.mono (by first | exact Nat.le_refl _ | (simp; done) | (simp; omega) | omega))).trans (b3.mono (Nat.le_trans HL.out.size HB2.out.size)))
        have hsz := Nat.le_trans HL.out.size HB2.out.size
        clear h3 b3
        go_wp2
        go_ret2
        exact ⟨A3, c3, rfl, fl_own hn HO3.out hsz, HB3.out⟩
end Go.Proofs.YtneknajeecgnoaaDoor.Base
