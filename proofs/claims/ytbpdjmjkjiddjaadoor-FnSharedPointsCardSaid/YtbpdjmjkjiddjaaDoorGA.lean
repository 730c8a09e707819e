/-
  Several texts in one.
-/
import Derived.Test.YtbpdjmjkjiddjaaDoorPpr
import Derived.Test.YtbpdjmjkjiddjaaDoorIls
import Derived.Test.YtbpdjmjkjiddjaaDoorWls
import Derived.Deep.AppendLies
import Derived.Test.YtbpdjmjkjiddjaaDoorStab
import Derived.Test.YtbpdjmjkjiddjaaDoorTb2
import Derived.Test.YtbpdjmjkjiddjaaDoorTch
import Derived.Test.YtbpdjmjkjiddjaaDoorPan
import Derived.Laws.StructEq
import Derived.BigQuiet
import Derived.Test.YtbpdjmjkjiddjaaDoorDrw
import Derived.ArgAppend
import Derived.Test.YtbpdjmjkjiddjaaDoorClone
import Derived.Laws.AppendOwnNone
import Derived.Test.YtbpdjmjkjiddjaaDoorOwn
import Derived.Test.YtbpdjmjkjiddjaaDoorHeap
import Derived.Test.YtbpdjmjkjiddjaaDoorCrs
namespace Go.Proofs.YtbpdjmjkjiddjaaDoor.Base
open Go Go.RowKit
set_option linter.unusedVariables false
set_option linter.unusedSimpArgs false

/-- the numbers below n with a property -/
def flI (ok : Nat → Bool) : Nat → List Int
  | 0 => []
  | k + 1 => if ok k then flI ok k ++ [(k : Int)] else flI ok k
section
variable {ok ok' : Nat → Bool}
theorem flI_yes {k : Nat} (h : ok k = true) : flI ok (k + 1) = flI ok k ++ [(k : Int)] := if_pos h
theorem flI_no {k : Nat} (h : ok k = false) : flI ok (k + 1) = flI ok k := if_neg (by simp [h])
theorem flI_len : ∀ k, (flI ok k).length ≤ k
  | 0 => Nat.le_refl _
  | k + 1 => by
    have := flI_len k
    cases h : ok k
    · rw [flI_no h]; omega
    · rw [flI_yes h]; simp; omega
theorem flI_bd : ∀ k, ∀ x ∈ flI ok k, 0 ≤ x ∧ x < (k : Int)
  | 0 => fun x hx => by cases hx
  | k + 1 => fun x hx => by
    cases h : ok k
    · rw [flI_no h] at hx
      have := flI_bd k x hx
      omega
    · rw [flI_yes h] at hx
      rcases List.mem_append.1 hx with hx | hx
      · have := flI_bd k x hx
        omega
      · simp at hx
        omega
theorem flI_congr : ∀ n, (∀ k, k < n → ok k = ok' k) → flI ok n = flI ok' n
  | 0, _ => rfl
  | n + 1, h => by
    have ih := flI_congr n (fun k hk => h k (by omega))
    show (if ok n then flI ok n ++ [(n : Int)] else flI ok n) = (if ok' n then flI ok' n ++ [(n : Int)] else flI ok' n)
    rw [ih, h n (by omega)]
end
def flF (ok : Nat → Bool) (n i : Nat) : Int := (flI ok n).getD i 0
theorem fl_own {w : World} {base base' : Nat} {ok : Nat → Bool} {n : Nat} {A : Option Addr} {c : Nat} (hn : n ≤ 1000000) (h : w.ownsRow base 2 1 (.slice A (flI ok n).length c) (flI ok n).length (ivs (flI ok n))) (hb : base' ≤ base) : OwnS 1 w base' A (flI ok n).length c (flF ok n) :=
  ownS_ivs h (fun i hi => by
      unfold ivs
      simp [flF, hi])
    (fun i hi => by
      have hm : flF ok n i ∈ flI ok n := by
        unfold flF
        rw [List.getD_eq_getElem?_getD, List.getElem?_eq_getElem hi]
        exact List.getElem_mem hi
      have := flI_bd n _ hm
      exact WalkArith.wf_i64 (by omega)) hb (by unfold maxLen; have := flI_len (ok := ok) n; omega)
/-- a list of the numbers below n with a property, made by the call -/
def PtsL (ok : Nat → Bool) (n : Nat) (w : World) (e : Ending) (w' : World) : Prop :=
  ∃ A c, e = .returned (.slice A (flI ok n).length c) ∧ w'.ownsRow w.heap.size 2 1 (.slice A (flI ok n).length c) (flI ok n).length (ivs (flI ok n)) ∧ Below w.heap.size w w'
/-- a is the curve of a segment at a point -/
def mtB (H : Int) (g : Nat → Int) (x y a : Int) : Bool := me0 H g x y == a || (me1 H g x y == a || (me2 H g x y == a || me3 H g x y == a))
theorem spec_has4 (w : World) (b c : Nat) (m0 m1 m2 m3 a : Int) (v : Bool) (hv : (m0 == a || (m1 == a || (m2 == a || m3 == a))) = v) (h0 : w.cell? ⟨b, 0, none⟩ = some (.int .i64 m0)) (h1 : w.cell? ⟨b, 1, none⟩ = some (.int .i64 m1)) (h2 : w.cell? ⟨b, 2, none⟩ = some (.int .i64 m2)) (h3 : w.cell? ⟨b, 3, none⟩ = some (.int .i64 m3)) :
    Calls Tryd.prog 110 #[.slice (some ⟨b, 0, none⟩) 4 c, .int .i64 a] w (fun e w' => e = .returned (.bool v) ∧ w = w') := by
  have hb := World.block_lt_of_cell? _ _ h0
  have HV := Lib.hid hv
  clear hv
  go_enter Tryd.func110, Tryd.ntmps110
  go_wp2
  go_loop [5] (fun i => ∃ k : Nat, k ≤ 4 ∧ i = .int .i64 k ∧ Hid ((1 ≤ k → (m0 == a) = false) ∧ (2 ≤ k → (m1 == a) = false) ∧ (3 ≤ k → (m2 == a) = false) ∧ (4 ≤ k → (m3 == a) = false))) (fun i => 5 - (intOf i).toNat)
  case atStart => exact ⟨0, Nat.zero_le _, rfl, Lib.hid ⟨fun h => absurd h (by omega), fun h => absurd h (by omega), fun h => absurd h (by omega), fun h => absurd h (by omega)⟩⟩
  case round =>
    obtain ⟨k, hk, rfl, HN⟩ := hrel
    have hk4 : k = 0 ∨ k = 1 ∨ k = 2 ∨ k = 3 ∨ k = 4 := by omega
    rcases hk4 with rfl | rfl | rfl | rfl | rfl
    · cases e : (m0 == a)
      · go_wp2
        go_round
        case rel => exact ⟨1, by omega, rfl, Lib.hid ⟨fun _ => (by first | exact e | trivial), fun h => absurd h (by omega), fun h => absurd h (by omega), fun h => absurd h (by omega)⟩⟩
        case measure => simp [intOf]
      · have hv := HV.out
        rw [e] at hv
        have HT := Lib.hid hv
        clear hv
        go_wp2
        go_ret
        exact ⟨ret_bool (by rw [← HT.out]; rfl), rfl⟩
    · cases e : (m1 == a)
      · go_wp2
        go_round
        case rel => exact ⟨2, by omega, rfl, Lib.hid ⟨fun _ => HN.out.1 (by omega), fun _ => (by first | exact e | trivial), fun h => absurd h (by omega), fun h => absurd h (by omega)⟩⟩
        case measure => simp [intOf]
      · have hv := HV.out
        rw [e] at hv
        have HT := Lib.hid hv
        clear hv
        go_wp2
        go_ret
        exact ⟨ret_bool (by rw [← HT.out]; simp), rfl⟩
    · cases e : (m2 == a)
      · go_wp2
        go_round
        case rel => exact ⟨3, by omega, rfl, Lib.hid ⟨fun _ => HN.out.1 (by omega), fun _ => HN.out.2.1 (by omega), fun _ => (by first | exact e | trivial), fun h => absurd h (by omega)⟩⟩
        case measure => simp [intOf]
      · have hv := HV.out
        rw [e] at hv
        have HT := Lib.hid hv
        clear hv
        go_wp2
        go_ret
        exact ⟨ret_bool (by rw [← HT.out]; simp), rfl⟩
    · cases e : (m3 == a)
      · go_wp2
        go_round
        case rel => exact ⟨4, by omega, rfl, Lib.hid ⟨fun _ => HN.out.1 (by omega), fun _ => HN.out.2.1 (by omega), fun _ => HN.out.2.2.1 (by omega), fun _ => (by first | exact e | trivial)⟩⟩
        case measure => simp [intOf]
      · have hv := HV.out
        rw [e] at hv
        have HT := Lib.hid hv
        clear hv
        go_wp2
        go_ret
        exact ⟨ret_bool (by rw [← HT.out]; simp), rfl⟩
    · have hv := HV.out
      rw [HN.out.1 (by omega), HN.out.2.1 (by omega), HN.out.2.2.1 (by omega), HN.out.2.2.2 (by omega)] at hv
      have HT := Lib.hid hv
      clear hv
      go_wp2
      go_ret
      exact ⟨ret_bool (by rw [← HT.out]; rfl), rfl⟩
set_option maxHeartbeats 4000000 in
set_option maxRecDepth 100000 in
theorem spec_meetPts (w : World) (p b : Nat) (W H : Int) (A : Option Addr) (n c : Nat) (f g : Nat → Int) (a1 a2 : Int) (hb : Box w p W H A n c) (hr : Row .i64 w A n c f) (ho : w.rowIs b 2 (4 * W * H).toNat (fun s => .int .i64 (g s))) (hv : validB W H n f = true) (ok : Nat → Bool) (hok : ∀ k : Nat, (mtB H g (ptX W k) (ptY W k) a1 && mtB H g (ptX W k) (ptY W k) a2) = ok k) :
    Calls Tryd.prog 66 #[.pointer (some ⟨p, 0, none⟩), .slice (some ⟨b, 0, none⟩) (4 * W * H).toNat (4 * W * H).toNat, .int .i64 a1, .int .i64 a2] w (PtsL ok n w) := by
  obtain ⟨hW, hH, hn, -⟩ := validB_yes hv
  obtain ⟨m0, m1⟩ := segs_bd hW hH
  obtain ⟨i0, i1⟩ := inner_bd hW hH
  obtain ⟨w1', w2'⟩ := side_mk hW
  obtain ⟨v1', v2'⟩ := side_mk hH
  have HSI := Lib.hid (fun (k : Nat) (hk : k < n) => by
    obtain ⟨p1, p2, p3, p4, p5⟩ := pt_in hW hH (k := (k : Int)) (by omega) (by omega)
    exact (⟨segs_in hv p1 p2 p3 p4 p5, p1, by omega, p3, by omega⟩ : SegsIn H (4 * W * H).toNat (ptX W k) (ptY W k) ∧ 1 ≤ ptX W k ∧ ptX W k ≤ 16 ∧ 1 ≤ ptY W k ∧ ptY W k ≤ 16))
  have hM1 : (4 * W * H).toNat ≤ 256 := by omega
  have hb1 := hb.1
  have hcm := hr.2.1
  have hnc := hr.1
  unfold maxLen at hcm
  have HX := Lib.hid hb
  have HO := Lib.hid ho
  have hbl := ho.lt
  obtain ⟨i2, hi2, hz0, hz1, hz2⟩ := info_parts infoI64
  have HO1 := Lib.hid (owns_empty w 2)
  have hn1 : n ≤ 112 := by omega
  clear hb hr ho hv
  generalize (4 * W * H).toNat = M at HSI hM1 HO ⊢
  have HOK := Lib.hid hok
  clear hok
  go_enter Tryd.func66, Tryd.ntmps66
  go_wp2
  go_loopw [9, 10] (fun u kv wr => ∃ k : Nat, k ≤ n ∧ kv = .int .i64 k ∧ Hid (wr.ownsRow w.heap.size 2 1 u (flI ok k).length (ivs (flI ok k))) ∧ Hid (Below w.heap.size w wr)) (fun _ kv _ => 200 - (intOf kv).toNat)
  case atStart => exact ⟨0, Nat.zero_le _, rfl, HO1, Lib.hid ((Below.refl _ _).alloc (Nat.le_refl _) _)⟩
  case round =>
    clear HO1
    obtain ⟨k, hk, rfl, HU, HB⟩ := hrel
    obtain ⟨Ao, co, rfl⟩ := owns_slice HU.out
    have hBz := HB.out.size
    have hln := flI_len (ok := ok) k
    have HXr := Lib.hid (HX.out.below HB.out hb1)
    obtain ⟨hp, k0, k1, k2⟩ := id HXr.out
    by_cases hlt : k < n
    · obtain ⟨hSI, p1, p2, p3, p4⟩ := HSI.out k hlt
      have HSS := Lib.hid hSI
      obtain ⟨v1, hv1⟩ : ∃ v1, mtB H g (ptX W k) (ptY W k) a1 = v1 := ⟨_, rfl⟩
      obtain ⟨v2, hv2⟩ : ∃ v2, mtB H g (ptX W k) (ptY W k) a2 = v2 := ⟨_, rfl⟩
      have HOk := Lib.hid (show (v1 && v2) = ok k by rw [← hv1, ← hv2]; exact HOK.out k)
      have HV1 := Lib.hid hv1
      have HV2 := Lib.hid hv2
      clear hSI hv1 hv2
      go_wp2_with fail
      refine (specPoint _ p W H _ n c k HXr.out hW hH (by omega) (by omega)).mono ?_
      rintro e w2 ⟨rfl, b2⟩
      have HB2 := Lib.hid (HB.out.trans (b2.mono HB.out.size))
      have HU2 := Lib.hid (owns_belowS HU.out b2)
      clear b2 k0 k1 k2
      go_wp2_with fail
      refine (spec_meet _ p b W H _ n c M g (ptX W k) (ptY W k) (HX.out.below HB2.out hb1) (rowIs_below HO.out HB2.out hbl) hH p1 p2 p3 p4 HSS.out hM1).mono ?_
      rintro e w3 ⟨bq, cq, rfl, hq, q0, q1, q2, q3, b3⟩
      have HB3 := Lib.hid (HB2.out.trans (b3.mono HB2.out.size))
      have HU3 := Lib.hid (owns_belowS HU2.out b3)
      have HH1 := Lib.hid (spec_has4 w3 bq cq _ _ _ _ a1 v1 HV1.out q0 q1 q2 q3)
      have HH2 := Lib.hid (spec_has4 w3 bq cq _ _ _ _ a2 v2 HV2.out q0 q1 q2 q3)
      have hz3 := HB3.out.size
      clear b3 HSS HU HU2 HB2 HB q0 q1 q2 q3 hq HV1 HV2
      go_wp2_with fail
      refine HH1.out.mono ?_
      rintro e w4 ⟨rfl, hw⟩
      subst hw
      cases v1
      · go_wp2
        go_roundw
        case rel => exact ⟨k + 1, by omega, by go_num, Lib.hid (by rw [flI_no (by rw [← HOk.out]; rfl)]; exact HU3.out), HB3⟩
        case measure => simp [intOf]; omega
      · go_wp2_with fail
        refine HH2.out.mono ?_
        rintro e w4 ⟨rfl, hw⟩
        subst hw
        cases v2
        · go_wp2
          go_roundw
          case rel => exact ⟨k + 1, by omega, by go_num, Lib.hid (by rw [flI_no (by rw [← HOk.out]; rfl)]; exact HU3.out), HB3⟩
          case measure => simp [intOf]; omega
        · have HYS := Lib.hid (flI_yes (ok := ok) (k := k) (by rw [← HOk.out]; rfl))
          have hXa := Lib.hid ((Below.refl w3.heap.size w3).alloc (Nat.le_refl _) (.cells #[.int .i64 (k : Int)] 2))
          obtain ⟨ln, hlne⟩ : ∃ ln, (flI ok k).length = ln := ⟨_, rfl⟩
          rw [hlne] at HU3 hln ⊢
          have HLN := Lib.hid hlne
          clear hlne
          go_wp2_with (first
            | (at_builtin; refine wpList_append_lies _ (by rfl) _ _ _ (by rfl) w.heap.size 2 i2 _ 1 8 Tryd.underlying29 hi2 hz0 hz1 hz2 rfl (by omega) _ ln (ivs (flI ok k)) (by rfl) (owns_belowS HU3.out hXa.out) ⟨w3.heap.size, 0, none⟩ 1 1 [.int .i64 (k : Int)] (by rfl) (by rfl) (World.news_of_block (cs := #[.int .i64 (k : Int)]) (t := 2) (fr := (0, 0)) (heap_alloc_new w3 _)) (fun u hu => by simp at hu; subst hu; rfl) (by omega) (by unfold maxLen; omega) (by omega) (by simp; omega) (w3.heap.size + 1) (by simp) ?_; intro g6 cap6 w6 hown6 hgrow6 hat6 hlt6; have HOW := Lib.hid hown6; have HGR := Lib.hid hgrow6; clear hown6 hgrow6 hat6))
          go_roundw
          case rel =>
            refine ⟨k + 1, by omega, by go_num, Lib.hid ?_, Lib.hid ((HB3.out.trans (hXa.out.mono (by omega))).grown HGR.out (by simp; omega) (fun b e => (HU3.out.lt b e).1))⟩
            have e : ivs (flI ok (k + 1)) = ivs (flI ok k) ++ [.int .i64 (k : Int)] := by rw [HYS.out]; unfold ivs; simp
            have e2 : (flI ok (k + 1)).length = ln + 1 := by rw [HYS.out, List.length_append, HLN.out]; rfl
            rw [e, e2]
            exact HOW.out
          case measure => simp [intOf]; omega
    · obtain rfl : k = n := by omega
      go_wp2
      go_ret
      exact ⟨Ao, co, rfl, HU.out, HB.out⟩
/-- segments of both curves meet at the point with a number -/
noncomputable def okP (W H : Int) (f : Nat → Int) (a b : Int) (k : Nat) : Bool := mtB H (trE W H f).of (ptX W k) (ptY W k) a && mtB H (trE W H f).of (ptX W k) (ptY W k) b
noncomputable def cpN (W H : Int) (n : Nat) (f : Nat → Int) (a : Int) : Nat := if cuC W H n f a = 0 then (flI (okP W H f a a) n).length else 0
noncomputable def spN (W H : Int) (n : Nat) (f : Nat → Int) (a b : Int) : Nat := if ccC W H n f a b = 0 then (flI (okP W H f a b) n).length else 0
noncomputable def spF (W H : Int) (n : Nat) (f : Nat → Int) (a b : Int) : Nat → Int := flF (okP W H f a b) n
theorem cpN_bd (W H : Int) (n : Nat) (f : Nat → Int) (a : Int) : cpN W H n f a ≤ n := by
  unfold cpN
  split
  · exact flI_len n
  · omega
theorem spN_bd (W H : Int) (n : Nat) (f : Nat → Int) (a b : Int) : spN W H n f a b ≤ n := by
  unfold spN
  split
  · exact flI_len n
  · omega
theorem spec_curvePoints (w : World) (W H : Int) (A : Option Addr) (n c : Nat) (f : Nat → Int) (s : Int) (hr : Row .i64 w A n c f) :
    Calls Tryd.prog 30 #[.agg #[.int .i64 W, .int .i64 H, .slice A n c], .int .i64 s] w (ListOut 1 (cpN W H n f s) (spF W H n f s s) (cuC W H n f s) w.heap.size w) := by
  have HL := Lib.hid (show Below w.heap.size w (w.alloc (.cells #[.int .i64 W, .int .i64 H, .slice A n c] 35)) from (Below.refl _ _).alloc (Nat.le_refl _) _)
  have HX := Lib.hid (Box.new w 35 W H A n c)
  have HR := Lib.hid (hr.below HL.out (Nat.le_refl _))
  clear hr
  unfold cpN
  rcases cu_cases W H n f s with ⟨hv, e⟩ | ⟨hv, hk, e⟩ | ⟨hv, hk, e⟩
  · rw [e]
    have hc := spec_codeBad _ _ W H A n c f s HX.out HR.out hv
    have HC := Lib.hid hc
    clear hc hv e
    go_enter Tryd.func30, Tryd.ntmps30
    go_wp2_with fail
    refine HC.out.mono ?_
    rintro e w1 ⟨rfl, b1⟩
    go_wp2
    go_ret2
    exact ⟨none, 0, rfl, ownS_nil _ _ _ _, HL.out.trans (b1.mono (by first | exact Nat.le_refl _ | (simp; done) | (simp; omega) | omega))⟩
  · rw [e]
    have hc := spec_codeOut _ _ W H A n c f s HX.out HR.out hv hk
    have HC := Lib.hid hc
    clear hc hv hk e
    go_enter Tryd.func30, Tryd.ntmps30
    go_wp2_with fail
    refine HC.out.mono ?_
    rintro e w1 ⟨rfl, b1⟩
    go_wp2
    go_ret2
    exact ⟨none, 0, rfl, ownS_nil _ _ _ _, HL.out.trans (b1.mono (by first | exact Nat.le_refl _ | (simp; done) | (simp; omega) | omega))⟩
  · rw [e, if_pos rfl]
    have hc := spec_codeIn _ _ W H A n c f s HX.out HR.out hv hk
    have HC := Lib.hid hc
    have HV := Lib.hid hv
    have hn : n ≤ 1000000 := by
      obtain ⟨hW, hH, hn, -⟩ := validB_yes hv
      have := inner_bd hW hH
      omega
    clear hc hv hk e
    go_enter Tryd.func30, Tryd.ntmps30
    go_wp2_with fail
    refine HC.out.mono ?_
    rintro e w1 ⟨b, rfl, h1, b1⟩
    have HO := Lib.hid h1
    have HB := Lib.hid b1
    clear h1 b1
    go_wp2_with fail
    refine (spec_meetPts _ _ b W H A n c f _ s s (HX.out.below HB.out HX.out.1) (HR.out.below HB.out (Nat.le_refl _)) HO.out HV.out (okP W H f s s) (fun _ => rfl)).mono ?_
    rintro e w2 ⟨A2, c2, rfl, h2, b2⟩
    have HO2 := Lib.hid h2
    have HB2 := Lib.hid ((HL.out.trans (HB.out.mono (by first | exact Nat.le_refl _ | (simp; done) | (simp; omega) | omega))).trans (b2.mono (Nat.le_trans HL.out.size HB.out.size)))
    have hsz := Nat.le_trans HL.out.size HB.out.size
    clear h2 b2
    go_wp2
    go_ret2
    exact ⟨A2, c2, rfl, fl_own hn HO2.out hsz, HB2.out⟩
theorem spec_sharedPoints (w : World) (W H : Int) (A : Option Addr) (n c : Nat) (f : Nat → Int) (s t : Int) (hr : Row .i64 w A n c f) :
    Calls Tryd.prog 27 #[.agg #[.int .i64 W, .int .i64 H, .slice A n c], .int .i64 s, .int .i64 t] w (ListOut 1 (spN W H n f s t) (spF W H n f s t) (ccC W H n f s t) w.heap.size w) := by
  have HL := Lib.hid (show Below w.heap.size w (w.alloc (.cells #[.int .i64 W, .int .i64 H, .slice A n c] 35)) from (Below.refl _ _).alloc (Nat.le_refl _) _)
  have HX := Lib.hid (Box.new w 35 W H A n c)
  have HR := Lib.hid (hr.below HL.out (Nat.le_refl _))
  clear hr
  unfold spN ccC
  rcases cu_cases W H n f s with ⟨hv, e⟩ | ⟨hv, hk, e⟩ | ⟨hv, hk, e⟩
  · rw [e]
    have hc := spec_codeBad _ _ W H A n c f s HX.out HR.out hv
    have HC := Lib.hid hc
    clear hc hv e
    go_enter Tryd.func27, Tryd.ntmps27
    go_wp2_with fail
    refine HC.out.mono ?_
    rintro e w1 ⟨rfl, b1⟩
    go_wp2
    go_ret2
    exact ⟨none, 0, rfl, ownS_nil _ _ _ _, HL.out.trans (b1.mono (by first | exact Nat.le_refl _ | (simp; done) | (simp; omega) | omega))⟩
  · rw [e]
    have hc := spec_codeOut _ _ W H A n c f s HX.out HR.out hv hk
    have HC := Lib.hid hc
    clear hc hv hk e
    go_enter Tryd.func27, Tryd.ntmps27
    go_wp2_with fail
    refine HC.out.mono ?_
    rintro e w1 ⟨rfl, b1⟩
    go_wp2
    go_ret2
    exact ⟨none, 0, rfl, ownS_nil _ _ _ _, HL.out.trans (b1.mono (by first | exact Nat.le_refl _ | (simp; done) | (simp; omega) | omega))⟩
  · rw [e]
    have hc := spec_codeIn _ _ W H A n c f s HX.out HR.out hv hk
    have HC := Lib.hid hc
    have HV := Lib.hid hv
    have hn : n ≤ 1000000 := by
      obtain ⟨hW, hH, hn, -⟩ := validB_yes hv
      have := inner_bd hW hH
      omega
    rcases cu_cases W H n f t with ⟨hv2, e2⟩ | ⟨-, hk2, e2⟩ | ⟨-, hk2, e2⟩
    · rw [hv] at hv2; cases hv2
    · rw [e2]
      have HK2 := Lib.hid hk2
      clear hc hv hk e e2 hk2
      go_enter Tryd.func27, Tryd.ntmps27
      go_wp2_with fail
      refine HC.out.mono ?_
      rintro e w1 ⟨b, rfl, h1, b1⟩
      have HB := Lib.hid b1
      clear h1 b1
      go_wp2_with fail
      refine (spec_codeOut _ _ W H A n c f t (HX.out.below HB.out HX.out.1) (HR.out.below HB.out (Nat.le_refl _)) HV.out HK2.out).mono ?_
      rintro e w2 ⟨rfl, b2⟩
      go_wp2
      go_ret2
      exact ⟨none, 0, rfl, ownS_nil _ _ _ _, (HL.out.trans (HB.out.mono (by first | exact Nat.le_refl _ | (simp; done) | (simp; omega) | omega))).trans (b2.mono (Nat.le_trans HL.out.size HB.out.size))⟩
    · rw [e2]
      have HK2 := Lib.hid hk2
      clear hc hv hk e e2 hk2
      by_cases hst : s = t
      · subst hst
        simp only [if_true]
        go_enter Tryd.func27, Tryd.ntmps27
        go_wp2_with fail
        refine HC.out.mono ?_
        rintro e w1 ⟨b, rfl, h1, b1⟩
        have HB := Lib.hid b1
        clear h1 b1
        go_wp2_with fail
        refine (spec_codeIn _ _ W H A n c f s (HX.out.below HB.out HX.out.1) (HR.out.below HB.out (Nat.le_refl _)) HV.out HK2.out).mono ?_
        rintro e w2 ⟨b', rfl, h2, b2⟩
        have HB2 := Lib.hid ((HL.out.trans (HB.out.mono (by first | exact Nat.le_refl _ | (simp; done) | (simp; omega) | omega))).trans (b2.mono (Nat.le_trans HL.out.size HB.out.size)))
        clear h2 b2
        go_wp2
        go_ret2
        exact ⟨none, 0, rfl, ownS_nil _ _ _ _, HB2.out⟩
      · have hb : (s == t) = false := beq_eq_false_iff_ne.2 hst
        simp only [if_neg hst, if_true]
        clear hst
        go_enter Tryd.func27, Tryd.ntmps27
        go_wp2_with fail
        refine HC.out.mono ?_
        rintro e w1 ⟨b, rfl, h1, b1⟩
        have HB := Lib.hid b1
        have HO := Lib.hid h1
        clear h1 b1
        go_wp2_with fail
        refine (spec_codeIn _ _ W H A n c f t (HX.out.below HB.out HX.out.1) (HR.out.below HB.out (Nat.le_refl _)) HV.out HK2.out).mono ?_
        rintro e w2 ⟨b', rfl, h2, b2⟩
        have HO2 := Lib.hid (rowIs_below HO.out b2 HO.out.lt)
        have HB2 := Lib.hid (HB.out.trans (b2.mono HB.out.size))
        clear h2 b2
        go_wp2_with fail
        refine (spec_meetPts _ _ b W H A n c f _ s t (HX.out.below HB2.out HX.out.1) (HR.out.below HB2.out (Nat.le_refl _)) HO2.out HV.out (okP W H f s t) (fun _ => rfl)).mono ?_
        rintro e w3 ⟨A3, c3, rfl, h3, b3⟩
        have HO3 := Lib.hid h3
        have HB3 := Lib.hid ((HL.out.trans (HB2.out.mono (by first | exact Nat.le_refl _ | (simp; done) | (simp; omega) | omega))).trans (b3.mono (Nat.le_trans HL.out.size HB2.out.size)))
        have hsz := Nat.le_trans HL.out.size HB2.out.size
        clear h3 b3
        go_wp2
        go_ret2
        exact ⟨A3, c3, rfl, fl_own hn HO3.out hsz, HB3.out⟩
end Go.Proofs.YtbpdjmjkjiddjaaDoor.Base
namespace Go.Proofs.YtbpdjmjkjiddjaaDoor.Base
open Go Go.RowKit
set_option linter.unusedVariables false
set_option linter.unusedSimpArgs false

theorem lib_indexF1 (w : World) (A : Option Addr) (q cq : Nat) (cs : Nat → Int) (pb : Nat) (P : Nat → Bool) (hr : Row .i64 w A q cq cs) (hq : q ≤ 1000000)
    (HC : Hid (∀ i, i < q → ∀ w', Below w.heap.size w w' → Calls Tryd.prog 103 #[.int .i64 (cs i), .pointer (some ⟨pb, 0, none⟩)] w' (Gives (.bool (P i)) w'))) :
    Calls Tryd.prog 127 #[.slice A q cq, .func (.func 103) #[] #[.pointer (some ⟨pb, 0, none⟩)]] w (fun e w' => ∃ r : Int, e = .returned (.int .i64 r) ∧ decide (0 ≤ r) = (List.range q).any P ∧ Below w.heap.size w w') := by
  have HR := Lib.hid hr
  have hcm := hr.2.1
  have hnc := hr.1
  unfold maxLen at hcm
  clear hr
  go_enter Tryd.func127, Tryd.ntmps127
  go_wp2
  go_loopw [8] (fun iv wr => ∃ k : Nat, k ≤ q ∧ iv = .int .i64 (k : Int) ∧ Hid (∀ i, i < k → P i = false) ∧ Hid (Below w.heap.size w wr)) (fun iv _ => q - (intOf iv).toNat)
  case atStart => exact ⟨0, Nat.zero_le _, rfl, Lib.hid (fun i h => absurd h (Nat.not_lt_zero _)), Lib.hid (Below.refl _ _)⟩
  case round =>
    obtain ⟨k, hk, rfl, HN, HB⟩ := hrel
    by_cases hlt : k < q
    · obtain ⟨b, o, rfl, hbl, hc⟩ := (HR.out.below HB.out (Nat.le_refl _)).2.2.2 (by omega)
      have hck := hc k hlt
      have HCk := Lib.hid (HC.out k hlt wr HB.out)
      obtain ⟨v, hv⟩ : ∃ v, P k = v := ⟨_, rfl⟩
      rw [hv] at HCk
      have HV := Lib.hid hv
      clear hc hv
      go_wp2_with fail
      refine HCk.out.mono ?_
      rintro e w2 ⟨rfl, b2⟩
      have HB2 := Lib.hid (HB.out.trans (b2.mono HB.out.size))
      clear b2 HCk
      cases v
      · go_wp2
        go_roundw
        case rel =>
          refine ⟨k + 1, by omega, by go_num, Lib.hid (fun i hi => ?_), HB2⟩
          rcases Nat.lt_succ_iff_lt_or_eq.1 hi with h | rfl
          · exact HN.out i h
          · exact HV.out
        case measure => simp [intOf]; omega
      · have HT : Hid ((List.range q).any P = true) := Lib.hid (List.any_eq_true.2 ⟨k, List.mem_range.2 hlt, HV.out⟩)
        go_wp2
        go_ret
        exact ⟨(k : Int), rfl, by rw [HT.out]; simp, HB2.out⟩
    · obtain rfl : k = q := by omega
      have HT : Hid ((List.range k).any P = false) := Lib.hid (List.any_eq_false.2 (fun x hx => by rw [HN.out x (List.mem_range.1 hx)]; simp))
      go_wp2
      go_ret
      exact ⟨-1, rfl, by rw [HT.out]; rfl, HB.out⟩
theorem lib_containsF1 (w : World) (A : Option Addr) (q cq : Nat) (cs : Nat → Int) (pb : Nat) (P : Nat → Bool) (v : Bool) (hr : Row .i64 w A q cq cs) (hq : q ≤ 1000000)
    (HC : Hid (∀ i, i < q → ∀ w', Below w.heap.size w w' → Calls Tryd.prog 103 #[.int .i64 (cs i), .pointer (some ⟨pb, 0, none⟩)] w' (Gives (.bool (P i)) w'))) (hv : (List.range q).any P = v) :
    Calls Tryd.prog 102 #[.slice A q cq, .func (.func 103) #[] #[.pointer (some ⟨pb, 0, none⟩)]] w (Gives (.bool v) w) := by
  have HX := Lib.hid (lib_indexF1 w A q cq cs pb P hr hq HC)
  have HV := Lib.hid hv
  clear hr hv
  go_enter Tryd.func102, Tryd.ntmps102
  go_wp2_with fail
  refine HX.out.mono ?_
  rintro e w1 ⟨r, rfl, hd, b1⟩
  rw [HV.out] at hd
  clear HV HX HC
  cases v
  · have hr := of_decide_eq_false hd
    go_wp2
    go_ret
    exact ⟨ret_bool (by first | (simp; done) | (simp; omega)), b1⟩
  · have hr := of_decide_eq_true hd
    go_wp2
    go_ret
    exact ⟨ret_bool (by first | (simp; done) | (simp; omega)), b1⟩
theorem lib_indexF2 (w : World) (A : Option Addr) (q cq : Nat) (cs : Nat → Int) (pb : Nat) (P : Nat → Bool) (hr : Row .i64 w A q cq cs) (hq : q ≤ 1000000)
    (HC : Hid (∀ i, i < q → ∀ w', Below w.heap.size w w' → Calls Tryd.prog 106 #[.int .i64 (cs i), .pointer (some ⟨pb, 0, none⟩)] w' (Gives (.bool (P i)) w'))) :
    Calls Tryd.prog 127 #[.slice A q cq, .func (.func 106) #[] #[.pointer (some ⟨pb, 0, none⟩)]] w (fun e w' => ∃ r : Int, e = .returned (.int .i64 r) ∧ decide (0 ≤ r) = (List.range q).any P ∧ Below w.heap.size w w') := by
  have HR := Lib.hid hr
  have hcm := hr.2.1
  have hnc := hr.1
  unfold maxLen at hcm
  clear hr
  go_enter Tryd.func127, Tryd.ntmps127
  go_wp2
  go_loopw [8] (fun iv wr => ∃ k : Nat, k ≤ q ∧ iv = .int .i64 (k : Int) ∧ Hid (∀ i, i < k → P i = false) ∧ Hid (Below w.heap.size w wr)) (fun iv _ => q - (intOf iv).toNat)
  case atStart => exact ⟨0, Nat.zero_le _, rfl, Lib.hid (fun i h => absurd h (Nat.not_lt_zero _)), Lib.hid (Below.refl _ _)⟩
  case round =>
    obtain ⟨k, hk, rfl, HN, HB⟩ := hrel
    by_cases hlt : k < q
    · obtain ⟨b, o, rfl, hbl, hc⟩ := (HR.out.below HB.out (Nat.le_refl _)).2.2.2 (by omega)
      have hck := hc k hlt
      have HCk := Lib.hid (HC.out k hlt wr HB.out)
      obtain ⟨v, hv⟩ : ∃ v, P k = v := ⟨_, rfl⟩
      rw [hv] at HCk
      have HV := Lib.hid hv
      clear hc hv
      go_wp2_with fail
      refine HCk.out.mono ?_
      rintro e w2 ⟨rfl, b2⟩
      have HB2 := Lib.hid (HB.out.trans (b2.mono HB.out.size))
      clear b2 HCk
      cases v
      · go_wp2
        go_roundw
        case rel =>
          refine ⟨k + 1, by omega, by go_num, Lib.hid (fun i hi => ?_), HB2⟩
          rcases Nat.lt_succ_iff_lt_or_eq.1 hi with h | rfl
          · exact HN.out i h
          · exact HV.out
        case measure => simp [intOf]; omega
      · have HT : Hid ((List.range q).any P = true) := Lib.hid (List.any_eq_true.2 ⟨k, List.mem_range.2 hlt, HV.out⟩)
        go_wp2
        go_ret
        exact ⟨(k : Int), rfl, by rw [HT.out]; simp, HB2.out⟩
    · obtain rfl : k = q := by omega
      have HT : Hid ((List.range k).any P = false) := Lib.hid (List.any_eq_false.2 (fun x hx => by rw [HN.out x (List.mem_range.1 hx)]; simp))
      go_wp2
      go_ret
      exact ⟨-1, rfl, by rw [HT.out]; rfl, HB.out⟩
theorem lib_containsF2 (w : World) (A : Option Addr) (q cq : Nat) (cs : Nat → Int) (pb : Nat) (P : Nat → Bool) (v : Bool) (hr : Row .i64 w A q cq cs) (hq : q ≤ 1000000)
    (HC : Hid (∀ i, i < q → ∀ w', Below w.heap.size w w' → Calls Tryd.prog 106 #[.int .i64 (cs i), .pointer (some ⟨pb, 0, none⟩)] w' (Gives (.bool (P i)) w'))) (hv : (List.range q).any P = v) :
    Calls Tryd.prog 102 #[.slice A q cq, .func (.func 106) #[] #[.pointer (some ⟨pb, 0, none⟩)]] w (Gives (.bool v) w) := by
  have HX := Lib.hid (lib_indexF2 w A q cq cs pb P hr hq HC)
  have HV := Lib.hid hv
  clear hr hv
  go_enter Tryd.func102, Tryd.ntmps102
  go_wp2_with fail
  refine HX.out.mono ?_
  rintro e w1 ⟨r, rfl, hd, b1⟩
  rw [HV.out] at hd
  clear HV HX HC
  cases v
  · have hr := of_decide_eq_false hd
    go_wp2
    go_ret
    exact ⟨ret_bool (by first | (simp; done) | (simp; omega)), b1⟩
  · have hr := of_decide_eq_true hd
    go_wp2
    go_ret
    exact ⟨ret_bool (by first | (simp; done) | (simp; omega)), b1⟩
theorem impl_clos1 (w : World) (pt : Nat) (W H x : Int) (A Au : Option Addr) (n c N cu cv M : Nat) (v : Bool) (hT : At w pt #[.int .i64 W, .int .i64 H, .slice A n c, .slice Au N cu, .slice (some ⟨cv, 0, none⟩) M M] 84) (hN : N ≤ 1000) (h : inB x 0 ((N : Int) - 1) = v) :
    Calls Tryd.prog 103 #[.int .i64 x, .pointer (some ⟨pt, 0, none⟩)] w (Gives (.bool !v) w) := by
  have x0 := hT.cellv (i := 0) rfl
  have x1 := hT.cellv (i := 1) rfl
  have x2 := hT.cellv (i := 2) rfl
  have x3 := hT.cellv (i := 3) rfl
  have x4 := hT.cellv (i := 4) rfl
  have lx := hT.lt
  have HH := Lib.hid (hasCurve_is (w := w) (W := W) (H := H) (s := x) (A := A) (A1 := Au) (A2 := some ⟨cv, 0, none⟩) (n := n) (c := c) (n1 := N) (c1 := cu) (n2 := M) (c2 := M) hN h)
  clear hT h
  go_enter Tryd.func103, Tryd.ntmps103
  go_wp2_with fail
  refine HH.out.mono ?_
  rintro e w1 ⟨rfl, b1⟩
  cases v
  · go_wp2
    go_ret
    exact ⟨rfl, b1⟩
  · go_wp2
    go_ret
    exact ⟨rfl, b1⟩
theorem impl_clos2 (w : World) (pm mb k : Nat) (S : Nat → Bool) (a : Nat) (hM : At w pm #[.map (some mb)] 153) (hS : SetIs w mb k S) (ha : a ≤ 1000) :
    Calls Tryd.prog 106 #[.int .i64 (a : Int), .pointer (some ⟨pm, 0, none⟩)] w (Gives (.bool !(S a)) w) := by
  have x0 := hM.cellv (i := 0) rfl
  have lx := hM.lt
  have HH := Lib.hid (set_has w mb k S hS a (WalkArith.wf_i64 (by omega)))
  clear hM hS
  generalize S a = v at *
  go_enter Tryd.func106, Tryd.ntmps106
  go_wp2_with fail
  refine HH.out.mono ?_
  rintro e w1 ⟨rfl, hw⟩
  subst hw
  cases v
  · go_wp2
    go_ret
    exact ⟨rfl, Below.refl _ _⟩
  · go_wp2
    go_ret
    exact ⟨rfl, Below.refl _ _⟩
theorem mt_set {H : Int} {g : Nat → Int} {x y : Int} {z0 z1 z2 z3 a : Nat} (h0 : me0 H g x y = z0) (h1 : me1 H g x y = z1) (h2 : me2 H g x y = z2) (h3 : me3 H g x y = z3) : mtB H g x y (a : Int) = setK z0 z1 z2 z3 4 a := by
  unfold mtB setK
  rw [h0, h1, h2, h3, Bool.eq_iff_iff]
  simp only [Bool.or_eq_true, beq_iff_eq, Bool.or_false]
  omega
/-- a list of points and a code -/
def PtsO (ok : Nat → Bool) (n : Nat) (w : World) (e : Ending) (w' : World) : Prop :=
  ∃ A c, e = .returned (.tuple #[.slice A (flI ok n).length c, .int .i64 0]) ∧ w'.ownsRow w.heap.size 2 1 (.slice A (flI ok n).length c) (flI ok n).length (ivs (flI ok n)) ∧ Below w.heap.size w w'
section
variable (w : World) (W H : Int) (A : Option Addr) (n c : Nat) (f : Nat → Int) (C : Option Addr) (q cq : Nat) (cs : Nat → Int)
theorem impl_ptsBad (hr : Row .i64 w A n c f) (hv : validB W H n f = false) :
    Calls Tryd.prog 64 #[.agg #[.int .i64 W, .int .i64 H, .slice A n c], .slice C q cq] w (Gives (.tuple #[.slice none 0 0, .int .i64 1]) w) := by
  have HL := Lib.hid (show Below w.heap.size w (w.alloc (.cells #[.int .i64 W, .int .i64 H, .slice A n c] 35)) from (Below.refl _ _).alloc (Nat.le_refl _) _)
  have HR := Lib.hid hr
  have HV := Lib.hid hv
  clear hr hv
  go_enter Tryd.func64, Tryd.ntmps64
  go_wp2_with fail
  refine (impl_tracedBad _ (HR.out.below HL.out (Nat.le_refl _)) HV.out).mono ?_
  rintro e w1 ⟨rfl, b1⟩
  go_wp2
  go_ret2
  exact ⟨rfl, (HL.out.trans (b1.mono (by first | exact Nat.le_refl _ | (simp; done) | (simp; omega) | omega))).alloc (Nat.le_trans HL.out.size b1.size) _⟩
theorem impl_ptsOut (hr : Row .i64 w A n c f) (hq : Row .i64 w C q cq cs) (hq2 : q ≤ 1000000) (hT : Cel w 0 [.int .i64 1, .int .i64 1, .int .i64 (-1), .int .i64 1, .int .i64 1, .int .i64 (-1)]) (hv : validB W H n f = true) (hk : (List.range q).any (fun i => !(inB (cs i) 0 ((cnN W H f : Int) - 1))) = true) :
    Calls Tryd.prog 64 #[.agg #[.int .i64 W, .int .i64 H, .slice A n c], .slice C q cq] w (Gives (.tuple #[.slice none 0 0, .int .i64 2]) w) := by
  have HL := Lib.hid (show Below w.heap.size w (w.alloc (.cells #[.int .i64 W, .int .i64 H, .slice A n c] 35)) from (Below.refl _ _).alloc (Nat.le_refl _) _)
  have hcn := cnN_le hv
  unfold cnN at hk hcn
  have HR := Lib.hid hr
  have HQ := Lib.hid hq
  have HV := Lib.hid hv
  have HT := Lib.hid hT
  have HK := Lib.hid hk
  clear hr hv hT hk hq
  go_enter Tryd.func64, Tryd.ntmps64
  go_wp2_with fail
  refine (impl_tracedOk _ W H A n c f (HR.out.below HL.out (Nat.le_refl _)) (HT.out.below HL.out HT.out.1) HV.out).mono ?_
  rintro e w1 ⟨Au, cu, cv, rfl, h1, h2, h3, b1⟩
  have HB := Lib.hid (HL.out.trans (b1.mono (by first | exact Nat.le_refl _ | (simp; done) | (simp; omega) | omega)))
  clear b1 h1 h2 h3
  have X2 := (Below.refl w1.heap.size w1).alloc (Nat.le_refl _) (.cells #[.int .i64 W, .int .i64 H, .slice A n c, .slice Au (trs W H f (4 * W * H).toNat).cnt cu, .slice (some ⟨cv, 0, none⟩) (4 * W * H).toNat (4 * W * H).toNat] 84)
  have HN := Lib.hid (At.new w1 #[.int .i64 W, .int .i64 H, .slice A n c, .slice Au (trs W H f (4 * W * H).toNat).cnt cu, .slice (some ⟨cv, 0, none⟩) (4 * W * H).toNat (4 * W * H).toNat] 84)
  have HB2 := Lib.hid (HB.out.trans (X2.mono HB.out.size))
  clear X2
  go_wp2_with fail
  refine (lib_containsF1 _ C q cq cs w1.heap.size (fun i => !(inB (cs i) 0 (((trs W H f (4 * W * H).toNat).cnt : Int) - 1))) true (HQ.out.below HB2.out (Nat.le_refl _)) hq2 (Lib.hid fun i hi w' hb => impl_clos1 w' w1.heap.size W H (cs i) A Au n c _ cu cv _ _ (HN.out.below hb HN.out.lt) (by omega) rfl) HK.out).mono ?_
  rintro e w3 ⟨rfl, b3⟩
  go_wp2
  go_ret2
  exact ⟨rfl, HB2.out.trans (b3.mono HB2.out.size)⟩
end
set_option maxHeartbeats 8000000 in
set_option maxRecDepth 100000 in
theorem impl_ptsIn (w : World) (W H : Int) (A : Option Addr) (n c : Nat) (f : Nat → Int) (C : Option Addr) (q cq : Nat) (cs : Nat → Int) (hr : Row .i64 w A n c f) (hq : Row .i64 w C q cq cs) (hq2 : q ≤ 1000000) (hT : Cel w 0 [.int .i64 1, .int .i64 1, .int .i64 (-1), .int .i64 1, .int .i64 1, .int .i64 (-1)]) (hD : Cel w 4 [.int .i64 (-1), .int .i64 (-1), .int .i64 1, .int .i64 (-1), .int .i64 (-1), .int .i64 1, .int .i64 1, .int .i64 1]) (hv : validB W H n f = true)
    (hk : ∀ i, i < q → inB (cs i) 0 ((cnN W H f : Int) - 1) = true) (ok : Nat → Bool) (hok : ∀ k : Nat, (List.range q).all (fun i => mtB H (trE W H f).of (ptX W k) (ptY W k) (cs i)) = ok k) :
    Calls Tryd.prog 64 #[.agg #[.int .i64 W, .int .i64 H, .slice A n c], .slice C q cq] w (PtsO ok n w) := by
  have HL := Lib.hid (show Below w.heap.size w (w.alloc (.cells #[.int .i64 W, .int .i64 H, .slice A n c] 35)) from (Below.refl _ _).alloc (Nat.le_refl _) _)
  have HP := Lib.hid (At.new w #[.int .i64 W, .int .i64 H, .slice A n c] 35)
  obtain ⟨hW, hH, hn, -⟩ := validB_yes hv
  obtain ⟨m0, m1⟩ := segs_bd hW hH
  obtain ⟨i0, i1⟩ := inner_bd hW hH
  obtain ⟨a1, a2⟩ := side_mk hW
  obtain ⟨b1', b2'⟩ := side_mk hH
  have hn1 : n ≤ 112 := by omega
  have hcn := cnN_le hv
  have HPT := Lib.hid (fun (k : Nat) (hk : k < n) => (show SegsIn H (4 * W * H).toNat (ptX W k) (ptY W k) ∧ 1 ≤ ptX W k ∧ ptX W k ≤ 16 ∧ 1 ≤ ptY W k ∧ ptY W k ≤ 16 ∧ ∃ z0 z1 z2 z3 : Nat, me0 H (trE W H f).of (ptX W k) (ptY W k) = z0 ∧ me1 H (trE W H f).of (ptX W k) (ptY W k) = z1 ∧ me2 H (trE W H f).of (ptX W k) (ptY W k) = z2 ∧ me3 H (trE W H f).of (ptX W k) (ptY W k) = z3 ∧ z0 ≤ 256 ∧ z1 ≤ 256 ∧ z2 ≤ 256 ∧ z3 ≤ 256 by
    obtain ⟨p1, p2, p3, p4, p5⟩ := pt_in hW hH (k := (k : Int)) (by omega) (by omega)
    obtain ⟨z0, z1, z2, z3, e0, e1, e2, e3, -, q0, q1, q2, q3⟩ := pt_pairs hv (has_mk (W := W) (H := H) (x := ptX W k) (y := ptY W k) (by omega) (by omega) (by omega) (by omega) p5) (by unfold edgeB; simp; omega)
    exact ⟨segs_in hv p1 p2 p3 p4 p5, p1, by omega, p3, by omega, z0, z1, z2, z3, e0, e1, e2, e3, q0, q1, q2, q3⟩))
  have hcE : (trs W H f (4 * W * H).toNat).cnt = cnN W H f := rfl
  have heE : trs W H f (4 * W * H).toNat = trE W H f := rfl
  have HO := impl_tracedOk (w.alloc (.cells #[.int .i64 W, .int .i64 H, .slice A n c] 35)) W H A n c f (hr.below HL.out (Nat.le_refl _)) (hT.below HL.out hT.1) hv
  obtain ⟨N, hN⟩ : ∃ N, cnN W H f = N := ⟨_, rfl⟩
  obtain ⟨M, hM⟩ : ∃ M, (4 * W * H).toNat = M := ⟨_, rfl⟩
  unfold TracedOut at HO
  rw [hcE, heE, hM, hN] at HO
  rw [hN] at hk hcn
  rw [hM] at HPT
  have hM1 : M ≤ 256 := by omega
  have HO := Lib.hid HO
  have HK := Lib.hid hk
  have HOK := Lib.hid hok
  have HQ := Lib.hid hq
  have HD := Lib.hid hD
  have HKN := Lib.hid (show (List.range q).any (fun i => !(inB (cs i) 0 ((N : Int) - 1))) = false from List.any_eq_false.2 (fun i hi => by rw [hk i (List.mem_range.1 hi)]; simp))
  have HNI : Hid (inner W H = (n : Int)) := Lib.hid hn.symm
  obtain ⟨i2, hi2, hz0, hz1, hz2⟩ := info_parts infoI64
  clear hr hq hT hD hv hk hok hcE heE hM hN hn
  go_enter Tryd.func64, Tryd.ntmps64
  go_wp2_with fail
  refine HO.out.mono ?_
  rintro e w1 ⟨Au, cu, cv, rfl, h1, h2, h3, b1⟩
  have HB := Lib.hid (HL.out.trans (b1.mono (by first | exact Nat.le_refl _ | (simp; done) | (simp; omega) | omega)))
  have HPp := Lib.hid (HP.out.below b1 HP.out.lt)
  have HC := Lib.hid h2
  have hcv : w.heap.size < cv := by simp at h3; omega
  clear b1 h1 h2 h3 HO HL HP
  have X2 := (Below.refl w1.heap.size w1).alloc (Nat.le_refl _) (.cells #[.int .i64 W, .int .i64 H, .slice A n c, .slice Au N cu, .slice (some ⟨cv, 0, none⟩) M M] 84)
  have HN := Lib.hid (At.new w1 #[.int .i64 W, .int .i64 H, .slice A n c, .slice Au N cu, .slice (some ⟨cv, 0, none⟩) M M] 84)
  have HB2 := Lib.hid (HB.out.trans (X2.mono HB.out.size))
  have HP2 := Lib.hid (HPp.out.below X2 HPp.out.lt)
  have HC2 := Lib.hid (rowIs_below HC.out X2 HC.out.lt)
  have hpt : w.heap.size < w1.heap.size := HPp.out.lt
  have hcl := HC.out.lt
  clear X2 HB HPp HC
  go_wp2_with fail
  generalize w1.alloc (.cells #[.int .i64 W, .int .i64 H, .slice A n c, .slice Au N cu, .slice (some ⟨cv, 0, none⟩) M M] 84) = w2 at *
  generalize w1.heap.size = pt at *
  refine (lib_containsF1 _ C q cq cs pt (fun i => !(inB (cs i) 0 ((N : Int) - 1))) false (HQ.out.below HB2.out (Nat.le_refl _)) hq2 (Lib.hid fun i hi w' hb => impl_clos1 w' pt W H (cs i) A Au n c N cu cv M _ (HN.out.below hb HN.out.lt) (by omega) rfl) HKN.out).mono ?_
  rintro e w3 ⟨rfl, b3⟩
  have HB3 := Lib.hid (HB2.out.trans (b3.mono HB2.out.size))
  have HP3 := Lib.hid (HP2.out.below b3 HP2.out.lt)
  have HN3 := Lib.hid (HN.out.below b3 HN.out.lt)
  have HC3 := Lib.hid (rowIs_below HC2.out b3 HC2.out.lt)
  have p0 : w3.cell? ⟨w.heap.size, 0, none⟩ = some (.int .i64 W) := HP3.out.cellv (i := 0) rfl
  have p1 : w3.cell? ⟨w.heap.size, 1, none⟩ = some (.int .i64 H) := HP3.out.cellv (i := 1) rfl
  have p2 : w3.cell? ⟨w.heap.size, 2, none⟩ = some (.slice A n c) := HP3.out.cellv (i := 2) rfl
  have lp := HP3.out.lt
  clear b3 HB2 HP2 HN HC2
  have HO1 := Lib.hid (owns_empty w3 2)
  have X4 := (Below.refl w3.heap.size w3).alloc (Nat.le_refl _) (.cells #[] 2)
  have HB4 := Lib.hid (HB3.out.trans (X4.mono HB3.out.size))
  have HP4 := Lib.hid (HP3.out.below X4 HP3.out.lt)
  have HN4 := Lib.hid (HN3.out.below X4 HN3.out.lt)
  have HC4 := Lib.hid (rowIs_below HC3.out X4 HC3.out.lt)
  clear X4
  go_wp2_with fail
  refine (sizeOf_any _ W H A n c).mono ?_
  rintro e w5 ⟨rfl, b5⟩
  go_wp2_with fail
  refine (innerPts_any W H hW hH _).mono ?_
  rintro e w6 ⟨rfl, b6⟩
  rw [HNI.out]
  have b7 := b5.trans (b6.mono b5.size)
  have HB6 := Lib.hid (HB4.out.trans (b7.mono HB4.out.size))
  have HP6 := Lib.hid (HP4.out.below b7 HP4.out.lt)
  have HN6 := Lib.hid (HN4.out.below b7 HN4.out.lt)
  have HC6 := Lib.hid (rowIs_below HC4.out b7 HC4.out.lt)
  have HU6 := Lib.hid (owns_belowS HO1.out b7)
  have hz6 := b7.size
  have hz36 : w3.heap.size ≤ w6.heap.size := Nat.le_trans (by simp) hz6
  have hzw : w.heap.size ≤ w3.heap.size := HB3.out.size
  have hlp := HP3.out.lt
  have hlt3 := HN3.out.lt
  have hlc := HC3.out.lt
  clear p0 p1 p2 lp b5 b6 b7 HB3 HP3 HN3 HC3 HB4 HP4 HN4 HC4 HO1
  go_wp2_with fail
  go_loopw [8, 26] (fun u kv wr => ∃ k : Nat, k ≤ n ∧ kv = .int .i64 (k : Int) ∧ Hid (wr.ownsRow w3.heap.size 2 1 u (flI ok k).length (ivs (flI ok k))) ∧ Hid (Below w3.heap.size w6 wr)) (fun _ kv _ => n - (intOf kv).toNat)
  case atStart => exact ⟨0, Nat.zero_le _, rfl, HU6, Lib.hid (Below.refl _ _)⟩
  case round =>
    clear HU6
    obtain ⟨k, hk, rfl, HU, HB⟩ := hrel
    obtain ⟨Ao, co, rfl⟩ := owns_slice HU.out
    have hBz := HB.out.size
    have hln := flI_len (ok := ok) k
    by_cases hlt : k < n
    · obtain ⟨hSI, p1, p2, p3, p4, z0, z1, z2, z3, e0, e1, e2, e3, q0, q1, q2, q3⟩ := HPT.out k hlt
      have HSS := Lib.hid hSI
      have E0 := Lib.hid e0
      have E1 := Lib.hid e1
      have E2 := Lib.hid e2
      have E3 := Lib.hid e3
      have HBw := Lib.hid (HB6.out.trans (HB.out.mono hzw))
      have HPr := Lib.hid (HP6.out.below HB.out hlp)
      have HNr := Lib.hid (HN6.out.below HB.out hlt3)
      have HCr := Lib.hid (rowIs_below HC6.out HB.out hlc)
      have c0 : wr.cell? ⟨w.heap.size, 0, none⟩ = some (.int .i64 W) := HPr.out.cellv (i := 0) rfl
      have c1 : wr.cell? ⟨w.heap.size, 1, none⟩ = some (.int .i64 H) := HPr.out.cellv (i := 1) rfl
      have c2 : wr.cell? ⟨w.heap.size, 2, none⟩ = some (.slice A n c) := HPr.out.cellv (i := 2) rfl
      have t0 : wr.cell? ⟨pt, 0, none⟩ = some (.int .i64 W) := HNr.out.cellv (i := 0) rfl
      have t1 : wr.cell? ⟨pt, 1, none⟩ = some (.int .i64 H) := HNr.out.cellv (i := 1) rfl
      have t2 : wr.cell? ⟨pt, 2, none⟩ = some (.slice A n c) := HNr.out.cellv (i := 2) rfl
      have t3 : wr.cell? ⟨pt, 3, none⟩ = some (.slice Au N cu) := HNr.out.cellv (i := 3) rfl
      have t4 : wr.cell? ⟨pt, 4, none⟩ = some (.slice (some ⟨cv, 0, none⟩) M M) := HNr.out.cellv (i := 4) rfl
      have l0 := HPr.out.lt
      have l1 := HNr.out.lt
      have l2 := HCr.out.lt
      clear hSI e0 e1 e2 e3
      go_wp2_with fail
      refine wp_region_stab [some 29, some 30, some 31, some 32, some 33, some 34, some 10, none] [29, 30, 31, 32, 33, 34, 10] [] [(7, 6)]
        [(fun a lo hi u w' => u = .agg #[.int .i64 W, .int .i64 H, .slice A n c, .slice Au N cu, .slice (some ⟨cv, 0, none⟩) M M]), (fun a lo hi u w' => u = .agg #[.int .i64 W, .int .i64 H, .slice A n c]), (fun a lo hi u w' => u = .agg #[.int .i64 W, .int .i64 H]), (fun a lo hi u w' => u = .int .i64 (k : Int)),
          (fun a lo hi u w' => u = .agg #[.int .i64 (ptX W k), .int .i64 (ptY W k)]), (fun a lo hi u w' => ∃ mb : Nat, u = .map (some mb) ∧ lo ≤ mb ∧ mb < hi ∧ SetIs w' mb 4 (setK z0 z1 z2 z3 4)),
          (fun a lo hi u w' => u = .pointer (some ⟨lo, 0, none⟩) ∧ hi = lo + 1 ∧ At w' lo #[.map none] 153), (fun a lo hi u w' => a.getD 0 undef = .pointer (some ⟨lo, 0, none⟩) ∧ lo < hi ∧ At w' lo #[a.getD 1 undef] 153)]
        [[], [], [1], [], [2, 3], [0, 4], [], [6, 5]] [[], [], [], [], [], [], [], [10, 34]] (by kernel_rfl) (by kernel_rfl) (fun k hk => absurd hk List.not_mem_nil) ?gS ?gO ?gR
      case gS => exact ⟨fun _ _ _ _ _ _ h _ => h, fun _ _ _ _ _ _ h _ => h, fun _ _ _ _ _ _ h _ => h, fun _ _ _ _ _ _ h _ => h, fun _ _ _ _ _ _ h _ => h, fun _ _ _ _ _ _ ⟨mb, h1, h2, h3, h4⟩ e => ⟨mb, h1, h2, h3, h4.of_block (e.block mb h4.lt (.inr ⟨h2, h3⟩))⟩, fun _ _ _ _ _ _ ⟨h1, h2, h3⟩ e => ⟨h1, h2, h3.same e (.inr ⟨Nat.le_refl _, by omega⟩)⟩, fun _ _ _ _ _ _ ⟨h1, h2, h3⟩ e => ⟨h1, h2, h3.same e (.inr ⟨Nat.le_refl _, h2⟩)⟩, trivial⟩
      case gO =>
        refine ⟨?o0, ?o1, ?o2, ?o3, ?o4, ?o5, ?o6, ?o7, trivial⟩
        case o0 =>
          intro vs iv wk hx hf
          have ezz : pt < wk.heap.size := Nat.lt_of_lt_of_le l1 hx.size
          have e0 : wk.cell? ⟨pt, 0, none⟩ = some (.int .i64 W) := hx.cell t0 (by simp)
          have e1 : wk.cell? ⟨pt, 1, none⟩ = some (.int .i64 H) := hx.cell t1 (by simp)
          have e2 : wk.cell? ⟨pt, 2, none⟩ = some (.slice A n c) := hx.cell t2 (by simp)
          have e3 : wk.cell? ⟨pt, 3, none⟩ = some (.slice Au N cu) := hx.cell t3 (by simp)
          have e4 : wk.cell? ⟨pt, 4, none⟩ = some (.slice (some ⟨cv, 0, none⟩) M M) := hx.cell t4 (by simp)
          intro K' hK
          simp only [setA, setT, List.setIfInBounds_toArray, List.set_cons_zero, List.set_cons_succ]
          go_simp
          refine hK.out _ (.agg #[.int .i64 W, .int .i64 H, .slice A n c, .slice Au N cu, .slice (some ⟨cv, 0, none⟩) M M]) _ ?_ ?_
          · simp only [setA, setT, List.setIfInBounds_toArray, List.set_cons_zero, List.set_cons_succ, Act.put]
          · exact ⟨Ext.refl _ _, rfl⟩
        case o1 =>
          intro vs iv wk hx hf
          have ezz : w.heap.size < wk.heap.size := Nat.lt_of_lt_of_le l0 hx.size
          have e0 : wk.cell? ⟨w.heap.size, 0, none⟩ = some (.int .i64 W) := hx.cell c0 (by simp)
          have e1 : wk.cell? ⟨w.heap.size, 1, none⟩ = some (.int .i64 H) := hx.cell c1 (by simp)
          have e2 : wk.cell? ⟨w.heap.size, 2, none⟩ = some (.slice A n c) := hx.cell c2 (by simp)
          intro K' hK
          simp only [setA, setT, List.setIfInBounds_toArray, List.set_cons_zero, List.set_cons_succ]
          go_simp
          refine hK.out _ (.agg #[.int .i64 W, .int .i64 H, .slice A n c]) _ ?_ ?_
          · simp only [setA, setT, List.setIfInBounds_toArray, List.set_cons_zero, List.set_cons_succ, Act.put]
          · exact ⟨Ext.refl _ _, rfl⟩
        case o2 =>
          intro vs iv wk hx hf
          obtain ⟨⟨hq, -⟩, -⟩ := hf
          have hq : vs 30 = .agg #[.int .i64 W, .int .i64 H, .slice A n c] := hq
          intro K' hK
          simp only [setA, setT, List.setIfInBounds_toArray, List.set_cons_zero, List.set_cons_succ]
          go_simp
          refine (sizeOf_any _ W H A n c).mono ?_
          rintro e w2 ⟨rfl, b2⟩
          dsimp only
          refine hK.out _ (.agg #[.int .i64 W, .int .i64 H]) _ ?_ ?_
          · simp only [setA, setT, List.setIfInBounds_toArray, List.set_cons_zero, List.set_cons_succ, Act.put, hq]
          · exact ⟨Ext.of_below b2, rfl⟩
        case o3 =>
          intro vs iv wk hx hf
          intro K' hK
          simp only [setA, setT, List.setIfInBounds_toArray, List.set_cons_zero, List.set_cons_succ]
          go_simp
          refine hK.out _ (.int .i64 (k : Int)) _ ?_ ?_
          · simp only [setA, setT, List.setIfInBounds_toArray, List.set_cons_zero, List.set_cons_succ, Act.put]
          · exact ⟨Ext.refl _ _, rfl⟩
        case o4 =>
          intro vs iv wk hx hf
          obtain ⟨⟨hq1, -⟩, ⟨hq3, -⟩, -⟩ := hf
          have hq1 : vs 31 = .agg #[.int .i64 W, .int .i64 H] := hq1
          have hq3 : vs 32 = .int .i64 (k : Int) := hq3
          intro K' hK
          simp only [setA, setT, List.setIfInBounds_toArray, List.set_cons_zero, List.set_cons_succ]
          go_simp
          refine (pointAt_any _ W H k hW (by omega) (by omega)).mono ?_
          rintro e w2 ⟨rfl, b2⟩
          dsimp only
          refine hK.out _ (.agg #[.int .i64 (ptX W k), .int .i64 (ptY W k)]) _ ?_ ?_
          · simp only [setA, setT, List.setIfInBounds_toArray, List.set_cons_zero, List.set_cons_succ, Act.put, hq1, hq3]
          · exact ⟨Ext.of_below b2, rfl⟩
        case o5 =>
          intro vs iv wk hx hf
          obtain ⟨⟨hq1, -⟩, ⟨hq3, -⟩, -⟩ := hf
          have hq1 : vs 29 = .agg #[.int .i64 W, .int .i64 H, .slice A n c, .slice Au N cu, .slice (some ⟨cv, 0, none⟩) M M] := hq1
          have hq3 : vs 33 = .agg #[.int .i64 (ptX W k), .int .i64 (ptY W k)] := hq3
          have bk := ((Ext.drew _).trans hx).nil
          have hDk : Cel wk 4 [.int .i64 (-1), .int .i64 (-1), .int .i64 1, .int .i64 (-1), .int .i64 (-1), .int .i64 1, .int .i64 1, .int .i64 1] := HD.out.below (HBw.out.trans (bk.mono HBw.out.size)) HD.out.1
          have hOk := rowIs_below HCr.out bk l2
          intro K' hK
          simp only [setA, setT, List.setIfInBounds_toArray, List.set_cons_zero, List.set_cons_succ]
          go_simp
          refine (impl_through _ W H (ptX W k) (ptY W k) A Au n c N cu cv M z0 z1 z2 z3 _ hDk hOk hH p1 p2 p3 p4 HSS.out hM1 E0.out E1.out E2.out E3.out q0 q1 q2 q3).mono ?_
          rintro e w2 ⟨mb, rfl, hmb, hset, b2⟩
          dsimp only
          refine hK.out _ (.map (some mb)) _ ?_ ?_
          · simp only [setA, setT, List.setIfInBounds_toArray, List.set_cons_zero, List.set_cons_succ, Act.put, hq1, hq3]
          · exact ⟨Ext.of_below b2, mb, rfl, hmb, hset.lt, hset⟩
        case o6 =>
          intro vs iv wk hx hf
          intro K' hK
          simp only [setA, setT, List.setIfInBounds_toArray, List.set_cons_zero, List.set_cons_succ]
          go_simp
          refine hK.out _ (.pointer (some ⟨wk.heap.size, 0, none⟩)) _ ?_ ?_
          · simp only [setA, setT, List.setIfInBounds_toArray, List.set_cons_zero, List.set_cons_succ, Act.put]
          · exact ⟨Ext.alloc _ _, rfl, by simp, At.new _ _ _⟩
        case o7 =>
          intro vs iv wk hx hf
          obtain ⟨⟨⟨h9, hhi, hA9⟩, -⟩, ⟨⟨mb, hq5, hm1, hm2, hm3⟩, -⟩, -⟩ := hf
          have h9 : vs 10 = .pointer (some ⟨(iv 6).1, 0, none⟩) := h9
          have hq5 : vs 34 = .map (some mb) := hq5
          have hA9 : At wk (iv 6).1 #[.map none] 153 := hA9
          have hhi : (iv 6).2 = (iv 6).1 + 1 := hhi
          have x0 := hA9.cellv (i := 0) rfl
          have f0 := hA9.frozen 0
          have lx := hA9.lt
          have HA9 := Lib.hid hA9
          have HLT := Lib.hid (show (iv 6).1 < (iv 6).2 by omega)
          clear hA9 hhi hm1 hm2 hm3
          intro K' hK
          simp only [setA, setT, List.setIfInBounds_toArray, List.set_cons_zero, List.set_cons_succ]
          go_simp
          refine hK.out _ (undef) _ ?_ ?_
          · simp only [setA, setT, List.setIfInBounds_toArray, List.set_cons_zero, List.set_cons_succ, Act.put, h9, hq5]
          · exact ⟨HLT.out, Ext.set _ _ _ (by simp), h9, HLT.out, by have h := HA9.out.set 0 (.map (some mb)); rw [← hq5] at h ⊢; exact h⟩
      case gR =>
        intro vs iv w5x hx hap hf
        obtain ⟨-, -, -, -, -, ⟨⟨mb, hv5, hm1, hm2, hm3⟩, hi5⟩, -, ⟨⟨hs7, hl7, hB7⟩, hi7⟩, -⟩ := hf
        have hv5 : vs 34 = .map (some mb) := hv5
        have hs7 : vs 10 = .pointer (some ⟨(iv 6).1, 0, none⟩) := hs7
        have hB7 : At w5x (iv 6).1 #[vs 34] 153 := hB7
        rw [hv5] at hB7
        have HMB := Lib.hid hB7
        have HMS := Lib.hid hm3
        have bx := ((Ext.drew _).trans hx).nil
        simp only [setA, setT, List.setIfInBounds_toArray, List.set_cons_zero, List.set_cons_succ, hv5, hs7]
        have HBx := Lib.hid (HB.out.trans (bx.mono (Nat.le_trans hz36 hBz)))
        have HUx := Lib.hid (owns_belowS HU.out bx)
        have hQx := HQ.out.below (HBw.out.trans (bx.mono HBw.out.size)) (Nat.le_refl _)
        have HQx := Lib.hid hQx
        generalize (iv 6).1 = pm at *
        clear hx hap hm1 hm2 hm3 hi5 hi7 hl7 hB7 hs7 hv5 hQx bx c0 c1 c2 t0 t1 t2 t3 t4 l0 l1 l2 HB HU
        obtain ⟨v, hv⟩ : ∃ v, ok k = v := ⟨_, rfl⟩
        have HV := Lib.hid hv
        have HAN : Hid ((List.range q).any (fun i => !(mtB H (trE W H f).of (ptX W k) (ptY W k) (cs i))) = !v) := Lib.hid (by rw [← hv, ← HOK.out k, List.not_all_eq_any_not])
        clear hv
        go_wp2_with fail
        refine (lib_containsF2 _ C q cq cs pm (fun i => !(mtB H (trE W H f).of (ptX W k) (ptY W k) (cs i))) (!v) HQx.out hq2 (Lib.hid fun i hi w' hb => ?clo) HAN.out).mono ?_
        case clo =>
          obtain ⟨u1, u2⟩ := in_yes (HK.out i hi)
          obtain ⟨a, ha⟩ : ∃ a : Nat, cs i = a := ⟨(cs i).toNat, by omega⟩
          rw [ha, mt_set E0.out E1.out E2.out E3.out]
          exact impl_clos2 w' pm mb 4 _ a (HMB.out.below hb HMB.out.lt) (HMS.out.below hb HMS.out.lt) (by omega)
        rintro e w7 ⟨rfl, b7⟩
        have HB7 := Lib.hid (HBx.out.trans (b7.mono (Nat.le_trans hz36 HBx.out.size)))
        have HU7 := Lib.hid (owns_belowS HUx.out b7)
        have hz7 := HB7.out.size
        clear b7 HBx HUx HMB HMS HQx
        cases v
        · go_wp2
          go_roundw
          case rel => exact ⟨k + 1, by omega, by go_num, Lib.hid (by rw [flI_no HV.out]; exact HU7.out), HB7⟩
          case measure => simp [intOf]; omega
        · have HYS := Lib.hid (flI_yes (ok := ok) (k := k) HV.out)
          have hXa := Lib.hid ((Below.refl w7.heap.size w7).alloc (Nat.le_refl _) (.cells #[.int .i64 (k : Int)] 2))
          obtain ⟨ln, hlne⟩ : ∃ ln, (flI ok k).length = ln := ⟨_, rfl⟩
          rw [hlne] at HU7 hln ⊢
          have HLN := Lib.hid hlne
          clear hlne
          go_wp2_with (first
            | (at_builtin; refine wpList_append_lies _ (by rfl) _ _ _ (by rfl) w3.heap.size 2 i2 _ 1 8 Tryd.underlying29 hi2 hz0 hz1 hz2 rfl (by omega) _ ln (ivs (flI ok k)) (by rfl) (owns_belowS HU7.out hXa.out) ⟨w7.heap.size, 0, none⟩ 1 1 [.int .i64 (k : Int)] (by rfl) (by rfl) (World.news_of_block (cs := #[.int .i64 (k : Int)]) (t := 2) (fr := (0, 0)) (heap_alloc_new w7 _)) (fun u hu => by simp at hu; subst hu; rfl) (by omega) (by unfold maxLen; omega) (by omega) (by simp; omega) (w7.heap.size + 1) (by simp) ?_; intro g6 cap6 w8 hown6 hgrow6 hat6 hlt6; have HOW := Lib.hid hown6; have HGR := Lib.hid hgrow6; clear hown6 hgrow6 hat6))
          go_roundw
          case rel =>
            refine ⟨k + 1, by omega, by go_num, Lib.hid ?_, Lib.hid ((HB7.out.trans (hXa.out.mono (by omega))).grown HGR.out (by simp; omega) (fun b e => (HU7.out.lt b e).1))⟩
            have e : ivs (flI ok (k + 1)) = ivs (flI ok k) ++ [.int .i64 (k : Int)] := by rw [HYS.out]; unfold ivs; simp
            have e2 : (flI ok (k + 1)).length = ln + 1 := by rw [HYS.out, List.length_append, HLN.out]; rfl
            rw [e, e2]
            exact HOW.out
          case measure => simp [intOf]; omega
    · obtain rfl : k = n := by omega
      go_wp2
      go_ret2
      exact ⟨Ao, co, rfl, owns_base HU.out hzw, HB6.out.trans (HB.out.mono hzw)⟩
end Go.Proofs.YtbpdjmjkjiddjaaDoor.Base
namespace Go.Proofs.YtbpdjmjkjiddjaaDoor.Base
open Go Go.RowKit
set_option linter.unusedVariables false
set_option linter.unusedSimpArgs false

theorem rowL1 (w : World) (k : Int) (hk : (Lit.int .i64 k).wf = true) : Row .i64 (w.alloc (.cells #[.int .i64 k] 2)) (some ⟨w.heap.size, 0, none⟩) 1 1 (fun _ => k) := by
  refine ⟨Nat.le_refl _, by unfold maxLen; omega, fun i hi => hk, fun _ => ⟨w.heap.size, 0, rfl, by simp, fun i hi => ?_⟩⟩
  obtain rfl : i = 0 := by omega
  have h := (Cel.new w [.int .i64 k] 2).2 0 _ rfl
  exact h
def twoF (a b : Int) (i : Nat) : Int := if i = 0 then a else b
theorem rowL2 (w : World) (a b : Int) (ha : (Lit.int .i64 a).wf = true) (hb : (Lit.int .i64 b).wf = true) : Row .i64 (w.alloc (.cells #[.int .i64 a, .int .i64 b] 2)) (some ⟨w.heap.size, 0, none⟩) 2 2 (twoF a b) := by
  refine ⟨Nat.le_refl _, by unfold maxLen; omega, fun i hi => ?_, fun _ => ⟨w.heap.size, 0, rfl, by simp, fun i hi => ?_⟩⟩
  · unfold twoF
    split
    · exact ha
    · exact hb
  · have h := (Cel.new w [.int .i64 a, .int .i64 b] 2).2
    obtain rfl | rfl : i = 0 ∨ i = 1 := by omega
    · exact h 0 _ rfl
    · exact h 1 _ rfl
theorem impl_curvePoints (w : World) (W H : Int) (A : Option Addr) (n c : Nat) (f : Nat → Int) (s : Int) (ws : (Lit.int .i64 s).wf = true) (hr : Row .i64 w A n c f) (hT : Tabs w) :
    Calls Tryd.prog 29 #[.agg #[.int .i64 W, .int .i64 H, .slice A n c], .int .i64 s] w (ListOut 1 (cpN W H n f s) (spF W H n f s s) (cuC W H n f s) w.heap.size w) := by
  have bb := ((Below.refl w.heap.size w).alloc (Nat.le_refl _) (.cells #[.int .i64 W, .int .i64 H, .slice A n c] 35)).alloc (by simp) (.cells #[.int .i64 s] 2)
  have HL := Lib.hid bb
  have hrow := rowL1 (w.alloc (.cells #[.int .i64 W, .int .i64 H, .slice A n c] 35)) s ws
  rw [World.size_alloc] at hrow
  have hTk := hT.below bb hT.1
  have hR := hr.below bb (Nat.le_refl _)
  clear bb
  unfold cpN
  rcases cu_cases W H n f s with ⟨hv, e⟩ | ⟨hv, hk, e⟩ | ⟨hv, hk, e⟩
  · rw [e]
    have HC := Lib.hid (impl_ptsBad ((w.alloc (.cells #[.int .i64 W, .int .i64 H, .slice A n c] 35)).alloc (.cells #[.int .i64 s] 2)) W H A n c f (some ⟨w.heap.size + 1, 0, none⟩) 1 1 hR hv)
    clear hv e hrow hTk hR hr hT
    go_enter Tryd.func29, Tryd.ntmps29
    go_wp2_with fail
    refine HC.out.mono ?_
    rintro e w1 ⟨rfl, b1⟩
    go_wp2
    go_ret2
    exact ⟨none, 0, rfl, ownS_nil _ _ _ _, HL.out.trans (b1.mono (by first | exact Nat.le_refl _ | (simp; done) | (simp; omega) | omega))⟩
  · rw [e]
    have HC := Lib.hid (impl_ptsOut ((w.alloc (.cells #[.int .i64 W, .int .i64 H, .slice A n c] 35)).alloc (.cells #[.int .i64 s] 2)) W H A n c f (some ⟨w.heap.size + 1, 0, none⟩) 1 1 _ hR hrow (by omega) hTk.2.1 hv (by simp [List.range_succ, hk]))
    clear hv hk e hrow hTk hR hr hT
    go_enter Tryd.func29, Tryd.ntmps29
    go_wp2_with fail
    refine HC.out.mono ?_
    rintro e w1 ⟨rfl, b1⟩
    go_wp2
    go_ret2
    exact ⟨none, 0, rfl, ownS_nil _ _ _ _, HL.out.trans (b1.mono (by first | exact Nat.le_refl _ | (simp; done) | (simp; omega) | omega))⟩
  · rw [e, if_pos rfl]
    have hn : n ≤ 1000000 := by
      obtain ⟨hW, hH, hn, -⟩ := validB_yes hv
      have := inner_bd hW hH
      omega
    have HC := Lib.hid (impl_ptsIn ((w.alloc (.cells #[.int .i64 W, .int .i64 H, .slice A n c] 35)).alloc (.cells #[.int .i64 s] 2)) W H A n c f (some ⟨w.heap.size + 1, 0, none⟩) 1 1 _ hR hrow (by omega) hTk.2.1 hTk.2.2 hv (fun i hi => hk) (okP W H f s s) (fun k => by unfold okP; simp [List.range_succ]))
    clear hv hk e hrow hTk hR hr hT
    go_enter Tryd.func29, Tryd.ntmps29
    go_wp2_with fail
    refine HC.out.mono ?_
    rintro e w1 ⟨A2, c2, rfl, h2, b2⟩
    have HO2 := Lib.hid h2
    have HB2 := Lib.hid (HL.out.trans (b2.mono (by first | exact Nat.le_refl _ | (simp; done) | (simp; omega) | omega)))
    have hsz : w.heap.size ≤ ((w.alloc (.cells #[.int .i64 W, .int .i64 H, .slice A n c] 35)).alloc (.cells #[.int .i64 s] 2)).heap.size := (by first | exact Nat.le_refl _ | (simp; done) | (simp; omega) | omega)
    clear h2 b2 HC
    go_wp2
    go_ret2
    exact ⟨A2, c2, rfl, fl_own hn HO2.out hsz, HB2.out⟩
theorem impl_sharedPoints (w : World) (W H : Int) (A : Option Addr) (n c : Nat) (f : Nat → Int) (s t : Int) (ws : (Lit.int .i64 s).wf = true) (wt : (Lit.int .i64 t).wf = true) (hr : Row .i64 w A n c f) (hT : Tabs w) :
    Calls Tryd.prog 26 #[.agg #[.int .i64 W, .int .i64 H, .slice A n c], .int .i64 s, .int .i64 t] w (ListOut 1 (spN W H n f s t) (spF W H n f s t) (ccC W H n f s t) w.heap.size w) := by
  have bb := ((Below.refl w.heap.size w).alloc (Nat.le_refl _) (.cells #[.int .i64 W, .int .i64 H, .slice A n c] 35)).alloc (by simp) (.cells #[.int .i64 s, .int .i64 t] 2)
  have HL := Lib.hid bb
  have hrow := rowL2 (w.alloc (.cells #[.int .i64 W, .int .i64 H, .slice A n c] 35)) s t ws wt
  rw [World.size_alloc] at hrow
  have hTk := hT.below bb hT.1
  have hR := hr.below bb (Nat.le_refl _)
  clear bb
  unfold spN
  have hout : ∀ (hv : validB W H n f = true), (inB s 0 ((cnN W H f : Int) - 1) = false ∨ inB t 0 ((cnN W H f : Int) - 1) = false) → (List.range 2).any (fun i => !(inB (twoF s t i) 0 ((cnN W H f : Int) - 1))) = true := fun _ h => by
    rw [List.any_eq_true]
    rcases h with h | h
    · exact ⟨0, by simp, by show (!(inB s 0 _)) = true; rw [h]; rfl⟩
    · exact ⟨1, by simp, by show (!(inB t 0 _)) = true; rw [h]; rfl⟩
  rcases cu_cases W H n f s with ⟨hv, e⟩ | ⟨hv, hk, e⟩ | ⟨hv, hk, e⟩
  · have ec : ccC W H n f s t = 1 := by unfold ccC; rw [e]; rfl
    rw [ec]
    have HC := Lib.hid (impl_ptsBad ((w.alloc (.cells #[.int .i64 W, .int .i64 H, .slice A n c] 35)).alloc (.cells #[.int .i64 s, .int .i64 t] 2)) W H A n c f (some ⟨w.heap.size + 1, 0, none⟩) 2 2 hR hv)
    clear hv e hrow hTk hR hr hT hout ec
    go_enter Tryd.func26, Tryd.ntmps26
    go_wp2_with fail
    refine HC.out.mono ?_
    rintro e w1 ⟨rfl, b1⟩
    go_wp2
    go_ret2
    exact ⟨none, 0, rfl, ownS_nil _ _ _ _, HL.out.trans (b1.mono (by first | exact Nat.le_refl _ | (simp; done) | (simp; omega) | omega))⟩
  · have ec : ccC W H n f s t = 2 := by unfold ccC; rw [e]; rfl
    rw [ec]
    have HC := Lib.hid (impl_ptsOut ((w.alloc (.cells #[.int .i64 W, .int .i64 H, .slice A n c] 35)).alloc (.cells #[.int .i64 s, .int .i64 t] 2)) W H A n c f (some ⟨w.heap.size + 1, 0, none⟩) 2 2 _ hR hrow (by omega) hTk.2.1 hv (hout hv (.inl hk)))
    clear hv hk e hrow hTk hR hr hT hout ec
    go_enter Tryd.func26, Tryd.ntmps26
    go_wp2_with fail
    refine HC.out.mono ?_
    rintro e w1 ⟨rfl, b1⟩
    go_wp2
    go_ret2
    exact ⟨none, 0, rfl, ownS_nil _ _ _ _, HL.out.trans (b1.mono (by first | exact Nat.le_refl _ | (simp; done) | (simp; omega) | omega))⟩
  · rcases cu_cases W H n f t with ⟨hv2, e2⟩ | ⟨-, hk2, e2⟩ | ⟨-, hk2, e2⟩
    · rw [hv] at hv2; cases hv2
    · have ec : ccC W H n f s t = 2 := by unfold ccC; rw [e, e2]; rfl
      rw [ec]
      have HC := Lib.hid (impl_ptsOut ((w.alloc (.cells #[.int .i64 W, .int .i64 H, .slice A n c] 35)).alloc (.cells #[.int .i64 s, .int .i64 t] 2)) W H A n c f (some ⟨w.heap.size + 1, 0, none⟩) 2 2 _ hR hrow (by omega) hTk.2.1 hv (hout hv (.inr hk2)))
      clear hv hk hk2 e e2 hrow hTk hR hr hT hout ec
      go_enter Tryd.func26, Tryd.ntmps26
      go_wp2_with fail
      refine HC.out.mono ?_
      rintro e w1 ⟨rfl, b1⟩
      go_wp2
      go_ret2
      exact ⟨none, 0, rfl, ownS_nil _ _ _ _, HL.out.trans (b1.mono (by first | exact Nat.le_refl _ | (simp; done) | (simp; omega) | omega))⟩
    · have hn : n ≤ 1000000 := by
        obtain ⟨hW, hH, hn, -⟩ := validB_yes hv
        have := inner_bd hW hH
        omega
      have HC := Lib.hid (impl_ptsIn ((w.alloc (.cells #[.int .i64 W, .int .i64 H, .slice A n c] 35)).alloc (.cells #[.int .i64 s, .int .i64 t] 2)) W H A n c f (some ⟨w.heap.size + 1, 0, none⟩) 2 2 _ hR hrow (by omega) hTk.2.1 hTk.2.2 hv (fun i hi => by unfold twoF; split; exact hk; exact hk2) (okP W H f s t) (fun k => by unfold okP; simp [List.range_succ, twoF]))
      by_cases hst : s = t
      · have ec : ccC W H n f s t = 6 := by unfold ccC; rw [e, e2, if_pos rfl, if_pos rfl, if_pos hst]
        have hb : (s == t) = true := by simp [hst]
        rw [ec]
        clear hv hk hk2 e e2 hrow hTk hR hr hT hout ec hst
        go_enter Tryd.func26, Tryd.ntmps26
        go_wp2_with fail
        refine HC.out.mono ?_
        rintro e w1 ⟨A2, c2, rfl, h2, b2⟩
        have HB2 := Lib.hid (HL.out.trans (b2.mono (by first | exact Nat.le_refl _ | (simp; done) | (simp; omega) | omega)))
        clear h2 b2 HC
        go_wp2
        go_ret2
        exact ⟨none, 0, rfl, ownS_nil _ _ _ _, HB2.out⟩
      · have ec : ccC W H n f s t = 0 := by unfold ccC; rw [e, e2, if_pos rfl, if_pos rfl, if_neg hst]
        have hb : (s == t) = false := by simp [hst]
        rw [ec, if_pos rfl]
        clear hv hk hk2 e e2 hrow hTk hR hr hT hout ec hst
        go_enter Tryd.func26, Tryd.ntmps26
        go_wp2_with fail
        refine HC.out.mono ?_
        rintro e w1 ⟨A2, c2, rfl, h2, b2⟩
        have HO2 := Lib.hid h2
        have HB2 := Lib.hid (HL.out.trans (b2.mono (by first | exact Nat.le_refl _ | (simp; done) | (simp; omega) | omega)))
        have hsz : w.heap.size ≤ ((w.alloc (.cells #[.int .i64 W, .int .i64 H, .slice A n c] 35)).alloc (.cells #[.int .i64 s, .int .i64 t] 2)).heap.size := (by first | exact Nat.le_refl _ | (simp; done) | (simp; omega) | omega)
        clear h2 b2 HC
        go_wp2
        go_ret2
        exact ⟨A2, c2, rfl, fl_own hn HO2.out hsz, HB2.out⟩
end Go.Proofs.YtbpdjmjkjiddjaaDoor.Base
namespace Go.Proofs.YtbpdjmjkjiddjaaDoor.Base
open Go.RowKit
set_option linter.unusedVariables false

def eqRows (n : Nat) (f : Nat → Int) (n' : Nat) (f' : Nat → Int) : Bool := decide (n = n') && (List.range n).all fun j => f j == f' j
theorem eqRows_len {n n' : Nat} {f f' : Nat → Int} (h : n ≠ n') : eqRows n f n' f' = false := by simp [eqRows, h]
theorem eqRows_no {n : Nat} {f f' : Nat → Int} {k : Nat} (hk : k < n) (h : f k ≠ f' k) : eqRows n f n f' = false := by
  cases e : eqRows n f n f'
  · rfl
  · simp [eqRows] at e
    exact absurd (e k hk) h
theorem eqRows_yes {n : Nat} {f f' : Nat → Int} (h : ∀ j, j < n → f j = f' j) : eqRows n f n f' = true := by
  simp [eqRows]
  exact h
def sameB (W H : Int) (n : Nat) (f : Nat → Int) (W' H' : Int) (n' : Nat) (f' : Nat → Int) : Bool := decide (W = W') && decide (H = H') && eqRows n f n' f'

theorem drewB (w : World) (m : Nat) : Below w.heap.size w (w.drewN m) := below_drewN (Below.refl _ _) m
theorem quiet_drew {P : Program} {f : FuncId} {args : Array Value} {w : World} {n : Nat} {v : Value}
    (h : Calls P f args (w.drewN n) (Drew v (w.drewN n))) : Calls P f args (w.drewN n) fun e w' => e = .returned v ∧ ∃ m, w' = w.drewN m :=
  h.mono fun _ _ ⟨m, he, hm⟩ => ⟨he, n + m, by rw [hm, World.drewN_drewN]⟩
theorem drew_gives {v : Value} {w w' : World} {e : Ending} (h : Drew v w e w') : Gives v w e w' := by
  obtain ⟨m, h1, h2⟩ := h
  exact ⟨h1, by rw [h2]; exact below_drewN (Below.refl _ _) m⟩

theorem specSameRows (w : World) (A A' : Option Addr) (n n' c c' : Nat) (f f' : Nat → Int) (hr : Row .i64 w A n c f) (hr' : Row .i64 w A' n' c' f') :
    Calls Tryd.prog 116 #[.slice A n c, .slice A' n' c'] w (Drew (.bool (eqRows n f n' f')) w) := by
  obtain ⟨hnc, hcm, _, hcell⟩ := hr
  obtain ⟨hnc', hcm', _, hcell'⟩ := hr'
  unfold maxLen at hcm hcm'
  by_cases hl : n = n'
  · subst hl
    have hn : ((n : Int) == (n : Int)) = true := beq_self_eq_true _
    go_enter Tryd.func116, Tryd.ntmps116
    go_wp2
    go_loopw [5] (fun i wr => ∃ k m : Nat, k ≤ n ∧ i = .int .i64 k ∧ wr = w.drewN m ∧ Hid (∀ j, j < k → f j = f' j)) (fun i _ => n - (intOf i).toNat)
    case atStart => exact ⟨0, 0, Nat.zero_le _, rfl, rfl, Lib.hid (fun j hj => absurd hj (Nat.not_lt_zero _))⟩
    case round =>
      obtain ⟨k, m, hk, rfl, rfl, HE⟩ := hrel
      by_cases hlt : k < n
      · obtain ⟨b, o, rfl, hbl, hc⟩ := hcell (by omega)
        obtain ⟨b', o', rfl, hbl', hc'⟩ := hcell' (by omega)
        have hck := hc k hlt
        have hck' := hc' k hlt
        clear hc hc' hcell hcell'
        by_cases he : f k = f' k
        · have heb : (f k == f' k) = true := beq_iff_eq.2 he
          have heb' : (f k != f' k) = false := by rw [bne_eq_false_iff_eq]; exact he
          have HS := Lib.hid (show ∀ j, j < k + 1 → f j = f' j from fun j hj => by rcases Nat.lt_succ_iff_lt_or_eq.1 hj with h | rfl; exact HE.out j h; exact he)
          clear he
          go_wp2
          go_quiet (fail)
          go_wp2
          go_roundw
          case rel => exact ⟨k + 1, _, by omega, by go_num, rfl, HS⟩
          case measure => simp [intOf]; omega
        · have heb : (f k == f' k) = false := beq_eq_false_iff_ne.2 he
          have heb' : (f k != f' k) = true := bne_iff_ne.2 he
          have HS := Lib.hid (eqRows_no hlt he)
          clear he
          go_wp2
          go_quiet (fail)
          go_wp2
          go_ret
          exact ⟨_, ret_bool HS.out.symm, World.drewN_drewN _ _ _⟩
      · have HS := Lib.hid (eqRows_yes (fun j (hj : j < n) => HE.out j (by omega)))
        clear hcell hcell'
        go_wp2
        go_ret
        exact ⟨m, ret_bool HS.out.symm, rfl⟩
  · have hn : ((n : Int) == (n' : Int)) = false := beq_eq_false_iff_ne.2 (by omega)
    have hn' : ((n : Int) != (n' : Int)) = true := bne_iff_ne.2 (by omega)
    have HS := Lib.hid (eqRows_len (f := f) (f' := f') hl)
    clear hl hcell hcell'
    go_enter Tryd.func116, Tryd.ntmps116
    go_wp2
    go_ret
    exact ⟨0, ret_bool HS.out.symm, rfl⟩

theorem specSame (w : World) (p q : Nat) (W H W' H' : Int) (A A' : Option Addr) (n c n' c' : Nat) (f f' : Nat → Int) (hb : Box w p W H A n c) (hb' : Box w q W' H' A' n' c') (hr : Row .i64 w A n c f) (hr' : Row .i64 w A' n' c' f') :
    Calls Tryd.prog 72 #[.pointer (some ⟨p, 0, none⟩), .pointer (some ⟨q, 0, none⟩)] w (Drew (.bool (sameB W H n f W' H' n' f')) w) := by
  have HR := Lib.hid hr
  have HR' := Lib.hid hr'
  obtain ⟨hp, k0, k1, k2⟩ := hb
  obtain ⟨hq, l0, l1, l2⟩ := hb'
  clear hr hr'
  by_cases h1 : W = W'
  · have h1b : (W == W') = true := beq_iff_eq.2 h1
    by_cases h2 : H = H'
    · have h2b : (H == H') = true := beq_iff_eq.2 h2
      have e : sameB W H n f W' H' n' f' = eqRows n f n' f' := by simp [sameB, h1, h2]
      rw [e]
      clear e h1 h2
      go_enter Tryd.func72, Tryd.ntmps72
      go_wp2
      go_quiet ((go_at_call 116; exact quiet_drew (specSameRows _ A A' n n' c c' f f' (HR.out.below (drewB _ _) (Nat.le_refl _)) (HR'.out.below (drewB _ _) (Nat.le_refl _)))))
      go_wp2
      go_ret
      exact ⟨_, rfl, rfl⟩
    · have h2b : (H == H') = false := beq_eq_false_iff_ne.2 h2
      have e : sameB W H n f W' H' n' f' = false := by simp [sameB, h2]
      rw [e]
      clear e h1 h2
      go_enter Tryd.func72, Tryd.ntmps72
      go_wp2
      go_quiet (fail)
      go_wp2
      go_ret
      exact ⟨_, rfl, rfl⟩
  · have h1b : (W == W') = false := beq_eq_false_iff_ne.2 h1
    have e : sameB W H n f W' H' n' f' = false := by simp [sameB, h1]
    rw [e]
    clear e h1
    go_enter Tryd.func72, Tryd.ntmps72
    go_wp2
    go_quiet (fail)
    go_wp2
    go_ret
    exact ⟨_, rfl, rfl⟩

theorem box_two (w : World) (t : TypeId) (W H W' H' : Int) (A A' : Option Addr) (n c n' c' : Nat) :
    Box ((w.alloc (.cells #[.int .i64 W, .int .i64 H, .slice A n c] t)).alloc (.cells #[.int .i64 W', .int .i64 H', .slice A' n' c'] t)) w.heap.size W H A n c ∧
    Box ((w.alloc (.cells #[.int .i64 W, .int .i64 H, .slice A n c] t)).alloc (.cells #[.int .i64 W', .int .i64 H', .slice A' n' c'] t)) (w.heap.size + 1) W' H' A' n' c' := by
  refine ⟨(Box.new w t W H A n c).below ((Below.refl _ _).alloc (Nat.le_refl _) _) (by simp), ?_⟩
  have h := Box.new (w.alloc (.cells #[.int .i64 W, .int .i64 H, .slice A n c] t)) t W' H' A' n' c'
  rwa [World.size_alloc] at h

theorem spec_samePanel (w : World) (W H W' H' : Int) (A A' : Option Addr) (n c n' c' : Nat) (f f' : Nat → Int) (hr : Row .i64 w A n c f) (hr' : Row .i64 w A' n' c' f') :
    Calls Tryd.prog 35 #[.agg #[.int .i64 W, .int .i64 H, .slice A n c], .agg #[.int .i64 W', .int .i64 H', .slice A' n' c']] w (Gives (.bool (sameB W H n f W' H' n' f')) w) := by
  have HR := Lib.hid hr
  have HR' := Lib.hid hr'
  clear hr hr'
  have hbel : Below w.heap.size w ((w.alloc (.cells #[.int .i64 W, .int .i64 H, .slice A n c] 35)).alloc (.cells #[.int .i64 W', .int .i64 H', .slice A' n' c'] 35)) := by go_grown
  have HL := Lib.hid hbel
  have HX := Lib.hid (box_two w 35 W H W' H' A A' n c n' c')
  clear hbel
  go_enter Tryd.func35, Tryd.ntmps35
  go_wp2_with fail
  refine (specSame _ _ _ W H W' H' A A' n c n' c' f f' HX.out.1 HX.out.2 (HR.out.below HL.out (Nat.le_refl _)) (HR'.out.below HL.out (Nat.le_refl _))).mono ?_
  rintro e w1 ⟨m, rfl, rfl⟩
  go_wp2
  go_ret
  exact ⟨rfl, below_drewN HL.out m⟩

end Go.Proofs.YtbpdjmjkjiddjaaDoor.Base
namespace Go.Proofs.YtbpdjmjkjiddjaaDoor.Base
open Go Go.RowKit
set_option linter.unusedVariables false
set_option linter.unusedSimpArgs false

/-- of the first k points, at how many two rows differ -/
def difN (f f' : Nat → Int) : Nat → Nat
  | 0 => 0
  | k + 1 => difN f f' k + (if f k = f' k then 0 else 1)
theorem difN_le (f f' : Nat → Int) : ∀ k, difN f f' k ≤ k
  | 0 => Nat.le_refl _
  | k + 1 => by
    have := difN_le f f' k
    show difN f f' k + (if f k = f' k then 0 else 1) ≤ k + 1
    split <;> omega
theorem dif_same {f f' : Nat → Int} {k : Nat} (h : f k = f' k) : difN f f' (k + 1) = difN f f' k := by
  show difN f f' k + (if f k = f' k then 0 else 1) = _
  rw [if_pos h]; rfl
theorem dif_other {f f' : Nat → Int} {k : Nat} (h : f k ≠ f' k) : difN f f' (k + 1) = difN f f' k + 1 := by
  show difN f f' k + (if f k = f' k then 0 else 1) = _
  rw [if_neg h]
def dsC (W H : Int) (n : Nat) (f : Nat → Int) (W' H' : Int) (n' : Nat) (f' : Nat → Int) : Int := if validB W H n f && validB W' H' n' f' then (if W = W' ∧ H = H' then 0 else 6) else 1
def dsV (W H : Int) (n : Nat) (f : Nat → Int) (W' H' : Int) (n' : Nat) (f' : Nat → Int) : Int := if dsC W H n f W' H' n' f' = 0 then difN f f' n else 0
theorem ds_bad {W H W' H' : Int} {n n' : Nat} {f f' : Nat → Int} (h : (validB W H n f && validB W' H' n' f') = false) : dsC W H n f W' H' n' f' = 1 ∧ dsV W H n f W' H' n' f' = 0 := by simp [dsV, dsC, h]
theorem ds_size {W H W' H' : Int} {n n' : Nat} {f f' : Nat → Int} (h1 : validB W H n f = true) (h2 : validB W' H' n' f' = true) (h : ¬ (W = W' ∧ H = H')) : dsC W H n f W' H' n' f' = 6 ∧ dsV W H n f W' H' n' f' = 0 := by simp [dsV, dsC, h1, h2, h]
theorem ds_ok {W H : Int} {n n' : Nat} {f f' : Nat → Int} (h1 : validB W H n f = true) (h2 : validB W H n' f' = true) : dsC W H n f W H n' f' = 0 ∧ dsV W H n f W H n' f' = difN f f' n := by simp [dsV, dsC, h1, h2]
set_option maxHeartbeats 1000000 in
theorem spec_distance (w : World) (W H W' H' : Int) (A A' : Option Addr) (n c n' c' : Nat) (f f' : Nat → Int) (hr : Row .i64 w A n c f) (hr' : Row .i64 w A' n' c' f') :
    Calls Tryd.prog 33 #[.agg #[.int .i64 W, .int .i64 H, .slice A n c], .agg #[.int .i64 W', .int .i64 H', .slice A' n' c']] w (Gives (.tuple #[.int .i64 (dsV W H n f W' H' n' f'), .int .i64 (dsC W H n f W' H' n' f')]) w) := by
  have hbel : Below w.heap.size w ((w.alloc (.cells #[.int .i64 W, .int .i64 H, .slice A n c] 35)).alloc (.cells #[.int .i64 W', .int .i64 H', .slice A' n' c'] 35)) := by go_grown
  have hx := box_two w 35 W H W' H' A A' n c n' c'
  have HR := Lib.hid (hr.below hbel (Nat.le_refl _))
  have HR' := Lib.hid (hr'.below hbel (Nat.le_refl _))
  have HX := Lib.hid hx.1
  have HY := Lib.hid hx.2
  have HL := Lib.hid hbel
  have hcm := hr.2.1
  have hnc := hr.1
  unfold maxLen at hcm
  clear hr hr' hbel hx
  cases hv : validB W H n f
  · obtain ⟨e1, e2⟩ := ds_bad (W := W) (H := H) (W' := W') (H' := H') (n := n) (n' := n') (f := f) (f' := f') (by rw [hv]; rfl)
    rw [e1, e2]
    have HV := Lib.hid hv
    clear e1 e2 hv
    go_enter Tryd.func33, Tryd.ntmps33
    go_wp2_with fail
    refine (specOk_is HV.out HX.out HR.out).mono ?_
    rintro e w1 ⟨m, rfl, rfl⟩
    go_wp2
    go_ret2
    exact ⟨rfl, below_drewN HL.out m⟩
  · cases hv' : validB W' H' n' f'
    · obtain ⟨e1, e2⟩ := ds_bad (W := W) (H := H) (W' := W') (H' := H') (n := n) (n' := n') (f := f) (f' := f') (by rw [hv, hv']; rfl)
      rw [e1, e2]
      have HV := Lib.hid hv
      have HV' := Lib.hid hv'
      clear e1 e2 hv hv'
      go_enter Tryd.func33, Tryd.ntmps33
      go_wp2_with fail
      refine (specOk_is HV.out HX.out HR.out).mono ?_
      rintro e w1 ⟨m, rfl, rfl⟩
      have bm := below_drewN (Below.refl ((w.alloc (.cells #[.int .i64 W, .int .i64 H, .slice A n c] 35)).alloc (.cells #[.int .i64 W', .int .i64 H', .slice A' n' c'] 35)).heap.size ((w.alloc (.cells #[.int .i64 W, .int .i64 H, .slice A n c] 35)).alloc (.cells #[.int .i64 W', .int .i64 H', .slice A' n' c'] 35))) m
      have HR1 := Lib.hid (HR'.out.below bm (Nat.le_refl _))
      have HY1 := Lib.hid (HY.out.below bm HY.out.1)
      clear bm
      go_wp2_with fail
      refine (specOk_is HV'.out HY1.out HR1.out).mono ?_
      rintro e w1 ⟨m', rfl, rfl⟩
      go_wp2
      go_ret2
      exact ⟨rfl, below_drewN HL.out (m + m')⟩
    · have HV := Lib.hid hv
      have HV' := Lib.hid hv'
      have hnn : (n : Int) = inner W H := (validB_yes hv).2.2.1
      have hnn' : (n' : Int) = inner W' H' := (validB_yes hv').2.2.1
      by_cases hs : W = W' ∧ H = H'
      · obtain ⟨rfl, rfl⟩ := hs
        obtain rfl : n = n' := by omega
        obtain ⟨e1, e2⟩ := ds_ok hv hv'
        rw [e1, e2]
        clear e1 e2 hv hv' hnn hnn'
        go_enter Tryd.func33, Tryd.ntmps33
        go_wp2_with fail
        refine (specOk_is HV.out HX.out HR.out).mono ?_
        rintro e w1 ⟨m, rfl, rfl⟩
        have bm := below_drewN (Below.refl ((w.alloc (.cells #[.int .i64 W, .int .i64 H, .slice A n c] 35)).alloc (.cells #[.int .i64 W, .int .i64 H, .slice A' n c'] 35)).heap.size ((w.alloc (.cells #[.int .i64 W, .int .i64 H, .slice A n c] 35)).alloc (.cells #[.int .i64 W, .int .i64 H, .slice A' n c'] 35))) m
        have HR1 := Lib.hid (HR'.out.below bm (Nat.le_refl _))
        have HY1 := Lib.hid (HY.out.below bm HY.out.1)
        clear bm
        go_wp2_with fail
        refine (specOk_is HV'.out HY1.out HR1.out).mono ?_
        rintro e w1 ⟨m', rfl, rfl⟩
        have bq := below_drewN (below_drewN (Below.refl ((w.alloc (.cells #[.int .i64 W, .int .i64 H, .slice A n c] 35)).alloc (.cells #[.int .i64 W, .int .i64 H, .slice A' n c'] 35)).heap.size ((w.alloc (.cells #[.int .i64 W, .int .i64 H, .slice A n c] 35)).alloc (.cells #[.int .i64 W, .int .i64 H, .slice A' n c'] 35))) m) m'
        have HR2 := Lib.hid (HR.out.below bq (Nat.le_refl _))
        have HR2' := Lib.hid (HR'.out.below bq (Nat.le_refl _))
        have HX2 := Lib.hid (HX.out.below bq HX.out.1)
        have HY2 := Lib.hid (HY.out.below bq HY.out.1)
        have HL2 := Lib.hid (below_drewN (below_drewN HL.out m) m')
        clear bq HR1 HY1 HR HR' HX HY HL
        generalize (((w.alloc (.cells #[.int .i64 W, .int .i64 H, .slice A n c] 35)).alloc (.cells #[.int .i64 W, .int .i64 H, .slice A' n c'] 35)).drewN m).drewN m' = w2 at *
        obtain ⟨hp, k0, k1, k2⟩ := id HX2.out
        obtain ⟨hq, l0, l1, l2⟩ := id HY2.out
        have h1b : (W == W) = true := beq_self_eq_true _
        have h2b : (H == H) = true := beq_self_eq_true _
        go_wp2_with fail
        clear k0 k1 k2 l0 l1 l2
        go_loopw [6, 7] (fun s kv wr => ∃ k : Nat, k ≤ n ∧ kv = .int .i64 k ∧ s = .int .i64 (difN f f' k : Int) ∧ Hid (Below w2.heap.size w2 wr)) (fun _ kv _ => n - (intOf kv).toNat)
        case atStart => exact ⟨0, Nat.zero_le _, rfl, rfl, Lib.hid (Below.refl _ _)⟩
        case round =>
          obtain ⟨k, hk, rfl, rfl, HB⟩ := hrel
          obtain ⟨hp', k0, k1, k2⟩ := HX2.out.below HB.out hp
          obtain ⟨hq', l0, l1, l2⟩ := HY2.out.below HB.out hq
          have hdl := difN_le f f' k
          by_cases hlt : k < n
          · obtain ⟨b, o, rfl, hbl, hc⟩ := (HR2.out.below HB.out (Nat.le_refl _)).2.2.2 (by omega)
            obtain ⟨b', o', rfl, hbl', hc'⟩ := (HR2'.out.below HB.out (Nat.le_refl _)).2.2.2 (by omega)
            have hck := hc k hlt
            have hck' := hc' k hlt
            clear hc hc'
            by_cases hd : f k = f' k
            · have hb : (f k != f' k) = false := by simp [hd]
              have HD := Lib.hid (dif_same hd)
              clear hd
              go_wp2_with fail
              go_quiet (fail)
              go_wp2
              go_roundw
              case rel => exact ⟨k + 1, by omega, by go_num, by rw [HD.out], Lib.hid (below_drewN HB.out nq)⟩
              case measure => simp [intOf]; omega
            · have hb : (f k != f' k) = true := by simp [hd]
              have HD := Lib.hid (dif_other hd)
              clear hd
              go_wp2_with fail
              go_quiet (fail)
              go_wp2
              go_roundw
              case rel => exact ⟨k + 1, by omega, by go_num, by rw [HD.out]; first | rfl | go_num | (simp; done), Lib.hid (below_drewN HB.out nq)⟩
              case measure => simp [intOf]; omega
          · obtain rfl : k = n := by omega
            go_wp2
            go_ret2
            exact ⟨rfl, HL2.out.trans (HB.out.mono HL2.out.size)⟩
      · obtain ⟨e1, e2⟩ := ds_size hv hv' hs
        rw [e1, e2]
        clear e1 e2 hv hv' hnn hnn'
        go_enter Tryd.func33, Tryd.ntmps33
        go_wp2_with fail
        refine (specOk_is HV.out HX.out HR.out).mono ?_
        rintro e w1 ⟨m, rfl, rfl⟩
        have bm := below_drewN (Below.refl ((w.alloc (.cells #[.int .i64 W, .int .i64 H, .slice A n c] 35)).alloc (.cells #[.int .i64 W', .int .i64 H', .slice A' n' c'] 35)).heap.size ((w.alloc (.cells #[.int .i64 W, .int .i64 H, .slice A n c] 35)).alloc (.cells #[.int .i64 W', .int .i64 H', .slice A' n' c'] 35))) m
        have HR1 := Lib.hid (HR'.out.below bm (Nat.le_refl _))
        have HY1 := Lib.hid (HY.out.below bm HY.out.1)
        clear bm
        go_wp2_with fail
        refine (specOk_is HV'.out HY1.out HR1.out).mono ?_
        rintro e w1 ⟨m', rfl, rfl⟩
        have bq := below_drewN (below_drewN (Below.refl ((w.alloc (.cells #[.int .i64 W, .int .i64 H, .slice A n c] 35)).alloc (.cells #[.int .i64 W', .int .i64 H', .slice A' n' c'] 35)).heap.size ((w.alloc (.cells #[.int .i64 W, .int .i64 H, .slice A n c] 35)).alloc (.cells #[.int .i64 W', .int .i64 H', .slice A' n' c'] 35))) m) m'
        have HX2 := Lib.hid (HX.out.below bq HX.out.1)
        have HY2 := Lib.hid (HY.out.below bq HY.out.1)
        have HL2 := Lib.hid (below_drewN (below_drewN HL.out m) m')
        clear bq HR1 HY1 HR HR' HX HY HL
        generalize (((w.alloc (.cells #[.int .i64 W, .int .i64 H, .slice A n c] 35)).alloc (.cells #[.int .i64 W', .int .i64 H', .slice A' n' c'] 35)).drewN m).drewN m' = w2 at *
        obtain ⟨hp, k0, k1, k2⟩ := id HX2.out
        obtain ⟨hq, l0, l1, l2⟩ := id HY2.out
        by_cases hw : W = W'
        · have h1b : (W != W') = false := by simp [hw]
          have h2b : (H != H') = true := by simpa using fun h => hs ⟨hw, h⟩
          clear hw hs
          go_wp2
          go_ret2
          exact ⟨rfl, HL2.out⟩
        · have h1b : (W != W') = true := by simpa using hw
          clear hw hs
          go_wp2
          go_ret2
          exact ⟨rfl, HL2.out⟩
set_option maxHeartbeats 2000000 in
theorem impl_distance (w : World) (W H W' H' : Int) (A A' : Option Addr) (n c n' c' : Nat) (f f' : Nat → Int) (hr : Row .i64 w A n c f) (hr' : Row .i64 w A' n' c' f') :
    Calls Tryd.prog 32 #[.agg #[.int .i64 W, .int .i64 H, .slice A n c], .agg #[.int .i64 W', .int .i64 H', .slice A' n' c']] w (Gives (.tuple #[.int .i64 (dsV W H n f W' H' n' f'), .int .i64 (dsC W H n f W' H' n' f')]) w) := by
  have hbel : Below w.heap.size w ((w.alloc (.cells #[.int .i64 W, .int .i64 H, .slice A n c] 35)).alloc (.cells #[.int .i64 W', .int .i64 H', .slice A' n' c'] 35)) := by go_grown
  have hx := box_two w 35 W H W' H' A A' n c n' c'
  have HR := Lib.hid (hr.below hbel (Nat.le_refl _))
  have HR' := Lib.hid (hr'.below hbel (Nat.le_refl _))
  have HX := Lib.hid hx.1
  have HY := Lib.hid hx.2
  have HL := Lib.hid hbel
  have hcm := hr.2.1
  have hnc := hr.1
  unfold maxLen at hcm
  clear hr hr' hbel hx
  cases hv : validB W H n f
  · obtain ⟨e1, e2⟩ := ds_bad (W := W) (H := H) (W' := W') (H' := H') (n := n) (n' := n') (f := f) (f' := f') (by rw [hv]; rfl)
    rw [e1, e2]
    have HV := Lib.hid hv
    clear e1 e2 hv
    go_enter Tryd.func32, Tryd.ntmps32
    go_wp2_with fail
    refine (implOk_is HV.out HR.out).mono ?_
    rintro e w1 ⟨rfl, b1⟩
    go_wp2
    go_ret2
    exact ⟨rfl, HL.out.trans (b1.mono HL.out.size)⟩
  · cases hv' : validB W' H' n' f'
    · obtain ⟨e1, e2⟩ := ds_bad (W := W) (H := H) (W' := W') (H' := H') (n := n) (n' := n') (f := f) (f' := f') (by rw [hv, hv']; rfl)
      rw [e1, e2]
      have HV := Lib.hid hv
      have HV' := Lib.hid hv'
      clear e1 e2 hv hv'
      go_enter Tryd.func32, Tryd.ntmps32
      go_wp2_with fail
      refine (implOk_is HV.out HR.out).mono ?_
      rintro e w1 ⟨rfl, b1⟩
      have HR1 := Lib.hid (HR'.out.below b1 (Nat.le_refl _))
      have HB1 := Lib.hid (HL.out.trans (b1.mono HL.out.size))
      obtain ⟨hq, l0, l1, l2⟩ := HY.out.below b1 HY.out.1
      clear b1
      go_wp2_with fail
      refine (implOk_is HV'.out HR1.out).mono ?_
      rintro e w2 ⟨rfl, b2⟩
      go_wp2
      go_ret2
      exact ⟨rfl, HB1.out.trans (b2.mono HB1.out.size)⟩
    · have HV := Lib.hid hv
      have HV' := Lib.hid hv'
      have hnn : (n : Int) = inner W H := (validB_yes hv).2.2.1
      have hnn' : (n' : Int) = inner W' H' := (validB_yes hv').2.2.1
      by_cases hs : W = W' ∧ H = H'
      · obtain ⟨rfl, rfl⟩ := hs
        obtain rfl : n = n' := by omega
        obtain ⟨e1, e2⟩ := ds_ok hv hv'
        rw [e1, e2]
        clear e1 e2 hv hv' hnn hnn'
        go_enter Tryd.func32, Tryd.ntmps32
        go_wp2_with fail
        refine (implOk_is HV.out HR.out).mono ?_
        rintro e w1 ⟨rfl, b1⟩
        have HR1 := Lib.hid (HR.out.below b1 (Nat.le_refl _))
        have HR1' := Lib.hid (HR'.out.below b1 (Nat.le_refl _))
        have HX1 := Lib.hid (HX.out.below b1 HX.out.1)
        have HY1 := Lib.hid (HY.out.below b1 HY.out.1)
        have HB1 := Lib.hid (HL.out.trans (b1.mono HL.out.size))
        obtain ⟨hq, l0, l1, l2⟩ := id HY1.out
        clear b1
        go_wp2_with fail
        refine (implOk_is HV'.out HR1'.out).mono ?_
        rintro e w2 ⟨rfl, b2⟩
        have HR2 := Lib.hid (HR1.out.below b2 (Nat.le_refl _))
        have HR2' := Lib.hid (HR1'.out.below b2 (Nat.le_refl _))
        have HX2 := Lib.hid (HX1.out.below b2 HX1.out.1)
        have HY2 := Lib.hid (HY1.out.below b2 HY1.out.1)
        have HL2 := Lib.hid (HB1.out.trans (b2.mono HB1.out.size))
        clear b2 hq l0 l1 l2 HR1 HR1' HX1 HY1 HB1 HR HR' HX HY HL
        have ST := Lib.hid (keep6d HX2.out HY2.out (Below.refl w2.heap.size w2))
        obtain ⟨hp, k0, k1, k2⟩ := id HX2.out
        obtain ⟨hq, l0, l1, l2⟩ := id HY2.out
        have h1b : (W == W) = true := beq_self_eq_true _
        have h2b : (H == H) = true := beq_self_eq_true _
        go_wp2_with fail
        go_region_held3 (fun w' => w'.cell? ⟨w.heap.size, 0, none⟩ = some (.int .i64 W) ∧ w'.cell? ⟨w.heap.size, 1, none⟩ = some (.int .i64 H) ∧ w'.cell? ⟨w.heap.size, 2, none⟩ = some (.slice A n c) ∧
            w'.cell? ⟨w.heap.size + 1, 0, none⟩ = some (.int .i64 W) ∧ w'.cell? ⟨w.heap.size + 1, 1, none⟩ = some (.int .i64 H) ∧ w'.cell? ⟨w.heap.size + 1, 2, none⟩ = some (.slice A' n c') ∧ Below w2.heap.size w2 w')
          (first | exact ST.out | exact keep6 (by assumption) (by assumption))
          (first | (go_at_call 70; refine (sizeOf_any _ _ _ _ _ _).mono ?_; rintro e wa ⟨rfl, ba⟩))
        all_goals
          rename_i hS
          have hB := hS.2.2.2.2.2.2
          clear hS ST k0 k1 k2 l0 l1 l2
          have HB3 := Lib.hid hB
          have HL3 := Lib.hid (HL2.out.trans (HB3.out.mono HL2.out.size))
          have HR3 := Lib.hid (HR2.out.below HB3.out (Nat.le_refl _))
          have HR3' := Lib.hid (HR2'.out.below HB3.out (Nat.le_refl _))
          have HX3 := Lib.hid (HX2.out.below HB3.out hp)
          have HY3 := Lib.hid (HY2.out.below HB3.out hq)
          clear hB HB3 HL2 HR2 HR2' HX2 HY2 hp hq
          obtain ⟨hp, k0, k1, k2⟩ := id HX3.out
          obtain ⟨hq, l0, l1, l2⟩ := id HY3.out
          go_wp2_with fail
          clear k0 k1 k2 l0 l1 l2
          go_loopw [6, 25] (fun s kv wr => ∃ k : Nat, k ≤ n ∧ kv = .int .i64 k ∧ s = .int .i64 (difN f f' k : Int) ∧ Hid (Below wa.heap.size wa wr)) (fun _ kv _ => n - (intOf kv).toNat)
          case atStart => exact ⟨0, Nat.zero_le _, rfl, rfl, Lib.hid (Below.refl _ _)⟩
          case round =>
            obtain ⟨k, hk, rfl, rfl, HB⟩ := hrel
            obtain ⟨hp', k0, k1, k2⟩ := HX3.out.below HB.out hp
            obtain ⟨hq', l0, l1, l2⟩ := HY3.out.below HB.out hq
            have hdl := difN_le f f' k
            by_cases hlt : k < n
            · obtain ⟨b, o, rfl, hbl, hc⟩ := (HR3.out.below HB.out (Nat.le_refl _)).2.2.2 (by omega)
              obtain ⟨b', o', rfl, hbl', hc'⟩ := (HR3'.out.below HB.out (Nat.le_refl _)).2.2.2 (by omega)
              have hck := hc k hlt
              have hck' := hc' k hlt
              clear hc hc'
              by_cases hd : f k = f' k
              · have hb : (f' k != f k) = false := by simp [hd]
                have HD := Lib.hid (dif_same hd)
                clear hd
                go_wp2_with fail
                go_roundw
                case rel => exact ⟨k + 1, by omega, by go_num, by rw [HD.out], HB⟩
                case measure => simp [intOf]; omega
              · have hb : (f' k != f k) = true := by simpa using fun h => hd h.symm
                have HD := Lib.hid (dif_other hd)
                clear hd
                go_wp2_with fail
                go_roundw
                case rel => exact ⟨k + 1, by omega, by go_num, by rw [HD.out]; first | rfl | go_num | (simp; done), HB⟩
                case measure => simp [intOf]; omega
            · obtain rfl : k = n := by omega
              go_wp2
              go_ret2
              exact ⟨rfl, HL3.out.trans (HB.out.mono HL3.out.size)⟩
      · obtain ⟨e1, e2⟩ := ds_size hv hv' hs
        rw [e1, e2]
        clear e1 e2 hv hv' hnn hnn'
        go_enter Tryd.func32, Tryd.ntmps32
        go_wp2_with fail
        refine (implOk_is HV.out HR.out).mono ?_
        rintro e w1 ⟨rfl, b1⟩
        have HR1' := Lib.hid (HR'.out.below b1 (Nat.le_refl _))
        have HX1 := Lib.hid (HX.out.below b1 HX.out.1)
        have HY1 := Lib.hid (HY.out.below b1 HY.out.1)
        have HB1 := Lib.hid (HL.out.trans (b1.mono HL.out.size))
        obtain ⟨hq, l0, l1, l2⟩ := id HY1.out
        clear b1
        go_wp2_with fail
        refine (implOk_is HV'.out HR1'.out).mono ?_
        rintro e w2 ⟨rfl, b2⟩
        have HX2 := Lib.hid (HX1.out.below b2 HX1.out.1)
        have HY2 := Lib.hid (HY1.out.below b2 HY1.out.1)
        have HL2 := Lib.hid (HB1.out.trans (b2.mono HB1.out.size))
        clear b2 hq l0 l1 l2 HR1' HX1 HY1 HB1 HR HR' HX HY HL
        have hst := keep6d HX2.out HY2.out (Below.refl w2.heap.size w2)
        obtain ⟨hp, k0, k1, k2⟩ := id HX2.out
        obtain ⟨hq, l0, l1, l2⟩ := id HY2.out
        by_cases hw : W = W'
        · have h1b : (W == W') = true := by simp [hw]
          have h2b : (H == H') = false := by simpa using fun h => hs ⟨hw, h⟩
          clear hw hs k0 k1 k2 l0 l1 l2
          go_wp2_with fail
          first | (go_region_with (go_at_call 70; refine (sizeOf_any _ _ _ _ _ _).mono ?_; rintro e wa ⟨rfl, ba⟩; have hst := keep6 (by assumption) ba)) | fail
          all_goals
            go_wp2
            go_ret2
            exact ⟨rfl, HL2.out.trans (hst.2.2.2.2.2.2.mono HL2.out.size)⟩
        · have h1b : (W == W') = false := by simpa using hw
          clear hw hs k0 k1 k2 l0 l1 l2
          go_wp2_with fail
          first | (go_region_with (go_at_call 70; refine (sizeOf_any _ _ _ _ _ _).mono ?_; rintro e wa ⟨rfl, ba⟩; have hst := keep6 (by assumption) ba)) | fail
          all_goals
            go_wp2
            go_ret2
            exact ⟨rfl, HL2.out.trans (hst.2.2.2.2.2.2.mono HL2.out.size)⟩
end Go.Proofs.YtbpdjmjkjiddjaaDoor.Base
namespace Go.Proofs.YtbpdjmjkjiddjaaDoor.Base
open Go.RowKit
set_option linter.unusedVariables false
set_option linter.unusedSimpArgs false

def PanelMadeC (W H : Int) (n : Nat) (f : Nat → Int) (w : World) (e : Ending) (w' : World) : Prop :=
  ∃ A, (∃ b, A = some ⟨b, 0, none⟩ ∧ w.heap.size ≤ b ∧ b < w'.heap.size) ∧ e = .returned (.agg #[.int .i64 W, .int .i64 H, .slice A n n]) ∧ OwnRow w' w.heap.size A n n f ∧ Below w.heap.size w w'
theorem specNewC (w : World) (W H : Int) (n : Nat) (hW : sideB W = true) (hH : sideB H = true) (hn : (n : Int) = inner W H) :
    Calls Tryd.prog 100 #[.int .i64 W, .int .i64 H] w (PanelMadeC W H n (fun _ => 0) w) := by
  obtain ⟨i1, i2⟩ := inner_bd' hW hH
  have hn20 : n ≤ 112 := by omega
  have hcall := inner_any W H hW hH (w.alloc (.cells #[.int .i64 0, .int .i64 0, .slice none 0 0] 35))
  rw [← hn] at hcall
  have HC := Lib.hid hcall
  have hmk := run_make_row' (P := Tryd.prog) 29 2 (.int .i64 0) 8 Tryd.underlying29 infoI64 rfl .i64 .i64 n (by omega) (by omega)
  clear hcall hn i1 i2
  go_enter Tryd.func100, Tryd.ntmps100
  go_wp2_with fail
  refine HC.out.mono ?_
  rintro e w1 ⟨rfl, rfl⟩
  go_wp2
  refine bodyPost_ret ?_ rfl ⟨some ⟨w.heap.size + 1, 0, none⟩, ⟨_, rfl, by omega, by simp⟩, rfl, ownRow_of (T := 2) ?_ (by unfold maxLen; omega) (fun i hi => rfl) (by omega), ?_⟩
  · simp [results, Tryd.results100, go_sem]
  · have h := World.rowIs_made (w.alloc (.cells #[.int .i64 W, .int .i64 H, .slice (some ⟨w.heap.size + 1, 0, none⟩) n n] 35)) (.int .i64 0) n 2
    rwa [World.size_alloc] at h
  · go_grown

/-- a drawn panel with sides up to M: valid, its row its own and without spare room -/
def DrawnC (s : Nat) (A0 : Option Addr) (n0 c0 : Nat) (k d M : Int) (w : World) (e : Ending) (w' : World) : Prop :=
  ∃ (W H : Int) (A : Option Addr) (n : Nat) (g : Nat → Int) (k' : Int), (∃ b, A = some ⟨b, 0, none⟩ ∧ w.heap.size ≤ b ∧ b < w'.heap.size) ∧ e = .returned (.agg #[.int .i64 W, .int .i64 H, .slice A n n]) ∧ sideB W = true ∧ sideB H = true ∧ W ≤ M ∧ H ≤ M ∧ (n : Int) = inner W H ∧ kindsB n g = true ∧
    OwnRow w' w.heap.size A n n g ∧ Src w' s A0 n0 c0 k' ∧ k ≤ k' ∧ k' ≤ k + d ∧ Ext [s] w w'
set_option maxHeartbeats 4000000 in
theorem draw_anyC (w : World) (s : Nat) (A0 : Option Addr) (n0 c0 : Nat) (f0 : Nat → Int) (k : Int) (hs : Src w s A0 n0 c0 k) (hr : Row .u8 w A0 n0 c0 f0) (hne : ∀ b, blk A0 = some b → 0 < n0 → b ≠ s) (k0 : 0 ≤ k) (k1 : k ≤ 800000) (hn : n0 ≤ 1000000) (M : Int) (M1 : 2 ≤ M) (M2 : M ≤ 8) :
    Calls Tryd.prog 73 #[.pointer (some ⟨s, 0, none⟩), .int .i64 M] w (DrawnC s A0 n0 c0 k 1000 M w) := by
  have HNE := Lib.hid hne
  have HSZ := Lib.hid hs.1
  have HBL := Lib.hid (row_blk hr)
  have HRW := Lib.hid hr
  -- the result's box
  have X0 := Ext.alloc (X := [s]) w (.cells #[.int .i64 0, .int .i64 0, .slice none 0 0] 35)
  have HT0 := Lib.hid (At.new w #[.int .i64 0, .int .i64 0, .slice none 0 0] 35)
  have HS0 := Lib.hid (hs.ext (Ext.alloc (X := []) w (.cells #[.int .i64 0, .int .i64 0, .slice none 0 0] 35)) (by simp))
  have HR0 := Lib.hid (hr.ext (Ext.alloc (X := []) w (.cells #[.int .i64 0, .int .i64 0, .slice none 0 0] 35)) (by simp))
  have HX0 := Lib.hid X0
  have zs0 : w.heap.size < (w.alloc (.cells #[.int .i64 0, .int .i64 0, .slice none 0 0] 35)).heap.size := by simp
  clear hs hr hne X0
  go_enter Tryd.func73, Tryd.ntmps73
  go_wp2_with fail
  generalize w.alloc (.cells #[.int .i64 0, .int .i64 0, .slice none 0 0] 35) = wA at *
  refine (pick_any _ s A0 n0 c0 f0 k M HS0.out HR0.out HNE.out k0 (by omega) hn (by omega) (by omega)).mono ?_
  rintro e w1 ⟨v1, k1', rfl, v1a, v1b, j1, j2, j3, j4⟩
  have hsA : s ≠ w.heap.size := by have := HSZ.out; omega
  have HS1 := Lib.hid j1
  have HR1 := Lib.hid (HR0.out.ext j4 (fun b hb h0 => by simpa using HNE.out b hb h0))
  have HT1 := Lib.hid (HT0.out.ext j4 (by simpa using hsA.symm))
  have HX1 := Lib.hid (HX0.out.trans j4)
  have z1 := j4.size
  clear j1 j4 HS0 HR0 HT0 HX0
  go_wp2_with fail
  refine (pick_any _ s A0 n0 c0 f0 k1' M HS1.out HR1.out HNE.out (by omega) (by omega) hn (by omega) (by omega)).mono ?_
  rintro e w2 ⟨v2, k2', rfl, v2a, v2b, l1, l2, l3, l4⟩
  have HS2 := Lib.hid l1
  have HR2 := Lib.hid (HR1.out.ext l4 (fun b hb h0 => by simpa using HNE.out b hb h0))
  have HT2 := Lib.hid (HT1.out.ext l4 (by simpa using hsA.symm))
  have HX2 := Lib.hid (HX1.out.trans l4)
  have z2 := l4.size
  clear l1 l4 HS1 HR1 HT1 HX1
  have hW : sideB (1 + v1) = true := side_yes (by omega) (by omega)
  have hH : sideB (1 + v2) = true := side_yes (by omega) (by omega)
  obtain ⟨i1, i2⟩ := inner_bd' hW hH
  obtain ⟨n, hn'⟩ : ∃ n : Nat, (n : Int) = inner (1 + v1) (1 + v2) := ⟨(inner (1 + v1) (1 + v2)).toNat, by omega⟩
  have hn112 : n ≤ 112 := by omega
  have HN := Lib.hid hn'
  clear hn' i1 i2
  go_wp2_with fail
  refine (specNewC _ (1 + v1) (1 + v2) n hW hH HN.out).mono ?_
  rintro e w3 ⟨A, hAb, rfl, O3, b3⟩
  have HAB := Lib.hid hAb
  clear hAb
  have HQ := Lib.hid (O3.base_lt)
  have HO3 := Lib.hid O3
  have HS3 := Lib.hid (HS2.out.ext (Ext.of_below (X := []) b3) (by simp))
  have HR3 := Lib.hid (HR2.out.below b3 (Nat.le_refl _))
  have HT3 := Lib.hid (HT2.out.below b3 HT2.out.lt)
  have HX3 := Lib.hid (HX2.out.trans (Ext.of_below b3))
  have z3 := b3.size
  clear O3 b3 HS2 HR2 HT2 HX2
  go_wp2_with fail
  -- the panel's box
  have HP4 := Lib.hid (At.new w3 #[.int .i64 (1 + v1), .int .i64 (1 + v2), .slice A n n] 35)
  have bN := (Below.refl w3.heap.size w3).alloc (Nat.le_refl _) (.cells #[.int .i64 (1 + v1), .int .i64 (1 + v2), .slice A n n] 35)
  have HO4 := Lib.hid (HO3.out.below bN (Nat.le_refl _))
  have HS4 := Lib.hid (HS3.out.ext (Ext.of_below (X := []) bN) (by simp))
  have HR4 := Lib.hid (HR3.out.below bN (Nat.le_refl _))
  have HT4 := Lib.hid (HT3.out.below bN HT3.out.lt)
  have HX4 := Lib.hid (HX3.out.trans (Ext.of_below bN))
  clear bN HO3 HS3 HR3 HT3 HX3
  generalize w3.alloc (.cells #[.int .i64 (1 + v1), .int .i64 (1 + v2), .slice A n n] 35) = w4 at *
  generalize hp6 : w3.heap.size = p6 at *
  refine (pick_any _ s A0 n0 c0 f0 k2' 4 HS4.out HR4.out HNE.out (by omega) (by omega) hn (by omega) (by omega)).mono ?_
  rintro e w5 ⟨v3, k3', rfl, v3a, v3b, m1, m2, m3, m4⟩
  have hs6 : s ≠ p6 := by have := HSZ.out; omega
  have hsq : 0 < n → ∀ b, blk A = some b → b ≠ s := fun h b hb => by have := HQ.out h b hb; have := HSZ.out; omega
  have HSQ := Lib.hid hsq
  have HS5 := Lib.hid m1
  have HR5 := Lib.hid (HR4.out.ext m4 (fun b hb h0 => by simpa using HNE.out b hb h0))
  have HT5 := Lib.hid (HT4.out.ext m4 (by simpa using hsA.symm))
  have HP5 := Lib.hid (HP4.out.ext m4 (by simpa using hs6.symm))
  have HO5 := Lib.hid (HO4.out.ext m4 (fun b hb h0 => by simpa using HSQ.out h0 b hb))
  have HX5 := Lib.hid (HX4.out.trans m4)
  clear m1 m4 HS4 HR4 HT4 HP4 HO4 HX4 hsq
  go_wp2
  have hD : DrwAt w s p6 w.heap.size A0 n0 c0 k (1 + v1) (1 + v2) A n n w2.heap.size w5 0 := ⟨fun _ => 0, k3', HO5.out, fun i hi => ⟨Int.le_refl _, (by decide : (0 : Int) ≤ 2)⟩, HS5.out, by omega, by omega, HP5.out, HT5.out, HX5.out⟩
  have HD := Lib.hid hD
  have hp60 : w.heap.size < p6 := by omega
  clear hD HS5 HR5 HT5 HP5 HO5 HX5
  go_loopw [8] (fun i wr => ∃ j : Nat, j ≤ n ∧ i = .int .i64 j ∧ Hid (DrwAt w s p6 w.heap.size A0 n0 c0 k (1 + v1) (1 + v2) A n n w2.heap.size wr j)) (fun i _ => n - (intOf i).toNat)
  case atStart => exact ⟨0, Nat.zero_le _, rfl, HD⟩
  case round =>
    obtain ⟨j, hj, rfl, HJ⟩ := hrel
    obtain ⟨g, kk, dO, dK, dS, dk1, dk2, dP, dT, dX⟩ := HJ.out
    have HO := Lib.hid dO
    have HK := Lib.hid dK
    have HS := Lib.hid dS
    have HP := Lib.hid dP
    have HT := Lib.hid dT
    have HX := Lib.hid dX
    have p0 := dP.cellv (i := 0) rfl
    have p1 := dP.cellv (i := 1) rfl
    have p2 := dP.cellv (i := 2) rfl
    have hwz := dX.size
    clear dO dK dS dP dT dX HJ
    by_cases hlt : j < n
    · obtain ⟨b, o, rfl, hb0, hb1, hb2⟩ := HO.out.2.2.2 (by omega)
      have hbs := HSQ.out (by omega) b rfl
      obtain ⟨q1, q2, -⟩ := (show w2.heap.size ≤ b ∧ b < p6 ∧ True from by have := HQ.out (by omega) b rfl; exact ⟨this.1, this.2, trivial⟩)
      obtain ⟨hcj, hfj⟩ := hb2 j hlt
      have HB2 := Lib.hid hb2
      clear hb2
      go_wp2_with fail
      refine (pick_any _ s A0 n0 c0 f0 kk 4 HS.out (HRW.out.ext HX.out (fun b hb h0 => by simpa using HNE.out b hb h0)) HNE.out (by omega) (by omega) hn (by omega) (by omega)).mono ?_
      rintro e w7 ⟨v, kk2, rfl, va, vb, l1, l2, l3, l4⟩
      have HS7 := Lib.hid l1
      have HO7 := Lib.hid (HO.out.ext l4 (fun b hb h0 => by simpa using HSQ.out h0 b hb))
      have HP7 := Lib.hid (HP.out.ext l4 (by simpa using hs6.symm))
      have HT7 := Lib.hid (HT.out.ext l4 (by simpa using hsA.symm))
      have HX7 := Lib.hid (HX.out.trans l4)
      have p2' := HP7.out.cellv (i := 2) rfl
      have hcj' := l4.cell hcj (by simpa using hbs)
      have hfj' := (l4.frozen (p := ⟨b, o + j, none⟩) hb1 (by simpa using hbs)).trans hfj
      have z7 := l4.size
      clear l1 l4 hcj hfj p0 p1 p2 HS HO HP HT
      by_cases hv : v < v3
      · go_wp2_with fail
        have ST := Lib.hid (show w7.drew.cell? ⟨p6, 2, none⟩ = some (.slice (some ⟨b, o, none⟩) n n) from p2')
        go_region_held3 (fun w' => w'.cell? ⟨p6, 2, none⟩ = some (.slice (some ⟨b, o, none⟩) n n))
          (first | exact ST.out | exact Ext.cell x4 (by assumption) (by simpa using hs6.symm) | (rw [World.cell?_setCell_other _ _ _ _ (fun h => by injection h; omega)]; assumption))
          (first | (go_at_call 63; refine (pick_any _ s A0 n0 c0 f0 kk2 2 (HS7.out.ext (Ext.drew (X := []) _) (by simp)) ((HRW.out.ext HX7.out (fun b hb h0 => by simpa using HNE.out b hb h0)).ext (Ext.drew (X := []) _) (by simp)) HNE.out (by omega) (by omega) hn (by omega) (by omega)).mono ?_; rintro e wq ⟨u, kk3, rfl, ua, ub, x1, x2, x3, x4⟩; have y1 := x4.cell (p := ⟨b, o + j, none⟩) hcj' (by simpa using hbs); have y2 := (x4.frozen (p := ⟨b, o + j, none⟩) (by simpa using Nat.lt_of_lt_of_le hb1 z7) (by simpa using hbs)).trans hfj'; have y3 : IntKind.i64.wrap (1 + u) = 1 + u := IntWalk.i64_in _ (by omega)))
        rename_i hSx
        clear hSx y3
        have HZ1 := Lib.hid x1
        have HZ4 := Lib.hid ((Ext.drew (X := [s]) w7).trans x4)
        clear x1 x4
        go_wp2
        go_roundw
        case rel =>
          refine ⟨j + 1, by omega, by go_num, Lib.hid ⟨putF g j (1 + u), kk3, OwnRow.put (HO7.out.ext HZ4.out (fun b hb h0 => by simpa using HSQ.out h0 b hb)) hlt (1 + u) (WalkArith.wf_i64 (by omega)), fun i hi => ?_, HZ1.out.ext (Ext.set (X := [b]) _ _ _ (by simp)) (by simpa using hbs.symm), by omega, by omega, (HP7.out.ext HZ4.out (by simpa using hs6.symm)).setOther (by simp; omega) _, (HT7.out.ext HZ4.out (by simpa using hsA.symm)).setOther (by simp; omega) _, (HX7.out.trans HZ4.out).more (Ext.set (X := [b]) _ _ _ (by simp)) (by simp; left; omega)⟩⟩
          have := HK.out i hi
          unfold putF
          split <;> omega
        case measure => simp [intOf]; omega
      · have hv' : decide (v < v3) = false := decide_eq_false hv
        go_wp2
        go_roundw
        case rel => exact ⟨j + 1, by omega, by go_num, Lib.hid ⟨g, kk2, HO7.out, HK.out, HS7.out, by omega, by omega, HP7.out, HT7.out, HX7.out⟩⟩
        case measure => simp [intOf]; omega
    · have e : j = n := by omega
      have t0 := HT.out.cellv (i := 0) rfl
      have t1 := HT.out.cellv (i := 1) rfl
      have t2 := HT.out.cellv (i := 2) rfl
      have u0 := HT.out.frozen 0
      have u1 := HT.out.frozen 1
      have u2 := HT.out.frozen 2
      go_wp2
      refine bodyPost_ret ?_ rfl ⟨1 + v1, 1 + v2, A, n, g, kk, (by obtain ⟨q, y1, y2, y3⟩ := HAB.out; have y4 := HP.out.lt; exact ⟨q, y1, by omega, by simp; omega⟩), rfl, hW, hH, by omega, by omega, HN.out, kinds_iff.2 (fun i hi => HK.out i hi), (ownRow_setBox HO.out (by omega) _ _ _).mono (by omega), (((HS.out.ext (Ext.set (X := [w.heap.size]) _ _ _ (by simp)) (by simpa using hsA)).ext (Ext.set (X := [w.heap.size]) _ _ _ (by simp)) (by simpa using hsA)).ext (Ext.set (X := [w.heap.size]) _ _ _ (by simp)) (by simpa using hsA)), by omega, by omega, ((HX.out.more (Ext.set (X := [w.heap.size]) _ _ _ (by simp)) (by simp)).more (Ext.set (X := [w.heap.size]) _ _ _ (by simp)) (by simp)).more (Ext.set (X := [w.heap.size]) _ _ _ (by simp)) (by simp)⟩
      simp [results, Tryd.results73, go_sem, t0, t1, t2]

end Go.Proofs.YtbpdjmjkjiddjaaDoor.Base
namespace Go.Proofs.YtbpdjmjkjiddjaaDoor.Base
open Go.RowKit
set_option linter.unusedVariables false
set_option linter.unusedSimpArgs false

theorem pick1_any (w : World) (s : Nat) (A : Option Addr) (n c : Nat) (f : Nat → Int) (k m : Int) (hs : Src w s A n c k) (hr : Row .u8 w A n c f) (hne : ∀ b, blk A = some b → 0 < n → b ≠ s) (k0 : 0 ≤ k) (k1 : k ≤ 900000) (hn : n ≤ 1000000) (m1 : 1 ≤ m) (m2 : m ≤ 60000) :
    Calls Tryd.prog 63 #[.pointer (some ⟨s, 0, none⟩), .int .i64 m] w (Took s A n c k 2 (m - 1) w) := by
  by_cases h : m = 1
  · subst h
    have HS := Lib.hid hs
    clear hs hr hne
    go_enter Tryd.func63, Tryd.ntmps63
    go_wp2
    go_ret
    exact ⟨0, k, rfl, by omega, by omega, HS.out, by omega, by omega, Ext.refl _ _⟩
  · exact pick_any w s A n c f k m hs hr hne k0 k1 hn (by omega) m2
/-- one of a list's numbers -/
def Amg (s : Nat) (A : Option Addr) (n c : Nat) (k : Int) (m : Nat) (g : Nat → Int) (w : World) (e : Ending) (w' : World) : Prop :=
  ∃ (i : Nat) (k' : Int), i < m ∧ e = .returned (.int .i64 (g i)) ∧ Src w' s A n c k' ∧ k ≤ k' ∧ k' ≤ k + 2 ∧ Ext [s] w w'
theorem among_any (w : World) (s : Nat) (A : Option Addr) (n c : Nat) (f : Nat → Int) (k : Int) (hs : Src w s A n c k) (hr : Row .u8 w A n c f) (hne : ∀ b, blk A = some b → 0 < n → b ≠ s) (k0 : 0 ≤ k) (k1 : k ≤ 900000) (hn : n ≤ 1000000)
    (b m : Nat) (g : Nat → Int) (hcell : ∀ i, i < m → w.cell? ⟨b, i, none⟩ = some (.int .i64 (g i))) (hbs : b ≠ s) (m1 : 2 ≤ m) (m2 : m ≤ 100) :
    Calls Tryd.prog 99 #[.pointer (some ⟨s, 0, none⟩), .slice (some ⟨b, 0, none⟩) m m] w (Amg s A n c k m g w) := by
  have HS := Lib.hid hs
  have HR := Lib.hid hr
  have HE := Lib.hid hne
  have HC := Lib.hid hcell
  clear hs hr hne hcell
  go_enter Tryd.func99, Tryd.ntmps99
  go_wp2_with fail
  refine (pick_any _ s A n c f k m HS.out HR.out HE.out k0 k1 hn (by omega) (by omega)).mono ?_
  rintro e w1 ⟨v, k', rfl, v0, v1, j1, j2, j3, j4⟩
  obtain ⟨i, rfl⟩ := Int.eq_ofNat_of_zero_le v0
  have hi : i < m := by omega
  have hc1 := j4.cell (HC.out i hi) (by simpa using hbs)
  have HJ := Lib.hid j1
  have HX := Lib.hid j4
  clear j1 j4
  go_wp2
  go_ret
  exact ⟨i, k', hi, rfl, HJ.out, j2, by omega, HX.out⟩
theorem ext_grown0 {X : List Nat} {w w' : World} (h : w.grownBy w' none) : Ext X w w' := ⟨h.os, h.tape, h.output, h.size, fun k hk hx => h.block k hk (fun e => by cases e)⟩
/-- one number more -/
def snF (n : Nat) (g : Nat → Int) (z : Int) (i : Nat) : Int := if i = n then z else g i
theorem snF_cells (n : Nat) (g : Nat → Int) (z : Int) : cellsOfF (n + 1) (snF n g z) = cellsOfF n g ++ [.int .i64 z] := by
  unfold cellsOfF
  rw [List.range_succ, List.map_append]
  have e1 : (List.range n).map (fun i => Value.int .i64 (snF n g z i)) = (List.range n).map (fun i => Value.int .i64 (g i)) := List.map_congr_left (fun i hi => by
    unfold snF
    rw [if_neg (by have := List.mem_range.1 hi; omega)])
  rw [e1]
  simp [snF]
theorem snF_wf {n : Nat} {g : Nat → Int} {z : Int} (h : ∀ i, i < n → (Lit.int .i64 (g i)).wf = true) (hz : (Lit.int .i64 z).wf = true) : ∀ i, i < n + 1 → (Lit.int .i64 (snF n g z i)).wf = true := fun i hi => by
  unfold snF
  split
  · exact hz
  · exact h i (by omega)
theorem own_cell {w : World} {base b n c : Nat} {g : Nat → Int} (h : OwnRow w base (some ⟨b, 0, none⟩) n c g) {i : Nat} (hi : i < n) : w.cell? ⟨b, i, none⟩ = some (.int .i64 (g i)) ∧ w.frozen? ⟨b, i, none⟩ = false ∧ b < w.heap.size := by
  obtain ⟨b', o, ea, _, hb1, hb2⟩ := h.2.2.2 (by omega)
  simp at ea
  obtain ⟨rfl, rfl⟩ := ea
  have h2 := hb2 i hi
  rw [Nat.zero_add] at h2
  exact ⟨h2.1, h2.2, hb1⟩
theorem own_src {w : World} {base b n c : Nat} {g : Nat → Int} (h : OwnRow w base (some ⟨b, 0, none⟩) n c g) (o : Obj) : ∀ j u, (cellsOfF n g)[j]? = some u → (w.alloc o).cell? ((⟨b, 0, none⟩ : Addr).add j) = some u := fun j u hj => by
  have hjn : j < n := by
    have := (List.getElem?_eq_some_iff.1 hj).1
    rwa [cellsOfF_len] at this
  rw [cellsOfF_at hjn] at hj
  cases hj
  rw [Addr.add_lit, Nat.zero_add]
  exact (Ext.alloc (X := []) w o).cell (own_cell h hjn).1 (by simp)
def bdA (i : Nat) : Int := if i = 0 then 0 else if i = 1 then 8 else if i = 2 then 9 else -9223372036854775808
theorem bdA_wf (i : Nat) : (Lit.int .i64 (bdA i)).wf = true := by
  unfold bdA
  split
  · rfl
  · split
    · rfl
    · split <;> rfl
theorem bdA_cells (w : World) : ∀ i, i < 4 → (w.alloc (.cells #[.int .i64 0, .int .i64 8, .int .i64 9, .int .i64 (-9223372036854775808)] 2)).cell? ⟨w.heap.size, i, none⟩ = some (.int .i64 (bdA i)) := by
  intro i hi
  match i, hi with
  | 0, _ => simp [go_sem, bdA]
  | 1, _ => simp [go_sem, bdA]
  | 2, _ => simp [go_sem, bdA]
  | 3, _ => simp [go_sem, bdA]
/-- a panel that may be bent: its height is right, its row its own -/
def Bent (s : Nat) (A0 : Option Addr) (n0 c0 : Nat) (k : Int) (w : World) (e : Ending) (w' : World) : Prop :=
  ∃ (W H : Int) (A : Option Addr) (n c : Nat) (g : Nat → Int) (k' : Int), e = .returned (.agg #[.int .i64 W, .int .i64 H, .slice A n c]) ∧ (Lit.int .i64 W).wf = true ∧ (Lit.int .i64 H).wf = true ∧ n ≤ 113 ∧
    OwnRow w' w.heap.size A n c g ∧ Src w' s A0 n0 c0 k' ∧ k ≤ k' ∧ k' ≤ k + 1010 ∧ Ext [s] w w'
end Go.Proofs.YtbpdjmjkjiddjaaDoor.Base
namespace Go.Proofs.YtbpdjmjkjiddjaaDoor.Base
open Go.RowKit
set_option linter.unusedVariables false
set_option linter.unusedSimpArgs false

def bdB (i : Nat) : Int := if i = 0 then -1 else if i = 1 then 2 else 3
theorem bdB_bd (i : Nat) : -1 ≤ bdB i ∧ bdB i ≤ 3 := by
  unfold bdB
  split
  · omega
  · split <;> omega
theorem bdB_cells (w : World) : ∀ i, i < 3 → (w.alloc (.cells #[.int .i64 (-1), .int .i64 2, .int .i64 3] 2)).cell? ⟨w.heap.size, i, none⟩ = some (.int .i64 (bdB i)) := by
  intro i hi
  match i, hi with
  | 0, _ => simp [go_sem, bdB]
  | 1, _ => simp [go_sem, bdB]
  | 2, _ => simp [go_sem, bdB]
/-- one of n places -/
def TookN (s : Nat) (A : Option Addr) (n0 c : Nat) (k : Int) (n : Nat) (w : World) (e : Ending) (w' : World) : Prop :=
  ∃ (i : Nat) (k' : Int), e = .returned (.int .i64 (i : Int)) ∧ i < n ∧ Src w' s A n0 c k' ∧ k ≤ k' ∧ k' ≤ k + 2 ∧ Ext [s] w w'
theorem pickN_any (w : World) (s : Nat) (A : Option Addr) (n0 c : Nat) (f : Nat → Int) (k : Int) (n : Nat) (hs : Src w s A n0 c k) (hr : Row .u8 w A n0 c f) (hne : ∀ b, blk A = some b → 0 < n0 → b ≠ s) (k0 : 0 ≤ k) (k1 : k ≤ 900000) (hn : n0 ≤ 1000000) (m1 : 1 ≤ n) (m2 : n ≤ 60000) :
    Calls Tryd.prog 63 #[.pointer (some ⟨s, 0, none⟩), .int .i64 (n : Int)] w (TookN s A n0 c k n w) := by
  refine (pick1_any w s A n0 c f k (n : Int) hs hr hne k0 k1 hn (by omega) (by omega)).mono ?_
  rintro e w' ⟨v, k', rfl, v0, v1, j1, j2, j3, j4⟩
  obtain ⟨i, rfl⟩ := Int.eq_ofNat_of_zero_le v0
  exact ⟨i, k', rfl, by omega, j1, j2, j3, j4⟩
set_option maxHeartbeats 4000000 in
theorem bent_any (w : World) (s : Nat) (A0 : Option Addr) (n0 c0 : Nat) (f0 : Nat → Int) (k : Int) (hs : Src w s A0 n0 c0 k) (hr : Row .u8 w A0 n0 c0 f0) (hne : ∀ b, blk A0 = some b → 0 < n0 → b ≠ s) (k0 : 0 ≤ k) (k1 : k ≤ 800000) (hn : n0 ≤ 1000000) :
    Calls Tryd.prog 62 #[.pointer (some ⟨s, 0, none⟩)] w (Bent s A0 n0 c0 k w) := by
  have HNE := Lib.hid hne
  have HSZ := Lib.hid hs.1
  have HBL := Lib.hid (row_blk hr)
  have HT0 := Lib.hid (At.new w #[.int .i64 0, .int .i64 0, .slice none 0 0] 35)
  have HS0 := Lib.hid (hs.ext (Ext.alloc (X := []) w (.cells #[.int .i64 0, .int .i64 0, .slice none 0 0] 35)) (by simp))
  have HR0 := Lib.hid (hr.ext (Ext.alloc (X := []) w (.cells #[.int .i64 0, .int .i64 0, .slice none 0 0] 35)) (by simp))
  have HX0 := Lib.hid (Ext.alloc (X := [s]) w (.cells #[.int .i64 0, .int .i64 0, .slice none 0 0] 35))
  have zs0 : w.heap.size < (w.alloc (.cells #[.int .i64 0, .int .i64 0, .slice none 0 0] 35)).heap.size := by simp
  clear hs hr hne
  go_enter Tryd.func62, Tryd.ntmps62
  go_wp2_with fail
  generalize w.alloc (.cells #[.int .i64 0, .int .i64 0, .slice none 0 0] 35) = wA at *
  refine (draw_anyC _ s A0 n0 c0 f0 k HS0.out HR0.out HNE.out k0 k1 hn 5 (by omega) (by omega)).mono ?_
  rintro e w1 ⟨W, H, A, n, g, k1', ⟨b, rfl, b1, b2⟩, rfl, hW, hH, -, -, hni, hK, O1, S1, q1, q2, x1⟩
  have hsA : s ≠ w.heap.size := by have := HSZ.out; omega
  have hn112 : n ≤ 112 := by have := (inner_bd' hW hH).2; omega
  have hbs : b ≠ s := by have := HSZ.out; omega
  obtain ⟨W1, W2⟩ := side_mk hW
  obtain ⟨H1, H2⟩ := side_mk hH
  have HS1 := Lib.hid S1
  have HR1 := Lib.hid (HR0.out.ext x1 (fun b hb h0 => by simpa using HNE.out b hb h0))
  have HT1 := Lib.hid (HT0.out.ext x1 (by simpa using hsA.symm))
  have HX1 := Lib.hid (HX0.out.trans x1)
  have HO1 := Lib.hid O1
  have z1 := x1.size
  clear hni O1 S1 x1 HS0 HR0 HT0 HX0
  go_wp2_with fail
  have HP2 := Lib.hid (At.new w1 #[.int .i64 W, .int .i64 H, .slice (some ⟨b, 0, none⟩) n n] 35)
  have bN := (Below.refl w1.heap.size w1).alloc (Nat.le_refl _) (.cells #[.int .i64 W, .int .i64 H, .slice (some ⟨b, 0, none⟩) n n] 35)
  have HO2 := Lib.hid (HO1.out.below bN (Nat.le_refl _))
  have HS2 := Lib.hid (HS1.out.ext (Ext.of_below (X := []) bN) (by simp))
  have HR2 := Lib.hid (HR1.out.below bN (Nat.le_refl _))
  have HT2 := Lib.hid (HT1.out.below bN HT1.out.lt)
  have HX2 := Lib.hid (HX1.out.trans (Ext.of_below bN))
  clear bN HO1 HS1 HR1 HT1 HX1
  generalize w1.alloc (.cells #[.int .i64 W, .int .i64 H, .slice (some ⟨b, 0, none⟩) n n] 35) = w2 at *
  generalize hp3 : w1.heap.size = p3 at *
  have hs3 : s ≠ p3 := by have := HSZ.out; omega
  refine (pick_any _ s A0 n0 c0 f0 k1' 20 HS2.out HR2.out HNE.out (by omega) (by omega) hn (by omega) (by omega)).mono ?_
  rintro e w3 ⟨v, k2', rfl, v0, v1, j1, j2, j3, j4⟩
  have HS3 := Lib.hid j1
  have HR3 := Lib.hid (HR2.out.ext j4 (fun b hb h0 => by simpa using HNE.out b hb h0))
  have HT3 := Lib.hid (HT2.out.ext j4 (by simpa using hsA.symm))
  have HP3 := Lib.hid (HP2.out.ext j4 (by simpa using hs3.symm))
  have HO3 := Lib.hid (HO2.out.ext j4 (fun q hq h0 => by have e : q = b := (by simpa [blk] using hq.symm); subst e; simpa using hbs))
  have HX3 := Lib.hid (HX2.out.trans j4)
  have zp := HP2.out.lt
  have z3 := j4.size
  clear j1 j4 HS2 HR2 HT2 HP2 HO2 HX2
  have p0 := HP3.out.cellv (i := 0) rfl
  have p1 := HP3.out.cellv (i := 1) rfl
  have p2 := HP3.out.cellv (i := 2) rfl
  have t0 := HT3.out.cellv (i := 0) rfl
  have t1 := HT3.out.cellv (i := 1) rfl
  have t2 := HT3.out.cellv (i := 2) rfl
  have u0 := HT3.out.frozen 0
  have u1 := HT3.out.frozen 1
  have u2 := HT3.out.frozen 2
  have hwW : (Lit.int .i64 W).wf = true := WalkArith.wf_i64 (by omega)
  have hwH : (Lit.int .i64 H).wf = true := WalkArith.wf_i64 (by omega)
  by_cases e0 : v = 0
  · subst e0
    go_wp2_with fail
    have HC := Lib.hid (bdA_cells w3)
    have X4 := Ext.alloc (X := []) w3 (.cells #[.int .i64 0, .int .i64 8, .int .i64 9, .int .i64 (-9223372036854775808)] 2)
    have HS4 := Lib.hid (HS3.out.ext X4 (by simp))
    have HR4 := Lib.hid (HR3.out.ext X4 (by simp))
    have HT4 := Lib.hid (HT3.out.ext X4 (by simp))
    have HP4 := Lib.hid (HP3.out.ext X4 (by simp))
    have HO4 := Lib.hid (HO3.out.ext X4 (by simp))
    have HX4 := Lib.hid (HX3.out.trans (Ext.alloc (X := [s]) w3 (.cells #[.int .i64 0, .int .i64 8, .int .i64 9, .int .i64 (-9223372036854775808)] 2)))
    clear X4 HS3 HR3 HT3 HP3 HO3 HX3 p0 p1 p2 t0 t1 t2 u0 u1 u2
    generalize w3.alloc (.cells #[.int .i64 0, .int .i64 8, .int .i64 9, .int .i64 (-9223372036854775808)] 2) = w4 at *
    have hs4 : w3.heap.size ≠ s := by have := HSZ.out; omega
    generalize w3.heap.size = h4 at *
    refine (among_any _ s A0 n0 c0 f0 k2' HS4.out HR4.out HNE.out (by omega) (by omega) hn h4 4 bdA HC.out hs4 (by omega) (by omega)).mono ?_
    rintro e w5 ⟨i, k3', hi, rfl, j1, j2', j3', j4⟩
    have hwy := bdA_wf i
    generalize bdA i = y at *
    have HS5 := Lib.hid j1
    have HT5 := Lib.hid (HT4.out.ext j4 (by simpa using hsA.symm))
    have HP5 := Lib.hid (HP4.out.ext j4 (by simpa using hs3.symm))
    have HO5 := Lib.hid (HO4.out.ext j4 (fun q hq h0 => by have e : q = b := (by simpa [blk] using hq.symm); subst e; simpa using hbs))
    have HX5 := Lib.hid (HX4.out.trans j4)
    clear j1 j4 HS4 HR4 HT4 HP4 HO4 HX4 HC
    have p0 := HP5.out.cellv (i := 0) rfl
    have p1 := HP5.out.cellv (i := 1) rfl
    have p2 := HP5.out.cellv (i := 2) rfl
    have f0' := HP5.out.frozen 0
    have t0 := HT5.out.cellv (i := 0) rfl
    have t1 := HT5.out.cellv (i := 1) rfl
    have t2 := HT5.out.cellv (i := 2) rfl
    have u0 := HT5.out.frozen 0
    have u1 := HT5.out.frozen 1
    have u2 := HT5.out.frozen 2
    have hpt : p3 ≠ w.heap.size := by omega
    go_wp2
    refine bodyPost_ret ?_ rfl ⟨y, H, some ⟨b, 0, none⟩, n, n, g, k3', rfl, hwy, hwH, by omega, (ownRow_setBox (HO5.out.ext (Ext.set (X := [p3]) _ _ _ (by simp)) (fun q hq h0 => by have e : q = b := (by simpa [blk] using hq.symm); subst e; simp; omega)) (by omega) _ _ _).mono (by omega), ((((HS5.out.ext (Ext.set (X := [p3]) _ _ _ (by simp)) (by simpa using hs3)).ext (Ext.set (X := [w.heap.size]) _ _ _ (by simp)) (by simpa using hsA)).ext (Ext.set (X := [w.heap.size]) _ _ _ (by simp)) (by simpa using hsA)).ext (Ext.set (X := [w.heap.size]) _ _ _ (by simp)) (by simpa using hsA)), by omega, by omega, (((HX5.out.more (Ext.set (X := [p3]) _ _ _ (by simp)) (by simp; omega)).more (Ext.set (X := [w.heap.size]) _ _ _ (by simp)) (by simp)).more (Ext.set (X := [w.heap.size]) _ _ _ (by simp)) (by simp)).more (Ext.set (X := [w.heap.size]) _ _ _ (by simp)) (by simp)⟩
    simp [results, Tryd.results62, go_sem, t0, t1, t2, hpt]
  by_cases e1 : v = 1
  · subst e1
    obtain ⟨i2, hi2, hz0, hza, hzb⟩ := info_parts infoI64
    have HSRC := Lib.hid (own_src HO3.out (.cells #[.int .i64 0] 2))
    have HWF := Lib.hid HO3.out.2.2.1
    have hpt : p3 ≠ w.heap.size := by omega
    clear p0 p1 t0 t1 t2 u0 u1 u2
    go_wp2_with (first
      | (at_builtin; refine wpList_append_grows _ (by rfl) _ _ _ (by rfl) 2 i2 _ 1 8 Tryd.underlying29 hi2 hz0 hza hzb rfl (by omega) (some ⟨b, 0, none⟩) n n (cellsOfF n g) (by rfl) (fun h => by cases h) (by simp [cellsOfF_len]) (fun q hq => (Option.some.inj hq) ▸ HSRC.out) ⟨w3.heap.size, 0, none⟩ 1 1 [.int .i64 0] (by rfl) (by rfl) (World.news_of_block (cs := #[.int .i64 0]) (t := 2) (fr := (0, 0)) (heap_alloc_new w3 _)) (fun u hu => by simp at hu; subst hu; rfl) (by omega) (by unfold maxLen; omega) (by omega) ?_; intro v6 w6 hown6 hgrow6; have hex : ∃ A6 c6, v6 = .slice A6 (n + 1) c6 ∧ Hid (OwnRow w6 (w3.alloc (.cells #[.int .i64 0] 2)).heap.size A6 (n + 1) c6 (snF n g 0)) := (by rw [← snF_cells] at hown6; obtain ⟨A6, c6, e6, hO6⟩ := ownRow_of_owns hown6 (Nat.succ_pos n) (snF_wf HWF.out rfl); exact ⟨A6, c6, e6, Lib.hid hO6⟩); clear hown6; obtain ⟨A6, c6, rfl, HO6⟩ := hex; have HG6 := Lib.hid hgrow6; have HP6 := Lib.hid ((HP3.out.ext (Ext.alloc (X := []) w3 (.cells #[.int .i64 0] 2)) (by simp)).grown hgrow6 (fun e => by cases e)); have HT6 := Lib.hid ((HT3.out.ext (Ext.alloc (X := []) w3 (.cells #[.int .i64 0] 2)) (by simp)).grown hgrow6 (fun e => by cases e)); clear hgrow6; have p0 := HP6.out.cellv (i := 0) rfl; have p1 := HP6.out.cellv (i := 1) rfl; have p2' := HP6.out.cellv (i := 2) rfl; have f2' := HP6.out.frozen 2; have t0 := HT6.out.cellv (i := 0) rfl; have t1 := HT6.out.cellv (i := 1) rfl; have t2 := HT6.out.cellv (i := 2) rfl; have u0 := HT6.out.frozen 0; have u1 := HT6.out.frozen 1; have u2 := HT6.out.frozen 2)
      | fail)
    have HX6 := Lib.hid ((HX3.out.trans (Ext.alloc (X := [s]) w3 (.cells #[.int .i64 0] 2))).trans (ext_grown0 HG6.out))
    have HS6 := Lib.hid ((HS3.out.ext (Ext.alloc (X := []) w3 (.cells #[.int .i64 0] 2)) (by simp)).ext (ext_grown0 (X := []) HG6.out) (by simp))
    refine bodyPost_ret ?_ rfl ⟨W, H, A6, n + 1, c6, snF n g 0, k2', rfl, hwW, hwH, by omega, (ownRow_setBox (HO6.out.ext (Ext.set (X := [p3]) _ _ _ (by simp)) (fun q hq h0 => by have := HO6.out.base_lt h0 q hq; simp at this; simp; omega)) (by simp; omega) _ _ _).mono (by simp; omega), ((((HS6.out.ext (Ext.set (X := [p3]) _ _ _ (by simp)) (by simpa using hs3)).ext (Ext.set (X := [w.heap.size]) _ _ _ (by simp)) (by simpa using hsA)).ext (Ext.set (X := [w.heap.size]) _ _ _ (by simp)) (by simpa using hsA)).ext (Ext.set (X := [w.heap.size]) _ _ _ (by simp)) (by simpa using hsA)), by omega, by omega, (((HX6.out.more (Ext.set (X := [p3]) _ _ _ (by simp)) (by simp; omega)).more (Ext.set (X := [w.heap.size]) _ _ _ (by simp)) (by simp)).more (Ext.set (X := [w.heap.size]) _ _ _ (by simp)) (by simp)).more (Ext.set (X := [w.heap.size]) _ _ _ (by simp)) (by simp)⟩
    simp [results, Tryd.results62, go_sem, t0, t1, t2, hpt]
  by_cases e2 : v = 2
  · subst e2
    by_cases hn0 : n = 0
    · subst hn0
      go_wp2
      refine bodyPost_ret ?_ rfl ⟨W, H, some ⟨b, 0, none⟩, 0, 0, g, k2', rfl, hwW, hwH, by omega, (ownRow_setBox HO3.out (by omega) _ _ _).mono (by omega), (((HS3.out.ext (Ext.set (X := [w.heap.size]) _ _ _ (by simp)) (by simpa using hsA)).ext (Ext.set (X := [w.heap.size]) _ _ _ (by simp)) (by simpa using hsA)).ext (Ext.set (X := [w.heap.size]) _ _ _ (by simp)) (by simpa using hsA)), by omega, by omega, ((HX3.out.more (Ext.set (X := [w.heap.size]) _ _ _ (by simp)) (by simp)).more (Ext.set (X := [w.heap.size]) _ _ _ (by simp)) (by simp)).more (Ext.set (X := [w.heap.size]) _ _ _ (by simp)) (by simp)⟩
      simp [results, Tryd.results62, go_sem, t0, t1, t2]
    · have hn1 : 0 < n := by omega
      have hn2 : (0 : Int) < (n : Int) := by omega
      have ST := Lib.hid (show w3.drew.cell? ⟨p3, 2, none⟩ = some (.slice (some ⟨b, 0, none⟩) n n) from p2)
      have HSd := Lib.hid (HS3.out.ext (Ext.drew (X := []) w3) (by simp))
      have HSa := Lib.hid ((HS3.out.ext (Ext.alloc (X := []) w3 (.cells #[.int .i64 (-1), .int .i64 2, .int .i64 3] 2)) (by simp)).ext (Ext.drew (X := []) (w3.alloc (.cells #[.int .i64 (-1), .int .i64 2, .int .i64 3] 2))) (by simp))
      have HRd := Lib.hid (HR3.out.ext (Ext.drew (X := []) w3) (by simp))
      have HRa := Lib.hid ((HR3.out.ext (Ext.alloc (X := []) w3 (.cells #[.int .i64 (-1), .int .i64 2, .int .i64 3] 2)) (by simp)).ext (Ext.drew (X := []) (w3.alloc (.cells #[.int .i64 (-1), .int .i64 2, .int .i64 3] 2))) (by simp))
      have HCa : Hid (∀ i, i < 3 → (w3.alloc (.cells #[.int .i64 (-1), .int .i64 2, .int .i64 3] 2)).drew.cell? ⟨w3.heap.size, i, none⟩ = some (.int .i64 (bdB i))) := Lib.hid (fun i hi => bdB_cells w3 i hi)
      have HWc := Lib.hid (fun (i : Nat) (hi : i < n) => own_cell HO3.out hi)
      have hls : w3.heap.size ≠ s := by have := HSZ.out; omega
      have hp3s : p3 ∉ [s] := by simpa using hs3.symm
      have hbsn : b ∉ [s] := by simpa using hbs
      clear p0 p1 t0 t1 t2 u0 u1 u2
      go_wp2_with fail
      go_region_held3 (fun w' => w'.cell? ⟨p3, 2, none⟩ = some (.slice (some ⟨b, 0, none⟩) n n))
        (first | exact ST.out | exact (Ext.alloc (X := []) _ _).cell (by assumption) (by simp) | exact Ext.cell x4 (by assumption) hp3s | exact Ext.cell y4 (by assumption) hp3s | (rw [World.cell?_setCell_other _ _ _ _ (fun h => by injection h; omega)]; assumption))
        (first
          | (go_at_call 63; (refine (pickN_any _ s A0 n0 c0 f0 k2' n ?_ ?_ HNE.out (by omega) (by omega) hn (by omega) (by omega)).mono ?_); (with_reducible exact HSd.out); (with_reducible exact HRd.out); rintro e wp ⟨i, kk, rfl, hin, x1, x2, x3, x4⟩; have HY1 := Lib.hid x1; have HYX := Lib.hid ((Ext.drew (X := [s]) w3).trans x4))
          | (go_at_call 63; (refine (pickN_any _ s A0 n0 c0 f0 k2' n ?_ ?_ HNE.out (by omega) (by omega) hn (by omega) (by omega)).mono ?_); (with_reducible exact HSa.out); (with_reducible exact HRa.out); rintro e wp ⟨i, kk, rfl, hin, x1, x2, x3, x4⟩; have HY1 := Lib.hid x1; have HYX := Lib.hid (((Ext.alloc (X := [s]) w3 (.cells #[.int .i64 (-1), .int .i64 2, .int .i64 3] 2)).trans (Ext.drew (X := [s]) (w3.alloc (.cells #[.int .i64 (-1), .int .i64 2, .int .i64 3] 2)))).trans x4); have HYC := Lib.hid (fun (i : Nat) (hi : i < 3) => x4.cell (HCa.out i hi) (by simpa using hls)))
          | (have _ := HYC; go_at_call 99; (refine (among_any _ s A0 n0 c0 f0 kk HY1.out (HR3.out.ext HYX.out (fun b hb h0 => by simpa using HNE.out b hb h0)) HNE.out (by omega) (by omega) hn _ 3 bdB HYC.out hls (by omega) (by omega)).mono ?_); rintro e wq ⟨i2, kk2, hi2, rfl, y1, y2, y3, y4⟩; have HZ1 := Lib.hid y1; have HZX := Lib.hid (HYX.out.trans y4); have yc := HZX.out.cell (HWc.out i hin).1 hbsn; have yf := (HZX.out.frozen (p := ⟨b, i, none⟩) (HWc.out i hin).2.2 hbsn).trans (HWc.out i hin).2.1)
          | (go_at_call 99; (refine (among_any _ s A0 n0 c0 f0 kk (HY1.out.ext (Ext.alloc (X := []) wp (.cells #[.int .i64 (-1), .int .i64 2, .int .i64 3] 2)) (by simp)) ((HR3.out.ext HYX.out (fun b hb h0 => by simpa using HNE.out b hb h0)).ext (Ext.alloc (X := []) wp (.cells #[.int .i64 (-1), .int .i64 2, .int .i64 3] 2)) (by simp)) HNE.out (by omega) (by omega) hn _ 3 bdB (bdB_cells wp) (by have := HSZ.out; have := HYX.out.size; omega) (by omega) (by omega)).mono ?_); rintro e wq ⟨i2, kk2, hi2, rfl, y1, y2, y3, y4⟩; have HZ1 := Lib.hid y1; have HZX := Lib.hid ((HYX.out.trans (Ext.alloc (X := [s]) wp (.cells #[.int .i64 (-1), .int .i64 2, .int .i64 3] 2))).trans y4); have yc := HZX.out.cell (HWc.out i hin).1 hbsn; have yf := (HZX.out.frozen (p := ⟨b, i, none⟩) (HWc.out i hin).2.2 hbsn).trans (HWc.out i hin).2.1))
      all_goals
        have hwz := bdB_bd i2
        have HO9 := Lib.hid ((HO3.out.ext HZX.out (fun q hq h0 => by have e : q = b := (by simpa [blk] using hq.symm); subst e; simpa using hbs)).put hin (bdB i2) (WalkArith.wf_i64 (by omega)))
        rw [Nat.zero_add] at HO9
        have HP9 := Lib.hid ((HP3.out.ext HZX.out hp3s).setOther (a := ⟨b, i, none⟩) (by show b ≠ p3; omega) (.int .i64 (bdB i2)))
        have HT9 := Lib.hid ((HT3.out.ext HZX.out (by simpa using hsA.symm)).setOther (a := ⟨b, i, none⟩) (by show b ≠ w.heap.size; omega) (.int .i64 (bdB i2)))
        have HS9 := Lib.hid (HZ1.out.ext (Ext.set (X := [b]) _ ⟨b, i, none⟩ (.int .i64 (bdB i2)) (by simp)) (by simpa using hbs.symm))
        have HX9 := Lib.hid ((HX3.out.trans HZX.out).more (Ext.set (X := [b]) _ ⟨b, i, none⟩ (.int .i64 (bdB i2)) (by simp)) (by simp; omega))
        have hz9 : w3.heap.size ≤ (wq.setCell ⟨b, i, none⟩ (.int .i64 (bdB i2))).heap.size := by have := HZX.out.size; simpa [World.setCell] using this
        clear ST HSd HSa HRd HRa HCa HWc x1 x4 y1 y4 yc yf HY1 HYX HZ1 HZX p2
        generalize wq.setCell ⟨b, i, none⟩ (.int .i64 (bdB i2)) = w9 at *
        generalize putF g i (bdB i2) = g9 at *
        have p0 := HP9.out.cellv (i := 0) rfl
        have p1 := HP9.out.cellv (i := 1) rfl
        have p2 := HP9.out.cellv (i := 2) rfl
        have t0 := HT9.out.cellv (i := 0) rfl
        have t1 := HT9.out.cellv (i := 1) rfl
        have t2 := HT9.out.cellv (i := 2) rfl
        have u0 := HT9.out.frozen 0
        have u1 := HT9.out.frozen 1
        have u2 := HT9.out.frozen 2
        have pz := HP9.out.lt
        have tz := HT9.out.lt
        go_wp2
        refine bodyPost_ret ?_ rfl ⟨W, H, some ⟨b, 0, none⟩, n, n, g9, kk2, rfl, hwW, hwH, by omega, (ownRow_setBox HO9.out (by omega) _ _ _).mono (by omega), (((HS9.out.ext (Ext.set (X := [w.heap.size]) _ _ _ (by simp)) (by simpa using hsA)).ext (Ext.set (X := [w.heap.size]) _ _ _ (by simp)) (by simpa using hsA)).ext (Ext.set (X := [w.heap.size]) _ _ _ (by simp)) (by simpa using hsA)), by omega, by omega, ((HX9.out.more (Ext.set (X := [w.heap.size]) _ _ _ (by simp)) (by simp)).more (Ext.set (X := [w.heap.size]) _ _ _ (by simp)) (by simp)).more (Ext.set (X := [w.heap.size]) _ _ _ (by simp)) (by simp)⟩
        simp [results, Tryd.results62, go_sem, t0, t1, t2]
  by_cases e3 : v = 3
  · subst e3
    go_wp2_with fail
    refine (specNewC _ 8 8 112 rfl rfl rfl).mono ?_
    rintro e w5 ⟨A5, ⟨b5, rfl, k5, k6⟩, rfl, O5, x5⟩
    have HS5 := Lib.hid (HS3.out.ext (Ext.of_below (X := []) x5) (by simp))
    have HT5 := Lib.hid (HT3.out.below x5 HT3.out.lt)
    have HP5 := Lib.hid (HP3.out.below x5 HP3.out.lt)
    have HO5 := Lib.hid O5
    have HX5 := Lib.hid (HX3.out.trans (Ext.of_below x5))
    clear O5 x5 HS3 HR3 HT3 HP3 HO3 HX3 p0 p1 p2 t0 t1 t2 u0 u1 u2
    have p0 := HP5.out.cellv (i := 0) rfl
    have p1 := HP5.out.cellv (i := 1) rfl
    have p2 := HP5.out.cellv (i := 2) rfl
    have f0' := HP5.out.frozen 0
    have f1' := HP5.out.frozen 1
    have f2' := HP5.out.frozen 2
    have t0 := HT5.out.cellv (i := 0) rfl
    have t1 := HT5.out.cellv (i := 1) rfl
    have t2 := HT5.out.cellv (i := 2) rfl
    have u0 := HT5.out.frozen 0
    have u1 := HT5.out.frozen 1
    have u2 := HT5.out.frozen 2
    have hpt : p3 ≠ w.heap.size := by omega
    go_wp2
    refine bodyPost_ret ?_ rfl ⟨8, 8, some ⟨b5, 0, none⟩, 112, 112, fun _ => 0, k2', rfl, rfl, rfl, by omega, (ownRow_setBox (ownRow_setBox HO5.out (by omega) _ _ _) (by omega) _ _ _).mono (by omega), ((((((HS5.out.ext (Ext.set (X := [p3]) _ _ _ (by simp)) (by simpa using hs3)).ext (Ext.set (X := [p3]) _ _ _ (by simp)) (by simpa using hs3)).ext (Ext.set (X := [p3]) _ _ _ (by simp)) (by simpa using hs3)).ext (Ext.set (X := [w.heap.size]) _ _ _ (by simp)) (by simpa using hsA)).ext (Ext.set (X := [w.heap.size]) _ _ _ (by simp)) (by simpa using hsA)).ext (Ext.set (X := [w.heap.size]) _ _ _ (by simp)) (by simpa using hsA)), by omega, by omega, (((((HX5.out.more (Ext.set (X := [p3]) _ _ _ (by simp)) (by simp; omega)).more (Ext.set (X := [p3]) _ _ _ (by simp)) (by simp; omega)).more (Ext.set (X := [p3]) _ _ _ (by simp)) (by simp; omega)).more (Ext.set (X := [w.heap.size]) _ _ _ (by simp)) (by simp)).more (Ext.set (X := [w.heap.size]) _ _ _ (by simp)) (by simp)).more (Ext.set (X := [w.heap.size]) _ _ _ (by simp)) (by simp)⟩
    simp [results, Tryd.results62, go_sem, t0, t1, t2, hpt]
  have d0 : decide (v = 0) = false := decide_eq_false e0
  have d1 : decide (v = 1) = false := decide_eq_false e1
  have d2 : decide (v = 2) = false := decide_eq_false e2
  have d3 : decide (v = 3) = false := decide_eq_false e3
  go_wp2
  refine bodyPost_ret ?_ rfl ⟨W, H, some ⟨b, 0, none⟩, n, n, g, k2', rfl, hwW, hwH, by omega, (ownRow_setBox HO3.out (by omega) _ _ _).mono (by omega), (((HS3.out.ext (Ext.set (X := [w.heap.size]) _ _ _ (by simp)) (by simpa using hsA)).ext (Ext.set (X := [w.heap.size]) _ _ _ (by simp)) (by simpa using hsA)).ext (Ext.set (X := [w.heap.size]) _ _ _ (by simp)) (by simpa using hsA)), by omega, by omega, ((HX3.out.more (Ext.set (X := [w.heap.size]) _ _ _ (by simp)) (by simp)).more (Ext.set (X := [w.heap.size]) _ _ _ (by simp)) (by simp)).more (Ext.set (X := [w.heap.size]) _ _ _ (by simp)) (by simp)⟩
  simp [results, Tryd.results62, go_sem, t0, t1, t2]
end Go.Proofs.YtbpdjmjkjiddjaaDoor.Base
namespace Go.Proofs.YtbpdjmjkjiddjaaDoor.Base
open Go.RowKit
set_option linter.unusedVariables false
set_option linter.unusedSimpArgs false

/-- a panel that may be bent, and two numbers -/
def DrwS (w : World) (e : Ending) (w' : World) : Prop :=
  ∃ (W H : Int) (A : Option Addr) (n c : Nat) (g : Nat → Int) (a b : Int), e = .returned (.tuple #[.agg #[.int .i64 W, .int .i64 H, .slice A n c], .int .i64 a, .int .i64 b]) ∧ (Lit.int .i64 W).wf = true ∧ (Lit.int .i64 H).wf = true ∧ n ≤ 113 ∧ OwnRow w' w.heap.size A n c g ∧ (-1 ≤ a ∧ a ≤ 4) ∧ (0 ≤ b ∧ b ≤ 3) ∧ Below w.heap.size w w'
/-- a panel that may be bent, and a number -/
def DrwC (w : World) (e : Ending) (w' : World) : Prop :=
  ∃ (W H : Int) (A : Option Addr) (n c : Nat) (g : Nat → Int) (a : Int), e = .returned (.tuple #[.agg #[.int .i64 W, .int .i64 H, .slice A n c], .int .i64 a]) ∧ (Lit.int .i64 W).wf = true ∧ (Lit.int .i64 H).wf = true ∧ n ≤ 113 ∧ OwnRow w' w.heap.size A n c g ∧ (-1 ≤ a ∧ a ≤ 4) ∧ Below w.heap.size w w'
set_option maxHeartbeats 4000000 in
theorem draw_shared (w : World) (A0 : Option Addr) (n0 c0 : Nat) (f0 : Nat → Int) (hr : Row .u8 w A0 n0 c0 f0) (hn : n0 ≤ 1000000) :
    Calls Tryd.prog 25 #[.slice A0 n0 c0] w (DrwS w) := by
  have HBL := Lib.hid (row_blk hr)
  have bA := (Below.refl w.heap.size w).alloc (Nat.le_refl _) (.cells #[.int .i64 0, .int .i64 0, .slice none 0 0] 35)
  have HT0 := Lib.hid (At.new w #[.int .i64 0, .int .i64 0, .slice none 0 0] 35)
  have HR0 := Lib.hid (hr.below bA (Nat.le_refl _))
  have HB0 := Lib.hid bA
  have hz0 : (w.alloc (.cells #[.int .i64 0, .int .i64 0, .slice none 0 0] 35)).heap.size = w.heap.size + 1 := by simp
  clear hr bA
  go_enter Tryd.func25, Tryd.ntmps25
  go_wp2_with fail
  refine (from_any _ A0 n0 c0).mono ?_
  rintro e w1 ⟨s, rfl, hs0, S1, b1⟩
  rw [hz0] at hs0
  have HS1 := Lib.hid S1
  have HT1 := Lib.hid (HT0.out.below b1 HT0.out.lt)
  have HR1 := Lib.hid (HR0.out.below b1 (Nat.le_refl _))
  have HB1 := Lib.hid (HB0.out.trans (b1.mono HB0.out.size))
  have hz1 := b1.size
  have HNE := Lib.hid (fun b (hb : blk A0 = some b) (h0 : 0 < n0) => show b ≠ s from by have := HBL.out h0 b hb; omega)
  have hsw : w.heap.size ≠ s := by omega
  rw [hz0] at hz1
  clear S1 b1 HT0 HR0 HB0 hz0
  go_wp2_with fail
  refine (bent_any w1 s A0 n0 c0 f0 0 HS1.out HR1.out HNE.out (by omega) (by omega) hn).mono ?_
  rintro e w2 ⟨W, H, A, n, c, g, k1, rfl, hwW, hwH, hn113, O2, S2, q1, q2, x2⟩
  have hz2 := x2.size
  have HS2 := Lib.hid S2
  have HT2 := Lib.hid (HT1.out.ext x2 (by simpa using hsw))
  have HR2 := Lib.hid (HR1.out.ext x2 (fun b hb h0 => by simpa using HNE.out b hb h0))
  have HX2 := Lib.hid x2
  have hss := HS1.out.1
  have HO2 := Lib.hid O2
  have HOB : Hid (∀ b, blk A = some b → 0 < n → b ≠ s ∧ b ≠ w.heap.size) := Lib.hid (fun b hb h0 => by have := O2.base_lt h0 b hb; have := HS1.out.1; omega)
  clear S2 x2 O2 HS1 HT1 HR1
  have bN := (Below.refl w2.heap.size w2).alloc (Nat.le_refl _) (.cells #[.int .i64 W, .int .i64 H, .slice A n c] 35)
  have HP3 := Lib.hid (At.new w2 #[.int .i64 W, .int .i64 H, .slice A n c] 35)
  have HS3 := Lib.hid (HS2.out.ext (Ext.of_below (X := []) bN) (by simp))
  have HT3 := Lib.hid (HT2.out.below bN HT2.out.lt)
  have HR3 := Lib.hid (HR2.out.below bN (Nat.le_refl _))
  have HO3 := Lib.hid (HO2.out.below bN (Nat.le_refl _))
  have HX3 := Lib.hid (HX2.out.trans (Ext.of_below (X := [s]) bN))
  clear bN HS2 HT2 HR2 HO2 HX2
  go_wp2_with fail
  generalize w2.alloc (.cells #[.int .i64 W, .int .i64 H, .slice A n c] 35) = w3 at *
  obtain ⟨p3, hp3⟩ : ∃ p3, w2.heap.size = p3 := ⟨_, rfl⟩
  rw [hp3] at HP3 hz2 ⊢
  clear hp3
  have hsp : p3 ≠ s := by omega
  refine (pick_any _ s A0 n0 c0 f0 k1 4 HS3.out HR3.out HNE.out (by omega) (by omega) hn (by omega) (by omega)).mono ?_
  rintro e w4 ⟨v, k2, rfl, v0, v1, j1, j2, j3, j4⟩
  have HS4 := Lib.hid j1
  have HR4 := Lib.hid (HR3.out.ext j4 (fun b hb h0 => by simpa using HNE.out b hb h0))
  have HX4 := Lib.hid (HX3.out.trans j4)
  clear j1
  go_wp2_with fail
  refine (pick_any _ s A0 n0 c0 f0 k2 12 HS4.out HR4.out HNE.out (by omega) (by omega) hn (by omega) (by omega)).mono ?_
  rintro e w5 ⟨u, k3, rfl, u0, u1, j1, j2', j3', j4'⟩
  have HS5 := Lib.hid j1
  have HR5 := Lib.hid (HR4.out.ext j4' (fun b hb h0 => by simpa using HNE.out b hb h0))
  have HT5 := Lib.hid ((HT3.out.ext j4 (by simpa using hsw)).ext j4' (by simpa using hsw))
  have HP5 := Lib.hid ((HP3.out.ext j4 (by simpa using hsp)).ext j4' (by simpa using hsp))
  have HO5 := Lib.hid ((HO3.out.ext j4 (fun b hb h0 => by simpa using (HOB.out b hb h0).1)).ext j4' (fun b hb h0 => by simpa using (HOB.out b hb h0).1))
  have HX5 := Lib.hid (HX4.out.trans j4')
  clear j1 j4 j4' HS4 HR4 HX4 HS3 HR3 HT3 HP3 HO3 HX3
  have p0 := HP5.out.cellv (i := 0) rfl
  have p1 := HP5.out.cellv (i := 1) rfl
  have p2 := HP5.out.cellv (i := 2) rfl
  have pz := HP5.out.lt
  have t0 := HT5.out.cellv (i := 0) rfl
  have t1 := HT5.out.cellv (i := 1) rfl
  have t2 := HT5.out.cellv (i := 2) rfl
  have u0' := HT5.out.frozen 0
  have u1' := HT5.out.frozen 1
  have u2' := HT5.out.frozen 2
  have tz := HT5.out.lt
  go_wp2_with fail
  have hps : p3 ∉ [s] := by simpa using hsp
  have hws : w.heap.size ∉ [s] := by simpa using hsw
  have hpw : p3 ≠ w.heap.size := by omega
  have ST := Lib.hid (show w5.drew.cell? ⟨p3, 0, none⟩ = some (.int .i64 W) ∧ w5.drew.cell? ⟨p3, 1, none⟩ = some (.int .i64 H) ∧ w5.drew.cell? ⟨p3, 2, none⟩ = some (.slice A n c) from ⟨p0, p1, p2⟩)
  have HSd := Lib.hid (HS5.out.ext (Ext.drew (X := []) w5) (by simp))
  have HRd := Lib.hid (HR5.out.ext (Ext.drew (X := []) w5) (by simp))
  have HTT := Lib.hid HT5.out
  clear t0 t1 t2 u0' u1' u2' tz p0 p1 p2
  go_region_held3 (fun w' => w'.cell? ⟨p3, 0, none⟩ = some (.int .i64 W) ∧ w'.cell? ⟨p3, 1, none⟩ = some (.int .i64 H) ∧ w'.cell? ⟨p3, 2, none⟩ = some (.slice A n c))
    (first | exact ST.out | exact ⟨y0, y1, y2⟩ | exact ⟨by rw [World.cell?_setCell_other _ _ _ _ (fun h => by injection h; omega), World.cell?_setCell_other _ _ _ _ (fun h => by injection h; omega), World.cell?_setCell_other _ _ _ _ (fun h => by injection h; omega)]; exact y0, by rw [World.cell?_setCell_other _ _ _ _ (fun h => by injection h; omega), World.cell?_setCell_other _ _ _ _ (fun h => by injection h; omega), World.cell?_setCell_other _ _ _ _ (fun h => by injection h; omega)]; exact y1, by rw [World.cell?_setCell_other _ _ _ _ (fun h => by injection h; omega), World.cell?_setCell_other _ _ _ _ (fun h => by injection h; omega), World.cell?_setCell_other _ _ _ _ (fun h => by injection h; omega)]; exact y2⟩)
    (first | (go_at_call 63; refine (pick_any _ s A0 n0 c0 f0 k3 4 HSd.out HRd.out HNE.out (by omega) (by omega) hn (by omega) (by omega)).mono ?_; rintro e wq ⟨z, k4, rfl, za, zb, x1, x2, x3, x4⟩; have HX6 := Lib.hid x4; have y0 := x4.cell ST.out.1 hps; have y1 := x4.cell ST.out.2.1 hps; have y2 := x4.cell ST.out.2.2 hps; have r0 := x4.cell (HTT.out.cellv (i := 0) rfl) hws; have r1 := x4.cell (HTT.out.cellv (i := 1) rfl) hws; have r2 := x4.cell (HTT.out.cellv (i := 2) rfl) hws; have g0 := (x4.frozen (p := ⟨w.heap.size, 0, none⟩) HTT.out.lt hws).trans (HTT.out.frozen 0); have g1 := (x4.frozen (p := ⟨w.heap.size, 1, none⟩) HTT.out.lt hws).trans (HTT.out.frozen 1); have g2 := (x4.frozen (p := ⟨w.heap.size, 2, none⟩) HTT.out.lt hws).trans (HTT.out.frozen 2)))
  have HE6 := Lib.hid ((HX5.out.trans (Ext.drew (X := [s]) w5)).trans HX6.out)
  have HO6 := Lib.hid (HO5.out.ext ((Ext.drew (X := [s]) w5).trans HX6.out) (fun b hb h0 => by simpa using (HOB.out b hb h0).1))
  have HB6 := Lib.hid (HB1.out.trans (HE6.out.below (B := w.heap.size) (by simp; omega) (by omega)))
  have hwq : w.heap.size < wq.heap.size := by have := HE6.out.size; omega
  clear ST HSd HRd HTT x1 x4 y0 y1 y2 HS5 HR5 HT5 HP5 HO5 HX5 HE6 HX6
  go_wp2
  refine bodyPost_ret ?_ rfl ⟨W, H, A, n, c, g, v - u / 11, z, rfl, hwW, hwH, hn113, (ownRow_setBox HO6.out (by omega) _ _ _).mono (by omega), by omega, by omega, ((HB6.out.setCell (by simp) _).setCell (by simp) _).setCell (by simp) _⟩
  simp [results, Tryd.results25, go_sem, r0, r1, r2, hwq]
set_option maxHeartbeats 4000000 in
theorem draw_curve (w : World) (A0 : Option Addr) (n0 c0 : Nat) (f0 : Nat → Int) (hr : Row .u8 w A0 n0 c0 f0) (hn : n0 ≤ 1000000) :
    Calls Tryd.prog 28 #[.slice A0 n0 c0] w (DrwC w) := by
  have HBL := Lib.hid (row_blk hr)
  have bA := (Below.refl w.heap.size w).alloc (Nat.le_refl _) (.cells #[.int .i64 0, .int .i64 0, .slice none 0 0] 35)
  have HT0 := Lib.hid (At.new w #[.int .i64 0, .int .i64 0, .slice none 0 0] 35)
  have HR0 := Lib.hid (hr.below bA (Nat.le_refl _))
  have HB0 := Lib.hid bA
  have hz0 : (w.alloc (.cells #[.int .i64 0, .int .i64 0, .slice none 0 0] 35)).heap.size = w.heap.size + 1 := by simp
  clear hr bA
  go_enter Tryd.func28, Tryd.ntmps28
  go_wp2_with fail
  refine (from_any _ A0 n0 c0).mono ?_
  rintro e w1 ⟨s, rfl, hs0, S1, b1⟩
  rw [hz0] at hs0
  have HS1 := Lib.hid S1
  have HT1 := Lib.hid (HT0.out.below b1 HT0.out.lt)
  have HR1 := Lib.hid (HR0.out.below b1 (Nat.le_refl _))
  have HB1 := Lib.hid (HB0.out.trans (b1.mono HB0.out.size))
  have hz1 := b1.size
  have HNE := Lib.hid (fun b (hb : blk A0 = some b) (h0 : 0 < n0) => show b ≠ s from by have := HBL.out h0 b hb; omega)
  have hsw : w.heap.size ≠ s := by omega
  rw [hz0] at hz1
  clear S1 b1 HT0 HR0 HB0 hz0
  go_wp2_with fail
  refine (bent_any w1 s A0 n0 c0 f0 0 HS1.out HR1.out HNE.out (by omega) (by omega) hn).mono ?_
  rintro e w2 ⟨W, H, A, n, c, g, k1, rfl, hwW, hwH, hn113, O2, S2, q1, q2, x2⟩
  have hz2 := x2.size
  have HS2 := Lib.hid S2
  have HT2 := Lib.hid (HT1.out.ext x2 (by simpa using hsw))
  have HR2 := Lib.hid (HR1.out.ext x2 (fun b hb h0 => by simpa using HNE.out b hb h0))
  have HX2 := Lib.hid x2
  have hss := HS1.out.1
  have HO2 := Lib.hid O2
  have HOB : Hid (∀ b, blk A = some b → 0 < n → b ≠ s ∧ b ≠ w.heap.size) := Lib.hid (fun b hb h0 => by have := O2.base_lt h0 b hb; have := HS1.out.1; omega)
  clear S2 x2 O2 HS1 HT1 HR1
  have bN := (Below.refl w2.heap.size w2).alloc (Nat.le_refl _) (.cells #[.int .i64 W, .int .i64 H, .slice A n c] 35)
  have HP3 := Lib.hid (At.new w2 #[.int .i64 W, .int .i64 H, .slice A n c] 35)
  have HS3 := Lib.hid (HS2.out.ext (Ext.of_below (X := []) bN) (by simp))
  have HT3 := Lib.hid (HT2.out.below bN HT2.out.lt)
  have HR3 := Lib.hid (HR2.out.below bN (Nat.le_refl _))
  have HO3 := Lib.hid (HO2.out.below bN (Nat.le_refl _))
  have HX3 := Lib.hid (HX2.out.trans (Ext.of_below (X := [s]) bN))
  clear bN HS2 HT2 HR2 HO2 HX2
  go_wp2_with fail
  generalize w2.alloc (.cells #[.int .i64 W, .int .i64 H, .slice A n c] 35) = w3 at *
  obtain ⟨p3, hp3⟩ : ∃ p3, w2.heap.size = p3 := ⟨_, rfl⟩
  rw [hp3] at HP3 hz2 ⊢
  clear hp3
  have hsp : p3 ≠ s := by omega
  have HS5 := HS3
  have HT5 := HT3
  have HR5 := HR3
  have HP5 := HP3
  have HO5 := HO3
  have HX5 := HX3
  clear HS3 HT3 HR3 HP3 HO3 HX3
  have p0 := HP5.out.cellv (i := 0) rfl
  have p1 := HP5.out.cellv (i := 1) rfl
  have p2 := HP5.out.cellv (i := 2) rfl
  have pz := HP5.out.lt
  have t0 := HT5.out.cellv (i := 0) rfl
  have t1 := HT5.out.cellv (i := 1) rfl
  have t2 := HT5.out.cellv (i := 2) rfl
  have u0' := HT5.out.frozen 0
  have u1' := HT5.out.frozen 1
  have u2' := HT5.out.frozen 2
  have tz := HT5.out.lt
  have hps : p3 ∉ [s] := by simpa using hsp
  have hws : w.heap.size ∉ [s] := by simpa using hsw
  have hpw : p3 ≠ w.heap.size := by omega
  have ST := Lib.hid (show w3.drew.cell? ⟨p3, 0, none⟩ = some (.int .i64 W) ∧ w3.drew.cell? ⟨p3, 1, none⟩ = some (.int .i64 H) ∧ w3.drew.cell? ⟨p3, 2, none⟩ = some (.slice A n c) from ⟨p0, p1, p2⟩)
  have HSd := Lib.hid (HS5.out.ext (Ext.drew (X := []) w3) (by simp))
  have HRd := Lib.hid (HR5.out.ext (Ext.drew (X := []) w3) (by simp))
  have HTT := Lib.hid HT5.out
  clear t0 t1 t2 u0' u1' u2' tz p0 p1 p2
  go_region_held3 (fun w' => w'.cell? ⟨p3, 0, none⟩ = some (.int .i64 W) ∧ w'.cell? ⟨p3, 1, none⟩ = some (.int .i64 H) ∧ w'.cell? ⟨p3, 2, none⟩ = some (.slice A n c))
    (first | exact ST.out | exact ⟨y0, y1, y2⟩ | exact ⟨ya0, ya1, ya2⟩ | exact ⟨by rw [World.cell?_setCell_other _ _ _ _ (fun h => by injection h; omega), World.cell?_setCell_other _ _ _ _ (fun h => by injection h; omega), World.cell?_setCell_other _ _ _ _ (fun h => by injection h; omega)]; exact y0, by rw [World.cell?_setCell_other _ _ _ _ (fun h => by injection h; omega), World.cell?_setCell_other _ _ _ _ (fun h => by injection h; omega), World.cell?_setCell_other _ _ _ _ (fun h => by injection h; omega)]; exact y1, by rw [World.cell?_setCell_other _ _ _ _ (fun h => by injection h; omega), World.cell?_setCell_other _ _ _ _ (fun h => by injection h; omega), World.cell?_setCell_other _ _ _ _ (fun h => by injection h; omega)]; exact y2⟩)
    (first
      | (have _ := HXa; go_at_call 63; refine (pick_any _ s A0 n0 c0 f0 ka 12 HSa.out HRa.out HNE.out (by omega) (by omega) hn (by omega) (by omega)).mono ?_; rintro e wq ⟨u, kb, rfl, u0, u1, x1, x2, x3, x4⟩; have yd : u.tdiv 11 = u / 11 := Int.tdiv_eq_ediv_of_nonneg u0; have yw : IntKind.i64.wrap (u / 11) = u / 11 := IntWalk.i64_in _ (by omega); have yz : IntKind.i64.wrap (v - u / 11) = v - u / 11 := IntWalk.i64_in _ (by omega); have HX6 := Lib.hid (HXa.out.trans x4); have y0 := x4.cell ya0 hps; have y1 := x4.cell ya1 hps; have y2 := x4.cell ya2 hps; have r0 := HX6.out.cell (HTT.out.cellv (i := 0) rfl) hws; have r1 := HX6.out.cell (HTT.out.cellv (i := 1) rfl) hws; have r2 := HX6.out.cell (HTT.out.cellv (i := 2) rfl) hws; have g0 := (HX6.out.frozen (p := ⟨w.heap.size, 0, none⟩) HTT.out.lt hws).trans (HTT.out.frozen 0); have g1 := (HX6.out.frozen (p := ⟨w.heap.size, 1, none⟩) HTT.out.lt hws).trans (HTT.out.frozen 1); have g2 := (HX6.out.frozen (p := ⟨w.heap.size, 2, none⟩) HTT.out.lt hws).trans (HTT.out.frozen 2))
      | (go_at_call 63; refine (pick_any _ s A0 n0 c0 f0 k1 5 HSd.out HRd.out HNE.out (by omega) (by omega) hn (by omega) (by omega)).mono ?_; rintro e wa ⟨v, ka, rfl, v0, v1, x1, x2, x3, x4⟩; have HSa := Lib.hid x1; have HRa := Lib.hid (HRd.out.ext x4 (fun b hb h0 => by simpa using HNE.out b hb h0)); have HXa := Lib.hid x4; have ya0 := x4.cell ST.out.1 hps; have ya1 := x4.cell ST.out.2.1 hps; have ya2 := x4.cell ST.out.2.2 hps; clear x1 x4))
  have HE6 := Lib.hid ((HX5.out.trans (Ext.drew (X := [s]) w3)).trans HX6.out)
  have HO6 := Lib.hid (HO5.out.ext ((Ext.drew (X := [s]) w3).trans HX6.out) (fun b hb h0 => by simpa using (HOB.out b hb h0).1))
  have HB6 := Lib.hid (HB1.out.trans (HE6.out.below (B := w.heap.size) (by simp; omega) (by omega)))
  have hwq : w.heap.size < wq.heap.size := by have := HE6.out.size; omega
  clear ST HSd HRd HTT x1 x4 y0 y1 y2 HS5 HR5 HT5 HP5 HO5 HX5 HE6 HX6
  go_wp2
  refine bodyPost_ret ?_ rfl ⟨W, H, A, n, c, g, v - u / 11, rfl, hwW, hwH, hn113, (ownRow_setBox HO6.out (by omega) _ _ _).mono (by omega), by omega, ((HB6.out.setCell (by simp) _).setCell (by simp) _).setCell (by simp) _⟩
  simp [results, Tryd.results28, go_sem, r0, r1, r2, hwq, yd, yw, yz]
end Go.Proofs.YtbpdjmjkjiddjaaDoor.Base
namespace Go.Proofs.YtbpdjmjkjiddjaaDoor.Base
open Go Go.RowKit
set_option linter.unusedVariables false
set_option linter.unusedSimpArgs false

theorem run_append_none0 {P : Program} {w : World} (base : Nat) (t ty e : TypeId) (i : TypeInfo) (size : Nat) (ht : P.underlying t = some (.slice e)) (hi : P.info? e = some i)
    (v : Value) (n : Nat) (xs : List Value) (hown : w.ownsRow base e size v n xs) (c : Nat) :
    (Builtin.append_ #[t, t] ty #[v, .slice none 0 c]).run P w = .ok v w := by
  rcases hown.2 with ⟨rfl, rfl⟩ | ⟨g, cap, cur, rfl, _, _, hnc, _⟩
  · simp [Builtin.append_, run_underlying ht, sizeOf, typeInfo, hi, Builtin.lenOf, Builtin.firstCells]
  · simp [Builtin.append_, run_underlying ht, sizeOf, typeInfo, hi, Builtin.lenOf, Builtin.firstCells, hnc, storeCells]
theorem wpList_append_none0 {P : Program} {w : World} {ops : Array Oper} {rest : List Oper} {o : Oper} {a : Act} {Q : Exit → Act → World → Prop} (hgd : o.guard = none) (s x : Operand) (t : TypeId)
    (ho : o.op = .call { callee := .builtin .append, args := #[s, x], argTypes := #[t, t] })
    (base : Nat) (e : TypeId) (i : TypeInfo) (size : Nat) (ht : P.underlying t = some (.slice e)) (hi : P.info? e = some i)
    (v : Value) (n : Nat) (xs : List Value) (hs : a.eval s = v) (hown : w.ownsRow base e size v n xs) (c : Nat) (hx : a.eval x = .slice none 0 c)
    (h : wpList P ops Q rest (a.put o.dst v) w) : wpList P ops Q (o :: rest) a w := by
  refine wpList_plain hgd fun K hK => ?_
  have hrun := run_append_none0 (P := P) (w := w) base t o.type e i size ht hi v n xs hown c
  unfold Oper.wp
  simp [execOp, ho, resolve, invoke, builtin, hs, hx, hrun, Result.andThen]
  exact hK _ _ h
theorem ownRow_zero {w : World} {base : Nat} {A : Option Addr} {c : Nat} {f : Nat → Int} (h : c ≤ maxLen) : OwnRow w base A 0 c f :=
  ⟨Nat.zero_le _, h, fun i hi => absurd hi (Nat.not_lt_zero _), fun h => absurd h (Nat.lt_irrefl _)⟩
theorem spec_own0 (w : World) (A : Option Addr) (c : Nat) (f : Nat → Int) :
    Calls Tryd.prog 111 #[.slice A 0 c] w (SliceOut 0 f w) := by
  obtain ⟨i0, hi, hz0, hz1, hz2⟩ := info_parts infoI64
  have HBL := Lib.hid (show Below w.heap.size w (w.alloc (.cells #[] 2)) from (Below.refl _ _).alloc (Nat.le_refl _) _)
  cases A with
  | none =>
    go_enter Tryd.func111, Tryd.ntmps111
    go_wp2_with (at_builtin; refine wpList_append_none0 rfl (.tmp 3) (.tmp 4) 29 rfl w.heap.size 2 i0 1 Tryd.underlying29 hi _ 0 [] rfl (owns_empty w _) c rfl ?_)
    go_ret
    exact ⟨some ⟨w.heap.size, 0, none⟩, 0, rfl, ownRow_zero (Nat.zero_le _), HBL.out⟩
  | some ad =>
    go_enter Tryd.func111, Tryd.ntmps111
    go_wp2_with (at_builtin; refine wpList_append_own _ rfl (.tmp 3) (.tmp 4) 29 rfl w.heap.size 2 i0 (.int .i64 0) 1 8 Tryd.underlying29 hi hz0 hz1 hz2 rfl (by decide) _ 0 [] rfl (owns_empty w _) ad 0 c [] rfl rfl (fun j u hj => by simp at hj) (fun u hu => by simp at hu) (by decide) (by decide) (by simp) ?_)
    intro v' w1 hown hg _
    have hB : Below w.heap.size w w1 := HBL.out.grown hg (by simp) (fun k hk => by simp [Value.ownBlock] at hk; omega)
    have HBB := Lib.hid hB
    have hS : ∃ A' c', v' = .slice A' 0 c' ∧ c' ≤ maxLen := by
      rcases hown.2 with ⟨rfl, -⟩ | ⟨g, cap, cur, rfl, -, -, -, hcm, -⟩
      · exact ⟨none, 0, rfl, Nat.zero_le _⟩
      · exact ⟨_, cap, rfl, hcm⟩
    obtain ⟨A', c', rfl, hm⟩ := hS
    clear hown hg hB
    go_wp2
    go_ret
    exact ⟨A', c', rfl, ownRow_zero hm, HBB.out⟩
theorem spec_own_any (w : World) (A : Option Addr) (n c : Nat) (f : Nat → Int) (hr : Row .i64 w A n c f) (hn2 : n ≤ 1048576) :
    Calls Tryd.prog 111 #[.slice A n c] w (SliceOut n f w) := by
  by_cases h : 0 < n
  · exact spec_own w A n c f hr h hn2
  · obtain rfl : n = 0 := by omega
    exact spec_own0 w A c f
theorem lib_clone0 (w : World) (b o c : Nat) (f : Nat → Int) :
    Calls Tryd.prog 177 #[.slice (some ⟨b, o, none⟩) 0 c] w (SliceOut 0 f w) := by
  obtain ⟨i0, hi, hz0, hz1, hz2⟩ := info_parts infoI64
  have HBL := Lib.hid (show Below w.heap.size w (w.alloc (.cells #[] 2)) from (Below.refl _ _).alloc (Nat.le_refl _) _)
  have hnil := fun (W : World) => Lib.run_eql_slice_nil (P := Tryd.prog) W 29 2 (some ⟨b, o, none⟩) 0 c 0 0 Tryd.underlying29
  go_enter Tryd.func177, Tryd.ntmps177
  go_wp2_with (at_builtin; refine wpList_append_own _ rfl (.tmp 5) (.tmp 6) 29 rfl w.heap.size 2 i0 (.int .i64 0) 1 8 Tryd.underlying29 hi hz0 hz1 hz2 rfl (by decide) _ 0 [] rfl (owns_empty w _) ⟨b, o, none⟩ 0 c [] rfl rfl (fun j u hj => by simp at hj) (fun u hu => by simp at hu) (by decide) (by decide) (by simp) ?_)
  intro v' w1 hown hg _
  have hB : Below w.heap.size w w1 := HBL.out.grown hg (by simp) (fun k hk => by simp [Value.ownBlock] at hk; omega)
  have HBB := Lib.hid hB
  have hS : ∃ A' c', v' = .slice A' 0 c' ∧ c' ≤ maxLen := by
    rcases hown.2 with ⟨rfl, -⟩ | ⟨g, cap, cur, rfl, -, -, -, hcm, -⟩
    · exact ⟨none, 0, rfl, Nat.zero_le _⟩
    · exact ⟨_, cap, rfl, hcm⟩
  obtain ⟨A', c', rfl, hm⟩ := hS
  clear hown hg hB
  go_wp2
  go_ret
  exact ⟨A', c', rfl, ownRow_zero hm, HBB.out⟩
theorem lib_clone_some (w : World) (b o n c : Nat) (f : Nat → Int) (hr : Row .i64 w (some ⟨b, o, none⟩) n c f) (hn2 : n ≤ 1048576) :
    Calls Tryd.prog 177 #[.slice (some ⟨b, o, none⟩) n c] w (SliceOut n f w) := by
  by_cases h : 0 < n
  · exact lib_clone w _ n c f hr h hn2
  · obtain rfl : n = 0 := by omega
    exact lib_clone0 w b o c f
end Go.Proofs.YtbpdjmjkjiddjaaDoor.Base
namespace Go.Proofs.YtbpdjmjkjiddjaaDoor.Base
open Go Go.RowKit
set_option linter.unusedVariables false
set_option linter.unusedSimpArgs false

theorem OwnRow.cong2 {w : World} {base : Nat} {A : Option Addr} {n c : Nat} {f g : Nat → Int} (h : OwnRow w base A n c f) (e : ∀ t, t < n → f t = g t) : OwnRow w base A n c g :=
  ⟨h.1, h.2.1, fun i hi => by rw [← e i hi]; exact h.2.2.1 i hi, fun hn => by
    obtain ⟨b, o, h1, h2, h3, h4⟩ := h.2.2.2 hn
    exact ⟨b, o, h1, h2, h3, fun i hi => by rw [← e i hi]; exact h4 i hi⟩⟩
set_option maxHeartbeats 4000000 in
theorem spec_own2 (w : World) (p : Nat) (W H : Int) (A : Option Addr) (n c : Nat) (f : Nat → Int) (hb : Box w p W H A n c) (hr : Row .i64 w A n c f) (hn2 : n ≤ 1048576) :
    Calls Tryd.prog 67 #[.pointer (some ⟨p, 0, none⟩)] w (PanelMade W H n f w) := by
  have HR := Lib.hid hr
  have hbel : Below w.heap.size w (w.alloc (.cells #[.int .i64 0, .int .i64 0, .slice none 0 0] 35)) := (Below.refl _ _).alloc (Nat.le_refl _) _
  have HL := Lib.hid hbel
  have HX := Lib.hid (hb.below hbel hb.1)
  obtain ⟨hp, k0, k1, k2⟩ := hb
  clear hr hbel
  go_enter Tryd.func67, Tryd.ntmps67
  go_wp2
  first | (go_region_with (go_at_call 111; refine (spec_own_any _ A n c f ?_ hn2).mono ?_; exact HR.out.below HL.out.drew (Nat.le_refl _); rintro e w1 ⟨A', c', rfl, hO, b1⟩; have b1' := ((Below.refl _ (w.alloc (.cells #[.int .i64 0, .int .i64 0, .slice none 0 0] 35))).drew).trans b1; have HO := Lib.hid hO; have HB1 := Lib.hid b1'; obtain ⟨q0, q1, q2, f0, f1, f2, hB, hz⟩ := out_cells b1'; obtain ⟨-, x0, x1, x2⟩ := HX.out.below b1' HX.out.1; clear b1 b1' hO)) | fail
  all_goals go_wp2
  all_goals
    refine bodyPost_ret ?_ rfl ⟨A', c', rfl, (ownRow_setBox HO.out (by simp) _ _ _).mono (by simp), ((hB.setCell (by simp) _).setCell (by simp) _).setCell (by simp) _⟩
    simp [results, Tryd.results67, go_sem, q0, q1, q2]
/-- a box of a panel with a row of its own -/
structure LSt (w0 : World) (o : Nat) (W H : Int) (n : Nat) (f : Nat → Int) (A : Option Addr) (c : Nat) (w : World) : Prop where
  res : At w w0.heap.size #[.int .i64 0, .int .i64 0, .slice none 0 0] 35
  pan : At w o #[.int .i64 W, .int .i64 H, .slice A n c] 35
  row : OwnRow w (w0.heap.size + 1) A n c f
  bel : Below w0.heap.size w0 w
  lo : w0.heap.size < o
section
variable {w0 w w' : World} {o : Nat} {W H : Int} {n : Nat} {f : Nat → Int} {A : Option Addr} {c : Nat}
theorem LSt.next (h : LSt w0 o W H n f A c w) (b : Below w.heap.size w w') : LSt w0 o W H n f A c w' :=
  ⟨h.res.below b h.res.lt, h.pan.below b h.pan.lt, h.row.below b (Nat.le_refl _), h.bel.trans (b.mono h.bel.size), h.lo⟩
theorem LSt.box (h : LSt w0 o W H n f A c w) : Box w o W H A n c := ⟨h.pan.lt, h.pan.cellv (i := 0) rfl, h.pan.cellv (i := 1) rfl, h.pan.cellv (i := 2) rfl⟩
/-- another panel put into the box -/
theorem LSt.put (h : LSt w0 o W H n f A c w) {W' H' : Int} {n' : Nat} {f' : Nat → Int} {A' : Option Addr} {c' : Nat} {b : Nat} (ho : OwnRow w b A' n' c' f') (hb : o < b) :
    LSt w0 o W' H' n' f' A' c' (((w.setCell ⟨o, 0, none⟩ (.int .i64 W')).setCell ⟨o, 1, none⟩ (.int .i64 H')).setCell ⟨o, 2, none⟩ (.slice A' n' c')) :=
  ⟨((h.res.setOther (a := ⟨o, 0, none⟩) (by have := h.lo; show o ≠ w0.heap.size; omega) _).setOther (a := ⟨o, 1, none⟩) (by have := h.lo; show o ≠ w0.heap.size; omega) _).setOther (a := ⟨o, 2, none⟩) (by have := h.lo; show o ≠ w0.heap.size; omega) _,
   ((h.pan.set 0 _).set 1 _).set 2 _,
   (ownRow_setBox ho hb _ _ _).mono (by have := h.lo; omega),
   ((h.bel.setCell (p := ⟨o, 0, none⟩) (by have := h.lo; show w0.heap.size ≤ o; omega) _).setCell (p := ⟨o, 1, none⟩) (by have := h.lo; show w0.heap.size ≤ o; omega) _).setCell (p := ⟨o, 2, none⟩) (by have := h.lo; show w0.heap.size ≤ o; omega) _, h.lo⟩
theorem LSt.cells (h : LSt w0 o W H n f A c w) : w0.heap.size < w.heap.size ∧ o < w.heap.size ∧ w.cell? ⟨o, 0, none⟩ = some (.int .i64 W) ∧ w.cell? ⟨o, 1, none⟩ = some (.int .i64 H) ∧ w.cell? ⟨o, 2, none⟩ = some (.slice A n c) ∧
    w.frozen? ⟨o, 0, none⟩ = false ∧ w.frozen? ⟨o, 1, none⟩ = false ∧ w.frozen? ⟨o, 2, none⟩ = false ∧
    w.cell? ⟨w0.heap.size, 0, none⟩ = some (.int .i64 0) ∧ w.cell? ⟨w0.heap.size, 1, none⟩ = some (.int .i64 0) ∧ w.cell? ⟨w0.heap.size, 2, none⟩ = some (.slice none 0 0) ∧
    w.frozen? ⟨w0.heap.size, 0, none⟩ = false ∧ w.frozen? ⟨w0.heap.size, 1, none⟩ = false ∧ w.frozen? ⟨w0.heap.size, 2, none⟩ = false :=
  ⟨h.res.lt, h.pan.lt, h.pan.cellv (i := 0) rfl, h.pan.cellv (i := 1) rfl, h.pan.cellv (i := 2) rfl, h.pan.frozen 0, h.pan.frozen 1, h.pan.frozen 2, h.res.cellv (i := 0) rfl, h.res.cellv (i := 1) rfl, h.res.cellv (i := 2) rfl, h.res.frozen 0, h.res.frozen 1, h.res.frozen 2⟩
theorem LSt.out (h : LSt w0 o W H n f A c w) (x y z : Value) : OwnRow (((w.setCell ⟨w0.heap.size, 0, none⟩ x).setCell ⟨w0.heap.size, 1, none⟩ y).setCell ⟨w0.heap.size, 2, none⟩ z) w0.heap.size A n c f ∧ Below w0.heap.size w0 (((w.setCell ⟨w0.heap.size, 0, none⟩ x).setCell ⟨w0.heap.size, 1, none⟩ y).setCell ⟨w0.heap.size, 2, none⟩ z) :=
  ⟨(ownRow_setBox h.row (Nat.lt_succ_self _) _ _ _).mono (Nat.le_succ _), ((h.bel.setCell (p := ⟨w0.heap.size, 0, none⟩) (Nat.le_refl _) _).setCell (p := ⟨w0.heap.size, 1, none⟩) (Nat.le_refl _) _).setCell (p := ⟨w0.heap.size, 2, none⟩) (Nat.le_refl _) _⟩
end
end Go.Proofs.YtbpdjmjkjiddjaaDoor.Base
namespace Go.Proofs.YtbpdjmjkjiddjaaDoor.Base
open Go.RowKit
set_option linter.unusedVariables false
set_option linter.unusedSimpArgs false

/-- what one leaves -/
def TookO (s : Nat) (A : Option Addr) (n c : Nat) (k : Int) (w : World) (e : Ending) (w' : World) : Prop :=
  ∃ (v : Bool) (k' : Int), e = .returned (.bool v) ∧ Src w' s A n c k' ∧ k ≤ k' ∧ k' ≤ k + 2 ∧ Ext [s] w w'
theorem oneO_any (w : World) (s : Nat) (A : Option Addr) (n c : Nat) (f : Nat → Int) (k m : Int) (hs : Src w s A n c k) (hr : Row .u8 w A n c f) (hne : ∀ b, blk A = some b → 0 < n → b ≠ s) (k0 : 0 ≤ k) (k1 : k ≤ 900000) (hn : n ≤ 1000000) (m1 : 2 ≤ m) (m2 : m ≤ 60000) :
    Calls Tryd.prog 68 #[.pointer (some ⟨s, 0, none⟩), .int .i64 m] w (TookO s A n c k w) := by
  have HS := Lib.hid hs
  have HR := Lib.hid hr
  have HE := Lib.hid hne
  clear hs hr hne
  go_enter Tryd.func68, Tryd.ntmps68
  go_wp2_with fail
  refine (pick_any _ s A n c f k m HS.out HR.out HE.out k0 k1 hn m1 m2).mono ?_
  rintro e w1 ⟨v, k', rfl, v0, v1, j1, j2, j3, j4⟩
  go_wp2
  go_ret
  exact ⟨_, k', rfl, j1, j2, j3, j4⟩
/-- two panels that may be bent -/
def DrwD (w : World) (e : Ending) (w' : World) : Prop :=
  ∃ (W H W' H' : Int) (A A' : Option Addr) (n c n' c' : Nat) (g g' : Nat → Int), e = .returned (.tuple #[.agg #[.int .i64 W, .int .i64 H, .slice A n c], .agg #[.int .i64 W', .int .i64 H', .slice A' n' c']]) ∧ OwnRow w' w.heap.size A n c g ∧ OwnRow w' w.heap.size A' n' c' g' ∧ n ≤ 113 ∧ n' ≤ 113 ∧ Below w.heap.size w w'
/-- the state while the second panel is changed: R the first result's box, pa and pb the panels' boxes -/
structure DsA (w : World) (R s pa pb : Nat) (A0 : Option Addr) (n0 c0 : Nat) (f0 : Nat → Int) (W H : Int) (A B : Option Addr) (n c d : Nat) (g : Nat → Int) (base : Nat) (wr : World) (g' : Nat → Int) (k : Int) : Prop where
  rowB : OwnRow wr base B n d g'
  rowA : OwnRow wr (R + 2) A n c g
  src : Src wr s A0 n0 c0 k
  code : Row .u8 wr A0 n0 c0 f0
  pA : At wr pa #[.int .i64 W, .int .i64 H, .slice A n c] 35
  pB : At wr pb #[.int .i64 W, .int .i64 H, .slice B n d] 35
  r1 : At wr R #[.int .i64 0, .int .i64 0, .slice none 0 0] 35
  r2 : At wr (R + 1) #[.int .i64 0, .int .i64 0, .slice none 0 0] 35
  bel : Below w.heap.size w wr
section
variable {w wr wr' : World} {R s pa pb : Nat} {A0 : Option Addr} {n0 c0 : Nat} {f0 : Nat → Int} {W H : Int} {A B : Option Addr} {n c d : Nat} {g : Nat → Int} {base : Nat} {g' : Nat → Int} {k k' : Int}
theorem DsA.next (h : DsA w R s pa pb A0 n0 c0 f0 W H A B n c d g base wr g' k) (e : Ext [s] wr wr') (hs : Src wr' s A0 n0 c0 k') (hw : w.heap.size ≤ s) (h1 : pa ≠ s) (h2 : pb ≠ s) (h3 : R ≠ s) (h4 : R + 1 ≠ s) (h5 : ∀ b, blk A0 = some b → 0 < n0 → b ≠ s) (h6 : ∀ b, blk A = some b → 0 < n → b ≠ s) (h7 : ∀ b, blk B = some b → 0 < n → b ≠ s) : DsA w R s pa pb A0 n0 c0 f0 W H A B n c d g base wr' g' k' :=
  ⟨h.rowB.ext e (fun b hb h0 => by simpa using h7 b hb h0), h.rowA.ext e (fun b hb h0 => by simpa using h6 b hb h0), hs, h.code.ext e (fun b hb h0 => by simpa using h5 b hb h0), h.pA.ext e (by simpa using h1), h.pB.ext e (by simpa using h2), h.r1.ext e (by simpa using h3), h.r2.ext e (by simpa using h4), h.bel.trans (e.below (by simp; omega) h.bel.size)⟩
theorem DsA.put {b o : Nat} (h : DsA w R s pa pb A0 n0 c0 f0 W H A (some ⟨b, o, none⟩) n c d g base wr g' k) {j : Nat} (hj : j < n) (z : Int) (hz : (Lit.int .i64 z).wf = true) (hw : w.heap.size ≤ b) (h0 : b ≠ s) (h1 : pa ≠ b) (h2 : pb ≠ b) (h3 : R ≠ b) (h4 : R + 1 ≠ b) (h5 : ∀ q, blk A0 = some q → 0 < n0 → q ≠ b) (h6 : ∀ q, blk A = some q → 0 < n → q ≠ b) :
    DsA w R s pa pb A0 n0 c0 f0 W H A (some ⟨b, o, none⟩) n c d g base (wr.setCell ⟨b, o + j, none⟩ (.int .i64 z)) (putF g' j z) k :=
  ⟨h.rowB.put hj z hz, h.rowA.ext (Ext.set (X := [b]) _ _ _ (by simp)) (fun q hq h0 => by simpa using h6 q hq h0), h.src.ext (Ext.set (X := [b]) _ _ _ (by simp)) (by simpa using fun e => h0 e.symm), h.code.ext (Ext.set (X := [b]) _ _ _ (by simp)) (fun q hq h0 => by simpa using h5 q hq h0), h.pA.setOther (a := ⟨b, o + j, none⟩) (by show b ≠ pa; omega) _, h.pB.setOther (a := ⟨b, o + j, none⟩) (by show b ≠ pb; omega) _, h.r1.setOther (a := ⟨b, o + j, none⟩) (by show b ≠ R; omega) _, h.r2.setOther (a := ⟨b, o + j, none⟩) (by show b ≠ R + 1; omega) _, h.bel.setCell (p := ⟨b, o + j, none⟩) hw _⟩
end
theorem at_newF {X : World} {cs : Array Value} {T : TypeId} {p : Nat} (hp : X.heap.size = p) : At (X.alloc (.cells cs T)) p cs T := by subst hp; exact At.new X cs T
set_option maxHeartbeats 8000000 in
theorem draw_distance (w : World) (A0 : Option Addr) (n0 c0 : Nat) (f0 : Nat → Int) (hr : Row .u8 w A0 n0 c0 f0) (hn : n0 ≤ 1000000) :
    Calls Tryd.prog 31 #[.slice A0 n0 c0] w (DrwD w) := by
  have HBL := Lib.hid (row_blk hr)
  have bA := ((Below.refl w.heap.size w).alloc (Nat.le_refl _) (.cells #[.int .i64 0, .int .i64 0, .slice none 0 0] 35)).alloc (by simp) (.cells #[.int .i64 0, .int .i64 0, .slice none 0 0] 35)
  have HT0 := Lib.hid ((At.new w #[.int .i64 0, .int .i64 0, .slice none 0 0] 35).below ((Below.refl _ (w.alloc (.cells #[.int .i64 0, .int .i64 0, .slice none 0 0] 35))).alloc (Nat.le_refl _) (.cells #[.int .i64 0, .int .i64 0, .slice none 0 0] 35)) (by simp))
  have HU0 := Lib.hid (show At ((w.alloc (.cells #[.int .i64 0, .int .i64 0, .slice none 0 0] 35)).alloc (.cells #[.int .i64 0, .int .i64 0, .slice none 0 0] 35)) (w.heap.size + 1) #[.int .i64 0, .int .i64 0, .slice none 0 0] 35 from at_newF (by simp))
  have HR0 := Lib.hid (hr.below bA (Nat.le_refl _))
  have HB0 := Lib.hid bA
  have hz0 : ((w.alloc (.cells #[.int .i64 0, .int .i64 0, .slice none 0 0] 35)).alloc (.cells #[.int .i64 0, .int .i64 0, .slice none 0 0] 35)).heap.size = w.heap.size + 2 := by simp
  clear hr bA
  go_enter Tryd.func31, Tryd.ntmps31
  go_wp2_with fail
  refine (from_any _ A0 n0 c0).mono ?_
  rintro e w1 ⟨s, rfl, hs0, S1, b1⟩
  rw [hz0] at hs0
  have HS1 := Lib.hid S1
  have HT1 := Lib.hid (HT0.out.below b1 HT0.out.lt)
  have HU1 := Lib.hid (HU0.out.below b1 HU0.out.lt)
  have HR1 := Lib.hid (HR0.out.below b1 (Nat.le_refl _))
  have HB1 := Lib.hid (HB0.out.trans (b1.mono HB0.out.size))
  have hz1 := b1.size
  have HNE := Lib.hid (fun b (hb : blk A0 = some b) (h0 : 0 < n0) => show b ≠ s from by have := HBL.out h0 b hb; omega)
  have hsw : w.heap.size ≠ s := by omega
  have hsw1 : w.heap.size + 1 ≠ s := by omega
  rw [hz0] at hz1
  clear S1 b1 HT0 HU0 HR0 HB0 hz0
  go_wp2_with fail
  refine (bent_any w1 s A0 n0 c0 f0 0 HS1.out HR1.out HNE.out (by omega) (by omega) hn).mono ?_
  rintro e w2 ⟨W, H, A, n, c, g, k1, rfl, hwW, hwH, hn113, O2, S2, q1, q2, x2⟩
  have hz2 := x2.size
  have hss := HS1.out.1
  have HAB : Hid (∀ b, blk A = some b → 0 < n → w1.heap.size ≤ b ∧ b < w2.heap.size) := Lib.hid (fun b hb h0 => by obtain ⟨b', o', e1, h1, h2, h3⟩ := O2.2.2.2 h0; rw [e1] at hb; simp [blk] at hb; omega)
  have HS2 := Lib.hid S2
  have HT2 := Lib.hid (HT1.out.ext x2 (by simpa using hsw))
  have HU2 := Lib.hid (HU1.out.ext x2 (by simpa using hsw1))
  have HR2 := Lib.hid (HR1.out.ext x2 (fun b hb h0 => by simpa using HNE.out b hb h0))
  have HB2 := Lib.hid (HB1.out.trans (x2.below (B := w.heap.size) (by simp; omega) (by omega)))
  have HO2 := Lib.hid (O2.mono (base' := w.heap.size + 2) (by omega))
  clear S2 x2 O2 HS1 HT1 HU1 HR1 HB1
  have bN := (Below.refl w2.heap.size w2).alloc (Nat.le_refl _) (.cells #[.int .i64 W, .int .i64 H, .slice A n c] 35)
  have HP3 := Lib.hid (At.new w2 #[.int .i64 W, .int .i64 H, .slice A n c] 35)
  have HQ3 := Lib.hid (Box.new w2 35 W H A n c)
  have HS3 := Lib.hid (HS2.out.ext (Ext.of_below (X := []) bN) (by simp))
  have HT3 := Lib.hid (HT2.out.below bN HT2.out.lt)
  have HU3 := Lib.hid (HU2.out.below bN HU2.out.lt)
  have HR3 := Lib.hid (HR2.out.below bN (Nat.le_refl _))
  have HO3 := Lib.hid (HO2.out.below bN (Nat.le_refl _))
  have HB3 := Lib.hid (HB2.out.trans (bN.mono HB2.out.size))
  have hz3 : (w2.alloc (.cells #[.int .i64 W, .int .i64 H, .slice A n c] 35)).heap.size = w2.heap.size + 1 := by simp
  clear bN HS2 HT2 HU2 HR2 HO2 HB2
  go_wp2_with fail
  generalize w2.alloc (.cells #[.int .i64 W, .int .i64 H, .slice A n c] 35) = w3 at *
  obtain ⟨pa, hpa⟩ : ∃ pa, w2.heap.size = pa := ⟨_, rfl⟩
  rw [hpa] at HP3 HQ3 HAB hz2 hz3 ⊢
  clear hpa
  refine (spec_own2 w3 pa W H A n c g HQ3.out HO3.out.row (by omega)).mono ?_
  rintro e w4 ⟨B, d, rfl, OB, b4⟩
  have hz4 := b4.size
  have HBB : Hid (∀ b, blk B = some b → 0 < n → w3.heap.size ≤ b ∧ b < w4.heap.size) := Lib.hid (fun b hb h0 => by obtain ⟨b', o', e1, h1, h2, h3⟩ := OB.2.2.2 h0; rw [e1] at hb; simp [blk] at hb; omega)
  have bM := (Below.refl w4.heap.size w4).alloc (Nat.le_refl _) (.cells #[.int .i64 W, .int .i64 H, .slice B n d] 35)
  have b5 := b4.trans (bM.mono b4.size)
  have HD : Hid (DsA w w.heap.size s pa w4.heap.size A0 n0 c0 f0 W H A B n c d g w3.heap.size (w4.alloc (.cells #[.int .i64 W, .int .i64 H, .slice B n d] 35)) g k1) := Lib.hid
    ⟨OB.below bM (Nat.le_refl _), HO3.out.below b5 (Nat.le_refl _), HS3.out.ext (Ext.of_below (X := []) b5) (by simp), HR3.out.below b5 (Nat.le_refl _), HP3.out.below b5 HP3.out.lt, At.new w4 _ _, HT3.out.below b5 HT3.out.lt, HU3.out.below b5 HU3.out.lt, HB3.out.trans (b5.mono HB3.out.size)⟩
  clear OB b4 bM b5 HS3 HT3 HU3 HR3 HO3 HB3 HP3 HQ3
  go_wp2_with fail
  generalize w4.alloc (.cells #[.int .i64 W, .int .i64 H, .slice B n d] 35) = w5 at *
  obtain ⟨pb, hpb⟩ : ∃ pb, w4.heap.size = pb := ⟨_, rfl⟩
  rw [hpb] at HD HBB hz4 ⊢
  clear hpb
  obtain ⟨base, hbase⟩ : ∃ base, w3.heap.size = base := ⟨_, rfl⟩
  rw [hbase] at HD HBB hz4 hz3
  clear hbase
  have hps : pa ≠ s := by omega
  have hqs : pb ≠ s := by omega
  have HA6 : Hid (∀ b, blk A = some b → 0 < n → b ≠ s) := Lib.hid (fun b hb h0 => by have := HAB.out b hb h0; omega)
  have HB6 : Hid (∀ b, blk B = some b → 0 < n → b ≠ s) := Lib.hid (fun b hb h0 => by have := HBB.out b hb h0; omega)
  go_loopw [7] (fun iv wr => ∃ (j : Nat) (g' : Nat → Int) (k : Int), j ≤ n ∧ iv = .int .i64 j ∧ 0 ≤ k ∧ k ≤ 1010 + 4 * (j : Int) ∧ Hid (DsA w w.heap.size s pa pb A0 n0 c0 f0 W H A B n c d g base wr g' k)) (fun iv _ => 200 - (intOf iv).toNat)
  case atStart => exact ⟨0, g, k1, Nat.zero_le _, rfl, by omega, by omega, HD⟩
  case round =>
    clear HD
    obtain ⟨j, g', k, hj, rfl, hk0, hk1, HD⟩ := hrel
    have p0 := HD.out.pB.cellv (i := 0) rfl
    have p1 := HD.out.pB.cellv (i := 1) rfl
    have p2 := HD.out.pB.cellv (i := 2) rfl
    have pz := HD.out.pB.lt
    by_cases hlt : j < n
    · go_wp2_with fail
      refine (oneO_any wr s A0 n0 c0 f0 k 4 HD.out.src HD.out.code HNE.out (by omega) (by omega) hn (by omega) (by omega)).mono ?_
      rintro e w7 ⟨v, k2, rfl, j1, j2, j3, j4⟩
      have HD7 := Lib.hid (HD.out.next j4 j1 (by omega) hps hqs hsw hsw1 HNE.out HA6.out HB6.out)
      clear j1 j4 p0 p1 p2 pz HD
      cases v
      · go_wp2
        go_roundw
        case rel => exact ⟨j + 1, g', k2, by omega, by go_num, by omega, by omega, HD7⟩
        case measure => simp [intOf]; omega
      · obtain ⟨b, o, rfl, hb1, hb2, hcc⟩ := HD7.out.rowB.2.2.2 (by omega)
        obtain ⟨hcj, hfj⟩ := hcc j hlt
        have hbB := HBB.out b rfl (by omega)
        have hbs := HB6.out b rfl (by omega)
        have hbn : b ∉ [s] := by simpa using hbs
        have hpn : pb ∉ [s] := by simpa using hqs
        have p2' := HD7.out.pB.cellv (i := 2) rfl
        have pz' := HD7.out.pB.lt
        have ST := Lib.hid (show w7.drew.cell? ⟨pb, 2, none⟩ = some (.slice (some ⟨b, o, none⟩) n d) from p2')
        have HSd := Lib.hid (HD7.out.src.ext (Ext.drew (X := []) w7) (by simp))
        have HRd := Lib.hid (HD7.out.code.ext (Ext.drew (X := []) w7) (by simp))
        have HCJ := Lib.hid hcj
        have HFJ := Lib.hid hfj
        have e1 : (j : Int) < (n : Int) := by omega
        have e2 : (0 : Int) ≤ (j : Int) := by omega
        clear hcc hcj hfj p2'
        go_wp2_with fail
        go_region_held3 (fun w' => w'.cell? ⟨pb, 2, none⟩ = some (.slice (some ⟨b, o, none⟩) n d))
          (first | exact ST.out | exact Ext.cell x4 (by assumption) hpn | (rw [World.cell?_setCell_other _ _ _ _ (fun h => by injection h; omega)]; assumption))
          (first | (go_at_call 63; refine (pick_any _ s A0 n0 c0 f0 k2 3 HSd.out HRd.out HNE.out (by omega) (by omega) hn (by omega) (by omega)).mono ?_; rintro e wq ⟨u, k3, rfl, ua, ub, x1, x2, x3, x4⟩; have y1 := x4.cell (p := ⟨b, o + j, none⟩) HCJ.out hbn; have y2 := (x4.frozen (p := ⟨b, o + j, none⟩) hb2 hbn).trans HFJ.out))
        rename_i hSx
        have HDq := Lib.hid (HD7.out.next ((Ext.drew (X := [s]) w7).trans x4) x1 (by omega) hps hqs hsw hsw1 HNE.out HA6.out HB6.out)
        clear hSx x1 x4 y1 y2 ST HSd HRd HCJ HFJ HD7
        go_wp2
        go_roundw
        case rel => exact ⟨j + 1, putF g' j u, k3, by omega, by go_num, by omega, by omega, Lib.hid (HDq.out.put hlt u (WalkArith.wf_i64 (by omega)) (by omega) hbs (by omega) (by omega) (by omega) (by omega) (fun q hq h0 => by have := HBL.out h0 q hq; omega) (fun q hq h0 => by have := HAB.out q hq h0; omega))⟩
        case measure => simp [intOf]; omega
    · obtain rfl : j = n := by omega
      go_wp2_with fail
      refine (oneO_any wr s A0 n0 c0 f0 k 6 HD.out.src HD.out.code HNE.out (by omega) (by omega) hn (by omega) (by omega)).mono ?_
      rintro e w7 ⟨v, k2, rfl, j1, j2, j3, j4⟩
      have HD7 := Lib.hid (HD.out.next j4 j1 (by omega) hps hqs hsw hsw1 HNE.out HA6.out HB6.out)
      clear j1 j4 p0 p1 p2 pz HD
      have hpaR : pa ≠ w.heap.size := by omega
      have hpaR1 : pa ≠ w.heap.size + 1 := by omega
      have hpbR : pb ≠ w.heap.size := by omega
      have hpbR1 : pb ≠ w.heap.size + 1 := by omega
      cases v
      · skip
        have a0 := HD7.out.pA.cellv (i := 0) rfl
        have a1 := HD7.out.pA.cellv (i := 1) rfl
        have a2 := HD7.out.pA.cellv (i := 2) rfl
        have b0 := HD7.out.pB.cellv (i := 0) rfl
        have b1 := HD7.out.pB.cellv (i := 1) rfl
        have b2 := HD7.out.pB.cellv (i := 2) rfl
        have r0 := HD7.out.r1.cellv (i := 0) rfl
        have r1 := HD7.out.r1.cellv (i := 1) rfl
        have r2 := HD7.out.r1.cellv (i := 2) rfl
        have t0 := HD7.out.r2.cellv (i := 0) rfl
        have t1 := HD7.out.r2.cellv (i := 1) rfl
        have t2 := HD7.out.r2.cellv (i := 2) rfl
        have f0' := HD7.out.r1.frozen 0
        have f1' := HD7.out.r1.frozen 1
        have f2' := HD7.out.r1.frozen 2
        have g0' := HD7.out.r2.frozen 0
        have g1' := HD7.out.r2.frozen 1
        have g2' := HD7.out.r2.frozen 2
        have h0' := HD7.out.pB.frozen 0
        have h1' := HD7.out.pB.frozen 1
        have h2' := HD7.out.pB.frozen 2
        have az := HD7.out.pA.lt
        have bz := HD7.out.pB.lt
        have rz := HD7.out.r1.lt
        have tz := HD7.out.r2.lt
        have hab : pa ≠ pb := by omega
        go_wp2
        go_region
        all_goals
          go_wp2
          refine bodyPost_ret ?_ rfl ⟨W, H, W, H, A, B, _, c, _, d, g, g', rfl, ((ownRow_setBox (ownRow_setBox HD7.out.rowA (by omega) _ _ _) (by omega) _ _ _).below ((Below.refl _ _).drew) (Nat.le_refl _)).mono (by omega), ((ownRow_setBox (ownRow_setBox HD7.out.rowB (by omega) _ _ _) (by omega) _ _ _).below ((Below.refl _ _).drew) (Nat.le_refl _)).mono (by omega), by omega, by omega, ((((((HD7.out.bel.setCell (by simp) _).setCell (by simp) _).setCell (by simp) _).setCell (by simp) _).setCell (by simp) _).setCell (by simp) _).drew⟩
          simp [results, Tryd.results31, go_sem, r0, r1, r2, t0, t1, t2, rz, tz]
      · go_wp2_with fail
        refine (bent_any w7 s A0 n0 c0 f0 k2 HD7.out.src HD7.out.code HNE.out (by omega) (by omega) hn).mono ?_
        rintro e w8 ⟨W2, H2, A2, n2, c2, g2, k3, rfl, -, -, hn2, O8, S8, q3, q4, x8⟩
        have hx8 := HD7.out.bel.size
        have h7z := HD7.out.pB.lt
        have HA8 : Hid (∀ b, blk A2 = some b → 0 < n2 → w7.heap.size ≤ b) := Lib.hid (fun b hb h0 => (O8.base_lt h0 b hb).1)
        have HO8 := Lib.hid O8
        have HD8 := Lib.hid (HD7.out.next x8 S8 (by omega) hps hqs hsw hsw1 HNE.out HA6.out HB6.out)
        clear x8 S8 O8 HD7
        have a0 := HD8.out.pA.cellv (i := 0) rfl
        have a1 := HD8.out.pA.cellv (i := 1) rfl
        have a2 := HD8.out.pA.cellv (i := 2) rfl
        have b0 := HD8.out.pB.cellv (i := 0) rfl
        have b1 := HD8.out.pB.cellv (i := 1) rfl
        have b2 := HD8.out.pB.cellv (i := 2) rfl
        have r0 := HD8.out.r1.cellv (i := 0) rfl
        have r1 := HD8.out.r1.cellv (i := 1) rfl
        have r2 := HD8.out.r1.cellv (i := 2) rfl
        have t0 := HD8.out.r2.cellv (i := 0) rfl
        have t1 := HD8.out.r2.cellv (i := 1) rfl
        have t2 := HD8.out.r2.cellv (i := 2) rfl
        have f0' := HD8.out.r1.frozen 0
        have f1' := HD8.out.r1.frozen 1
        have f2' := HD8.out.r1.frozen 2
        have g0' := HD8.out.r2.frozen 0
        have g1' := HD8.out.r2.frozen 1
        have g2' := HD8.out.r2.frozen 2
        have h0' := HD8.out.pB.frozen 0
        have h1' := HD8.out.pB.frozen 1
        have h2' := HD8.out.pB.frozen 2
        have az := HD8.out.pA.lt
        have bz := HD8.out.pB.lt
        have rz := HD8.out.r1.lt
        have tz := HD8.out.r2.lt
        have hab : pa ≠ pb := by omega
        go_wp2
        go_region
        all_goals
          go_wp2
          refine bodyPost_ret ?_ rfl ⟨W, H, W2, H2, A, A2, _, c, n2, c2, g, g2, rfl, ((ownRow_setBox (ownRow_setBox (HD8.out.rowA.ext (((Ext.set (X := [pb]) _ _ _ (by simp)).trans (Ext.set (X := [pb]) _ _ _ (by simp))).trans (Ext.set (X := [pb]) _ _ _ (by simp))) (fun q hq h0 => by have := HAB.out q hq h0; simp; omega)) (by omega) _ _ _) (by omega) _ _ _).below ((Below.refl _ _).drew) (Nat.le_refl _)).mono (by omega), ((ownRow_setBox (ownRow_setBox (HO8.out.ext (((Ext.set (X := [pb]) _ _ _ (by simp)).trans (Ext.set (X := [pb]) _ _ _ (by simp))).trans (Ext.set (X := [pb]) _ _ _ (by simp))) (fun q hq h0 => by have := HA8.out q hq h0; simp; omega)) (by omega) _ _ _) (by omega) _ _ _).below ((Below.refl _ _).drew) (Nat.le_refl _)).mono (by omega), by omega, by omega, (((((((((HD8.out.bel.setCell (by simp; omega) _).setCell (by simp; omega) _).setCell (by simp; omega) _).setCell (by simp) _).setCell (by simp) _).setCell (by simp) _).setCell (by simp) _).setCell (by simp) _).setCell (by simp) _).drew⟩
          simp [results, Tryd.results31, go_sem, r0, r1, r2, t0, t1, t2, rz, tz, hpbR, hpbR1]
end Go.Proofs.YtbpdjmjkjiddjaaDoor.Base
namespace Go.Proofs.YtbpdjmjkjiddjaaDoor.Base
open Go Go.RowKit
set_option linter.unusedVariables false
set_option linter.unusedSimpArgs false

theorem f6ints_same (w : World) (A A' : Option Addr) (n c c' : Nat) (f : Nat → Int) (hr : Row .i64 w A n c f) (hr' : Row .i64 w A' n c' f) :
    Calls Tryd.prog 34 #[.slice A n c, .slice A' n c'] w (Gives (.bool true) w) := by
  obtain ⟨hnc, hcm, _, hcell⟩ := hr
  obtain ⟨hnc', hcm', _, hcell'⟩ := hr'
  unfold maxLen at hcm hcm'
  have hn : ((n : Int) != (n : Int)) = false := by simp
  go_enter Tryd.func34, Tryd.ntmps34
  go_wp2
  go_loopw [5] (fun i wr => ∃ k m : Nat, k ≤ n ∧ i = .int .i64 k ∧ wr = w.drewN m) (fun i _ => n - (intOf i).toNat)
  case atStart => exact ⟨0, 0, Nat.zero_le _, rfl, rfl⟩
  case round =>
    obtain ⟨k, m, hk, rfl, rfl⟩ := hrel
    by_cases hlt : k < n
    · obtain ⟨b, o, rfl, hbl, hc⟩ := hcell (by omega)
      obtain ⟨b', o', rfl, hbl', hc'⟩ := hcell' (by omega)
      have hck := hc k hlt
      have hck' := hc' k hlt
      have heq : (f k != f k) = false := by simp
      clear hc hc' hcell hcell'
      go_wp2
      go_quiet (fail)
      go_wp2
      go_roundw
      case rel => exact ⟨k + 1, _, by omega, by go_num, rfl⟩
      case measure => simp [intOf]; omega
    · go_wp2
      go_ret
      exact ⟨rfl, below_drewN (Below.refl _ _) m⟩
theorem f6big_any (w : World) (A0 : Option Addr) (n0 c0 : Nat) (hm : n0 ≤ maxLen) (v : Bool) (hv : decide (4096 < (n0 : Int)) = v) :
    Calls Tryd.prog 24 #[.slice A0 n0 c0] w (fun e w' => e = .returned (.bool v) ∧ w = w') := by
  unfold maxLen at hm
  go_enter Tryd.func24, Tryd.ntmps24
  go_wp2
  go_ret
  exact ⟨by rw [← hv]; rfl, rfl⟩
theorem difN_zero {f f' : Nat → Int} : ∀ {n : Nat}, difN f f' n = 0 ↔ ∀ j, j < n → f j = f' j
  | 0 => ⟨fun _ j hj => absurd hj (Nat.not_lt_zero _), fun _ => rfl⟩
  | n + 1 => by
    by_cases h : f n = f' n
    · rw [dif_same h, difN_zero]
      exact ⟨fun h1 j hj => by
        rcases Nat.lt_or_ge j n with h2 | h2
        · exact h1 j h2
        · obtain rfl : j = n := by omega
          exact h, fun h1 j hj => h1 j (by omega)⟩
    · rw [dif_other h]
      exact ⟨fun h1 => by omega, fun h1 => absurd (h1 n (Nat.lt_succ_self _)) h⟩
theorem ds_same {W H W' H' : Int} {n n' : Nat} {f f' : Nat → Int} (hc : dsC W H n f W' H' n' f' = 0) : decide (dsV W H n f W' H' n' f' = 0) = sameB W H n f W' H' n' f' := by
  have hd : dsV W H n f W' H' n' f' = (difN f f' n : Int) := by unfold dsV; rw [if_pos hc]
  unfold dsC at hc
  split at hc
  · rename_i hv
    obtain ⟨h1, h2⟩ := Bool.and_eq_true_iff.1 hv
    split at hc
    · rename_i hs
      obtain ⟨rfl, rfl⟩ := hs
      obtain ⟨-, -, e1, -⟩ := validB_yes h1
      obtain ⟨-, -, e2, -⟩ := validB_yes h2
      obtain rfl : n = n' := by omega
      rw [hd]
      unfold sameB eqRows
      simp only [decide_true, Bool.true_and]
      rw [Bool.eq_iff_iff]
      simp only [decide_eq_true_eq, List.all_eq_true, List.mem_range, beq_iff_eq]
      constructor
      · intro h j hj
        exact difN_zero.1 (by omega) j hj
      · intro h
        have := (difN_zero (f := f) (f' := f') (n := n)).2 h
        omega
    · cases hc
  · cases hc
section
variable {a b : Nat → Bool}
theorem flI_mem {ok : Nat → Bool} {z : Int} : ∀ {n : Nat}, z ∈ flI ok n ↔ ∃ k : Nat, k < n ∧ z = (k : Int) ∧ ok k = true
  | 0 => ⟨fun h => (by cases h), fun ⟨k, h, _⟩ => absurd h (Nat.not_lt_zero _)⟩
  | n + 1 => by
    cases h : ok n
    · rw [flI_no h, flI_mem (n := n)]
      constructor
      · rintro ⟨k, h1, h2, h3⟩
        exact ⟨k, by omega, h2, h3⟩
      · rintro ⟨k, h1, h2, h3⟩
        rcases Nat.lt_or_ge k n with h4 | h4
        · exact ⟨k, h4, h2, h3⟩
        · obtain rfl : k = n := by omega
          rw [h] at h3
          cases h3
    · rw [flI_yes h, List.mem_append, flI_mem (n := n)]
      constructor
      · rintro (⟨k, h1, h2, h3⟩ | h1)
        · exact ⟨k, by omega, h2, h3⟩
        · exact ⟨n, Nat.lt_succ_self _, by simpa using h1, h⟩
      · rintro ⟨k, h1, h2, h3⟩
        rcases Nat.lt_or_ge k n with h4 | h4
        · exact .inl ⟨k, h4, h2, h3⟩
        · obtain rfl : k = n := by omega
          exact .inr (by simp [h2])
theorem flI_nodup {ok : Nat → Bool} : ∀ n, (flI ok n).Nodup
  | 0 => List.nodup_nil
  | n + 1 => by
    cases h : ok n
    · rw [flI_no h]; exact flI_nodup n
    · rw [flI_yes h]
      refine List.nodup_append.2 ⟨flI_nodup n, by simp, fun x hx y hy e => ?_⟩
      have := flI_bd n x hx
      simp at hy
      omega
theorem flI_inter {m : Nat} : ∀ {n : Nat}, n ≤ m → (flI a n).filter (fun z => decide (z ∈ flI b m)) = flI (fun k => a k && b k) n
  | 0, _ => rfl
  | n + 1, h => by
    have ih := flI_inter (m := m) (n := n) (by omega)
    have hm : decide ((n : Int) ∈ flI b m) = b n := by
      rw [Bool.eq_iff_iff, decide_eq_true_eq, flI_mem]
      constructor
      · rintro ⟨k, h1, h2, h3⟩
        obtain rfl : n = k := by omega
        exact h3
      · exact fun h1 => ⟨n, by omega, rfl, h1⟩
    cases ha : a n
    · rw [flI_no ha, ih, flI_no (ok := fun k => a k && b k) (by simp [ha])]
    · rw [flI_yes ha, List.filter_append, ih]
      cases hb : b n
      · rw [flI_no (ok := fun k => a k && b k) (by simp [hb])]
        simp [hm, hb]
      · rw [flI_yes (ok := fun k => a k && b k) (by simp [ha, hb])]
        simp [hm, hb]
end
/-- the common elements of the first i of L1 with L2 -/
def cmO (L1 L2 : List Int) (i : Nat) : List Int := (L1.take i).filter (fun z => decide (z ∈ L2))
/-- .. and element i, where it is among the first k of L2 -/
def cmI (L1 L2 : List Int) (i k : Nat) : List Int := cmO L1 L2 i ++ (if L1.getD i 0 ∈ L2.take k then [L1.getD i 0] else [])
theorem cmI_zero (L1 L2 : List Int) (i : Nat) : cmI L1 L2 i 0 = cmO L1 L2 i := by simp [cmI]
theorem take_one (L : List Int) {k : Nat} (hk : k < L.length) : L.take (k + 1) = L.take k ++ [L.getD k 0] := by
  rw [List.take_add_one, List.getElem?_eq_getElem hk]
  simp [List.getD_eq_getElem?_getD, hk]
theorem cmI_hit {L1 L2 : List Int} {i k : Nat} (hn : L2.Nodup) (hk : k < L2.length) (h : L1.getD i 0 = L2.getD k 0) : cmI L1 L2 i (k + 1) = cmI L1 L2 i k ++ [L1.getD i 0] := by
  have h1 : L1.getD i 0 ∉ L2.take k := fun hm => by
    have h2 : (L2.take (k + 1)).Nodup := hn.sublist (List.take_sublist _ _)
    rw [take_one L2 hk] at h2
    have := (List.nodup_append.1 h2).2.2 _ hm _ (List.mem_singleton.2 rfl)
    exact this h
  have h3 : L1.getD i 0 ∈ L2.take (k + 1) := by rw [take_one L2 hk, h]; simp
  unfold cmI
  rw [if_pos h3, if_neg h1]
  simp
theorem cmI_miss {L1 L2 : List Int} {i k : Nat} (hk : k < L2.length) (h : L1.getD i 0 ≠ L2.getD k 0) : cmI L1 L2 i (k + 1) = cmI L1 L2 i k := by
  unfold cmI
  have : L1.getD i 0 ∈ L2.take (k + 1) ↔ L1.getD i 0 ∈ L2.take k := by
    rw [take_one L2 hk, List.mem_append, List.mem_singleton]
    exact ⟨fun h1 => h1.resolve_right h, .inl⟩
  simp only [this]
theorem cmI_end {L1 L2 : List Int} {i : Nat} (hi : i < L1.length) : cmI L1 L2 i L2.length = cmO L1 L2 (i + 1) := by
  unfold cmI cmO
  rw [List.take_length, take_one L1 hi, List.filter_append]
  congr 1
  by_cases h : L1.getD i 0 ∈ L2
  · rw [if_pos h]; simp only [List.filter_cons, decide_eq_true h, if_true, List.filter_nil]
  · rw [if_neg h]; simp only [List.filter_cons, decide_eq_false h, List.filter_nil]; rfl
theorem cmO_len (L1 L2 : List Int) (i : Nat) : (cmO L1 L2 i).length ≤ i := by
  unfold cmO
  refine Nat.le_trans (List.length_filter_le _ _) ?_
  rw [List.length_take]
  omega
theorem cmI_len (L1 L2 : List Int) (i k : Nat) : (cmI L1 L2 i k).length ≤ i + 1 := by
  unfold cmI
  rw [List.length_append]
  have := cmO_len L1 L2 i
  split <;> simp <;> omega
theorem cc_both {W H : Int} {n : Nat} {f : Nat → Int} {s t : Int} (h : Base.ccC W H n f s t = 0) : cuC W H n f s = 0 ∧ cuC W H n f t = 0 := by
  unfold Base.ccC at h
  split at h
  · rename_i h1
    split at h
    · rename_i h2
      exact ⟨h1, h2⟩
    · rename_i h2; exact absurd h h2
  · rename_i h1; exact absurd h h1
theorem okP_and (W H : Int) (f : Nat → Int) (a b : Int) : okP W H f a b = fun k => okP W H f a a k && okP W H f b b k := by
  funext k
  unfold okP
  simp
theorem fs_same {W H W' H' : Int} {n n' : Nat} {f f' : Nat → Int} {dc dv : Int} (hc : dsC W H n f W' H' n' f' = dc) (hv : dsV W H n f W' H' n' f' = dv) (d0 : dc = 0) :
    ∃ sb : Bool, (dv == 0) = sb ∧ ∀ (w : World) (A A' : Option Addr) (c c' : Nat), Row .i64 w A n c f → Row .i64 w A' n' c' f' →
      Calls Tryd.prog 35 #[.agg #[.int .i64 W, .int .i64 H, .slice A n c], .agg #[.int .i64 W', .int .i64 H', .slice A' n' c']] w (Gives (.bool sb) w) := by
  have h := ds_same (hc.trans d0)
  rw [hv] at h
  refine ⟨_, ?_, fun w A A' c c' h1 h2 => spec_samePanel w W H W' H' A A' n c n' c' f f' h1 h2⟩
  rw [← h]
  by_cases hd : dv = 0
  · simp [hd]
  · simp [hd]
theorem fs_row {L1 L2 : List Int} {sn : Nat} {sf : Nat → Int} {w : World} {base : Nat} {A : Option Addr} {c : Nat} {T : TypeId}
    (h : (cmO L1 L2 L1.length).length = sn ∧ sn ≤ 113 ∧ ∀ i, i < sn → (cmO L1 L2 L1.length)[i]? = some (sf i) ∧ (Lit.int .i64 (sf i)).wf = true)
    (ho : w.ownsRow base T 1 (.slice A (cmO L1 L2 L1.length).length c) (cmO L1 L2 L1.length).length (ivs (cmO L1 L2 L1.length))) : Row .i64 w A sn c sf := by
  obtain ⟨h1, h2, h3⟩ := h
  rw [h1] at ho
  refine rowS_one.1 (ownS_ivs ho (fun i hi => ?_) (fun i hi => (h3 i hi).2) (Nat.le_refl _) (by unfold maxLen; omega)).row
  have := (h3 i hi).1
  unfold ivs
  simp [this]
theorem flI_get {ok : Nat → Bool} {n i : Nat} (h : i < (flI ok n).length) : (flI ok n)[i]? = some ((flI ok n).getD i 0) := by
  rw [List.getD_eq_getElem?_getD, List.getElem?_eq_getElem h]
  rfl
theorem fs_tail {W H : Int} {n : Nat} {g : Nat → Int} {a b cc : Int} {sn : Nat} {sf : Nat → Int} (hcc : ccC W H n g a b = cc) (hsn : spN W H n g a b = sn) (hsf : spF W H n g a b = sf) (hn : n ≤ 113)
    (hwa : (Lit.int .i64 a).wf = true) (hwb : (Lit.int .i64 b).wf = true) (e0 : cc = 0) :
    ∃ L1 L2 : List Int, L1.length ≤ 113 ∧ L2.length ≤ 113 ∧ Hid L2.Nodup ∧ Hid (∀ i, (Lit.int .i64 (L1.getD i 0)).wf = true) ∧
      Hid ((cmO L1 L2 L1.length).length = sn ∧ sn ≤ 113 ∧ ∀ i, i < sn → (cmO L1 L2 L1.length)[i]? = some (sf i) ∧ (Lit.int .i64 (sf i)).wf = true) ∧
      Hid (∀ (w : World) (A : Option Addr) (c : Nat), Row .i64 w A n c g → Tabs w → Calls Tryd.prog 29 #[.agg #[.int .i64 W, .int .i64 H, .slice A n c], .int .i64 a] w (ListOut 1 L1.length (fun i => L1.getD i 0) 0 w.heap.size w)) ∧
      Hid (∀ (w : World) (A : Option Addr) (c : Nat), Row .i64 w A n c g → Tabs w → Calls Tryd.prog 29 #[.agg #[.int .i64 W, .int .i64 H, .slice A n c], .int .i64 b] w (ListOut 1 L2.length (fun i => L2.getD i 0) 0 w.heap.size w)) := by
  have u1 := (cc_both (hcc.trans e0)).1
  have u2 := (cc_both (hcc.trans e0)).2
  have hsp : spN W H n g a b = (flI (okP W H g a b) n).length := by unfold spN; rw [if_pos (hcc.trans e0)]
  have hc1 : cpN W H n g a = (flI (okP W H g a a) n).length := by unfold cpN; rw [if_pos u1]
  have hc2 : cpN W H n g b = (flI (okP W H g b b) n).length := by unfold cpN; rw [if_pos u2]
  have hcm : cmO (flI (okP W H g a a) n) (flI (okP W H g b b) n) (flI (okP W H g a a) n).length = flI (okP W H g a b) n := by
    unfold cmO; rw [List.take_length, flI_inter (Nat.le_refl _), okP_and W H g a b]
  have hwf : ∀ (ok : Nat → Bool) (i : Nat), (Lit.int .i64 ((flI ok n).getD i 0)).wf = true := fun ok i => by
    rcases Nat.lt_or_ge i (flI ok n).length with h | h
    · have hm : (flI ok n).getD i 0 ∈ flI ok n := by rw [List.getD_eq_getElem?_getD, List.getElem?_eq_getElem h]; exact List.getElem_mem h
      have := flI_bd n _ hm
      exact WalkArith.wf_i64 (by omega)
    · rw [List.getD_eq_getElem?_getD, List.getElem?_eq_none h]; rfl
  refine ⟨flI (okP W H g a a) n, flI (okP W H g b b) n, Nat.le_trans (flI_len n) hn, Nat.le_trans (flI_len n) hn, Lib.hid (flI_nodup n), Lib.hid (hwf _), Lib.hid ?_, Lib.hid (fun w A c h1 h2 => ?_), Lib.hid (fun w A c h1 h2 => ?_)⟩
  · rw [hcm, ← hsp]
    refine ⟨hsn, by rw [← hsn, hsp]; exact Nat.le_trans (flI_len n) hn, fun i hi => ?_⟩
    rw [← hsn, hsp] at hi
    rw [← hsf]
    unfold spF flF
    exact ⟨flI_get hi, hwf _ i⟩
  · have h := impl_curvePoints w W H A n c g a hwa h1 h2
    rw [u1, hc1] at h
    exact h
  · have h := impl_curvePoints w W H A n c g b hwb h1 h2
    rw [u2, hc2] at h
    exact h
/-- a goal that no tactic looks into -/
structure ShutF (p : Prop) : Prop where
  out : p
end Go.Proofs.YtbpdjmjkjiddjaaDoor.Base
