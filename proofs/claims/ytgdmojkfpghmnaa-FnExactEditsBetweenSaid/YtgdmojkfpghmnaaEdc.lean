/-
  The edits between two panels: EditsBetween, both sides.
-/
import Derived.Test.YtgdmojkfpghmnaaEdb
namespace Go.Proofs.Ytgdmojkfpghmnaa.Base
open Go Go.RowKit
set_option linter.unusedVariables false
set_option linter.unusedSimpArgs false

def ebN (W H : Int) (n : Nat) (f : Nat → Int) (W' H' : Int) (n' : Nat) (f' : Nat → Int) : Nat := if dsC W H n f W' H' n' f' = 0 then difN f f' n else 0
section
variable {W H W' H' : Int} {n n' : Nat} {f f' : Nat → Int}
theorem eb_no (h : dsC W H n f W' H' n' f' ≠ 0) : ebN W H n f W' H' n' f' = 0 := if_neg h
theorem eb_yes (h : dsC W H n f W' H' n' f' = 0) : ebN W H n f W' H' n' f' = difN f f' n := if_pos h
theorem ds_cases : (dsC W H n f W' H' n' f' = 1 ∧ (validB W H n f && validB W' H' n' f') = false) ∨ (dsC W H n f W' H' n' f' = 6 ∧ validB W H n f = true ∧ validB W' H' n' f' = true ∧ ¬ (W = W' ∧ H = H')) ∨ (dsC W H n f W' H' n' f' = 0 ∧ validB W H n f = true ∧ validB W' H' n' f' = true ∧ W = W' ∧ H = H' ∧ n = n') := by
  cases h : (validB W H n f && validB W' H' n' f')
  · exact .inl ⟨by simp [dsC, h], rfl⟩
  · obtain ⟨h1, h2⟩ := Bool.and_eq_true_iff.1 h
    by_cases hs : W = W' ∧ H = H'
    · refine .inr (.inr ⟨by simp only [dsC, h, if_true]; exact if_pos hs, h1, h2, hs.1, hs.2, ?_⟩)
      have e1 := (validB_yes h1).2.2.1
      have e2 := (validB_yes h2).2.2.1
      rw [hs.1, hs.2] at e1
      omega
    · exact .inr (.inl ⟨by simp only [dsC, h, if_true]; exact if_neg hs, h1, h2, hs⟩)
theorem valid_n {W H : Int} {n : Nat} {f : Nat → Int} (h : validB W H n f = true) : n ≤ 200 := by
  obtain ⟨h1, h2, h3, -⟩ := validB_yes h
  have := inner_bd' h1 h2
  omega
end
theorem list_none (w : World) (base : Nat) (F : Nat → Int) : OwnS 2 w base none 0 0 F := ownS_nil 2 w base F
set_option maxHeartbeats 2000000 in
theorem spec_editsBetween (w : World) (W H W' H' : Int) (A A' : Option Addr) (n c n' c' : Nat) (f f' : Nat → Int) (hr : Row .i64 w A n c f) (hr' : Row .i64 w A' n' c' f') : Calls Try.prog 20 #[.agg #[.int .i64 W, .int .i64 H, .slice A n c], .agg #[.int .i64 W', .int .i64 H', .slice A' n' c']] w (ListOut 2 (ebN W H n f W' H' n' f') (fun i => (btL f f' n).getD i 0) (dsC W H n f W' H' n' f') w.heap.size w) := by
  have hbel : Below w.heap.size w ((w.alloc (.cells #[.int .i64 W, .int .i64 H, .slice A n c] 29)).alloc (.cells #[.int .i64 W', .int .i64 H', .slice A' n' c'] 29)) := by go_grown
  have hx := box_two w 29 W H W' H' A A' n c n' c'
  have HR := Lib.hid (hr.below hbel (Nat.le_refl _))
  have HR' := Lib.hid (hr'.below hbel (Nat.le_refl _))
  have HX := Lib.hid hx.1
  have HY := Lib.hid hx.2
  have HL := Lib.hid hbel
  clear hr hr' hbel hx
  rcases ds_cases (W := W) (H := H) (W' := W') (H' := H') (n := n) (n' := n') (f := f) (f' := f') with ⟨e, hv⟩ | ⟨e, hv, hv', hs⟩ | ⟨e, hv, hv', rfl, rfl, rfl⟩
  · rw [eb_no (by rw [e]; decide), e]
    clear e
    cases h1 : validB W H n f
    · have HV := Lib.hid h1
      clear hv h1
      go_enter Try.func20, Try.ntmps20
      go_wp2_with fail
      refine (specOk_is HV.out HX.out HR.out).mono ?_
      rintro e w1 ⟨m, rfl, rfl⟩
      go_wp2
      go_ret2
      exact ⟨none, 0, rfl, list_none _ _ _, below_drewN HL.out m⟩
    · have HV := Lib.hid h1
      have HV' : Hid (validB W' H' n' f' = false) := Lib.hid (by rw [h1] at hv; simpa using hv)
      clear hv h1
      go_enter Try.func20, Try.ntmps20
      go_wp2_with fail
      refine (specOk_is HV.out HX.out HR.out).mono ?_
      rintro e w1 ⟨m, rfl, rfl⟩
      have bm := below_drewN (Below.refl ((w.alloc (.cells #[.int .i64 W, .int .i64 H, .slice A n c] 29)).alloc (.cells #[.int .i64 W', .int .i64 H', .slice A' n' c'] 29)).heap.size ((w.alloc (.cells #[.int .i64 W, .int .i64 H, .slice A n c] 29)).alloc (.cells #[.int .i64 W', .int .i64 H', .slice A' n' c'] 29))) m
      have HR1 := Lib.hid (HR'.out.below bm (Nat.le_refl _))
      have HY1 := Lib.hid (HY.out.below bm HY.out.1)
      clear bm
      go_wp2_with fail
      refine (specOk_is HV'.out HY1.out HR1.out).mono ?_
      rintro e w1 ⟨m', rfl, rfl⟩
      go_wp2
      go_ret2
      exact ⟨none, 0, rfl, list_none _ _ _, below_drewN HL.out (m + m')⟩
  · rw [eb_no (by rw [e]; decide), e]
    have HV := Lib.hid hv
    have HV' := Lib.hid hv'
    clear e hv hv'
    go_enter Try.func20, Try.ntmps20
    go_wp2_with fail
    refine (specOk_is HV.out HX.out HR.out).mono ?_
    rintro e w1 ⟨m, rfl, rfl⟩
    have bm := below_drewN (Below.refl ((w.alloc (.cells #[.int .i64 W, .int .i64 H, .slice A n c] 29)).alloc (.cells #[.int .i64 W', .int .i64 H', .slice A' n' c'] 29)).heap.size ((w.alloc (.cells #[.int .i64 W, .int .i64 H, .slice A n c] 29)).alloc (.cells #[.int .i64 W', .int .i64 H', .slice A' n' c'] 29))) m
    have HR1 := Lib.hid (HR'.out.below bm (Nat.le_refl _))
    have HY1 := Lib.hid (HY.out.below bm HY.out.1)
    clear bm
    go_wp2_with fail
    refine (specOk_is HV'.out HY1.out HR1.out).mono ?_
    rintro e w1 ⟨m', rfl, rfl⟩
    have bq := below_drewN (below_drewN (Below.refl ((w.alloc (.cells #[.int .i64 W, .int .i64 H, .slice A n c] 29)).alloc (.cells #[.int .i64 W', .int .i64 H', .slice A' n' c'] 29)).heap.size ((w.alloc (.cells #[.int .i64 W, .int .i64 H, .slice A n c] 29)).alloc (.cells #[.int .i64 W', .int .i64 H', .slice A' n' c'] 29))) m) m'
    have HX2 := Lib.hid (HX.out.below bq HX.out.1)
    have HY2 := Lib.hid (HY.out.below bq HY.out.1)
    have HL2 := Lib.hid (below_drewN (below_drewN HL.out m) m')
    clear bq HR1 HY1 HR HR' HX HY HL
    generalize (((w.alloc (.cells #[.int .i64 W, .int .i64 H, .slice A n c] 29)).alloc (.cells #[.int .i64 W', .int .i64 H', .slice A' n' c'] 29)).drewN m).drewN m' = w2 at *
    obtain ⟨hp, k0, k1, k2⟩ := id HX2.out
    obtain ⟨hq, l0, l1, l2⟩ := id HY2.out
    by_cases hw : W = W'
    · have h1b : (W != W') = false := by simp [hw]
      have h2b : (H != H') = true := by simpa using fun h => hs ⟨hw, h⟩
      clear hw hs
      go_wp2
      go_ret2
      exact ⟨none, 0, rfl, list_none _ _ _, HL2.out⟩
    · have h1b : (W != W') = true := by simpa using hw
      clear hw hs
      go_wp2
      go_ret2
      exact ⟨none, 0, rfl, list_none _ _ _, HL2.out⟩
  · rw [eb_yes e, e]
    have hn := valid_n hv
    have HV := Lib.hid hv
    have HV' := Lib.hid hv'
    clear e hv hv'
    go_enter Try.func20, Try.ntmps20
    go_wp2_with fail
    refine (specOk_is HV.out HX.out HR.out).mono ?_
    rintro e w1 ⟨m, rfl, rfl⟩
    have bm := below_drewN (Below.refl ((w.alloc (.cells #[.int .i64 W, .int .i64 H, .slice A n c] 29)).alloc (.cells #[.int .i64 W, .int .i64 H, .slice A' n c'] 29)).heap.size ((w.alloc (.cells #[.int .i64 W, .int .i64 H, .slice A n c] 29)).alloc (.cells #[.int .i64 W, .int .i64 H, .slice A' n c'] 29))) m
    have HR1 := Lib.hid (HR'.out.below bm (Nat.le_refl _))
    have HY1 := Lib.hid (HY.out.below bm HY.out.1)
    clear bm
    go_wp2_with fail
    refine (specOk_is HV'.out HY1.out HR1.out).mono ?_
    rintro e w1 ⟨m', rfl, rfl⟩
    have bq := below_drewN (below_drewN (Below.refl ((w.alloc (.cells #[.int .i64 W, .int .i64 H, .slice A n c] 29)).alloc (.cells #[.int .i64 W, .int .i64 H, .slice A' n c'] 29)).heap.size ((w.alloc (.cells #[.int .i64 W, .int .i64 H, .slice A n c] 29)).alloc (.cells #[.int .i64 W, .int .i64 H, .slice A' n c'] 29))) m) m'
    have HR2 := Lib.hid (HR.out.below bq (Nat.le_refl _))
    have HR2' := Lib.hid (HR'.out.below bq (Nat.le_refl _))
    have HX2 := Lib.hid (HX.out.below bq HX.out.1)
    have HY2 := Lib.hid (HY.out.below bq HY.out.1)
    have HL2 := Lib.hid (below_drewN (below_drewN HL.out m) m')
    clear bq HR1 HY1 HR HR' HX HY HL
    generalize ((((w.alloc (.cells #[.int .i64 W, .int .i64 H, .slice A n c] 29)).alloc (.cells #[.int .i64 W, .int .i64 H, .slice A' n c'] 29))).drewN m).drewN m' = w2 at *
    obtain ⟨hp, k0, k1, k2⟩ := id HX2.out
    obtain ⟨hq, l0, l1, l2⟩ := id HY2.out
    have h1b : (W == W) = true := beq_self_eq_true _
    have h2b : (H == H) = true := beq_self_eq_true _
    have HZ := HL2.out.size
    go_wp2_with fail
    refine (spec_between _ _ _ W H W H A A' n c n c' f f' HX2.out HY2.out HR2.out HR2'.out (Nat.le_refl _) (by omega)).mono ?_
    rintro e w3 ⟨A3, c3, rfl, ho, b3⟩
    have HO := Lib.hid ho
    have HB := Lib.hid b3
    clear ho b3
    go_wp2
    go_ret2
    exact ⟨A3, c3, rfl, ⟨HO.out.1, HO.out.2.1, HO.out.2.2.1, fun h => by obtain ⟨b, o, e1, e2, e3⟩ := HO.out.2.2.2 h; exact ⟨b, o, e1, by omega, e3⟩⟩, HL2.out.trans (HB.out.mono HZ)⟩
set_option maxHeartbeats 4000000 in
set_option maxRecDepth 100000 in
theorem impl_editsBetween (w : World) (W H W' H' : Int) (A A' : Option Addr) (n c n' c' : Nat) (f f' : Nat → Int) (hr : Row .i64 w A n c f) (hr' : Row .i64 w A' n' c' f') : Calls Try.prog 21 #[.agg #[.int .i64 W, .int .i64 H, .slice A n c], .agg #[.int .i64 W', .int .i64 H', .slice A' n' c']] w (ListOut 2 (ebN W H n f W' H' n' f') (fun i => (btL f f' n).getD i 0) (dsC W H n f W' H' n' f') w.heap.size w) := by
  have hbel : Below w.heap.size w ((w.alloc (.cells #[.int .i64 W, .int .i64 H, .slice A n c] 29)).alloc (.cells #[.int .i64 W', .int .i64 H', .slice A' n' c'] 29)) := by go_grown
  have hx := box_two w 29 W H W' H' A A' n c n' c'
  have HR := Lib.hid (hr.below hbel (Nat.le_refl _))
  have HR' := Lib.hid (hr'.below hbel (Nat.le_refl _))
  have HX := Lib.hid hx.1
  have HY := Lib.hid hx.2
  have HL := Lib.hid hbel
  have hnc := hr.1
  have hcm := hr.2.1
  have hnc' := hr'.1
  have hcm' := hr'.2.1
  unfold maxLen at hcm hcm'
  have HWF := Lib.hid hr'.2.2.1
  have HD := Lib.hid (impl_distance ((w.alloc (.cells #[.int .i64 W, .int .i64 H, .slice A n c] 29)).alloc (.cells #[.int .i64 W', .int .i64 H', .slice A' n' c'] 29)) W H W' H' A A' n c n' c' f f' HR.out HR'.out)
  obtain ⟨i2, hi2, hz0, hz1, hz2⟩ := info_parts infoEd
  clear hr hr' hbel hx
  obtain ⟨dv, hdv⟩ : ∃ v, dsV W H n f W' H' n' f' = v := ⟨_, rfl⟩
  rw [hdv] at HD
  clear hdv
  rcases ds_cases (W := W) (H := H) (W' := W') (H' := H') (n := n) (n' := n') (f := f) (f' := f') with ⟨e, -⟩ | ⟨e, -⟩ | ⟨e, hv, hv', rfl, rfl, rfl⟩
  · rw [eb_no (by rw [e]; decide), e]
    rw [e] at HD
    clear e
    go_enter Try.func21, Try.ntmps21
    go_wp2_with fail
    refine HD.out.mono ?_
    rintro e w1 ⟨rfl, b1⟩
    go_wp2
    go_ret2
    exact ⟨none, 0, rfl, list_none _ _ _, HL.out.trans (b1.mono HL.out.size)⟩
  · rw [eb_no (by rw [e]; decide), e]
    rw [e] at HD
    clear e
    go_enter Try.func21, Try.ntmps21
    go_wp2_with fail
    refine HD.out.mono ?_
    rintro e w1 ⟨rfl, b1⟩
    go_wp2
    go_ret2
    exact ⟨none, 0, rfl, list_none _ _ _, HL.out.trans (b1.mono HL.out.size)⟩
  · rw [eb_yes e, e]
    rw [e] at HD
    have hn := valid_n hv
    clear e hv hv'
    go_enter Try.func21, Try.ntmps21
    go_wp2_with fail
    refine HD.out.mono ?_
    rintro e w1 ⟨rfl, b1⟩
    have HR1 := Lib.hid (HR.out.below b1 (Nat.le_refl _))
    have HR1' := Lib.hid (HR'.out.below b1 (Nat.le_refl _))
    have HX1 := Lib.hid (HX.out.below b1 HX.out.1)
    have HY1 := Lib.hid (HY.out.below b1 HY.out.1)
    have HL1 := Lib.hid (HL.out.trans (b1.mono HL.out.size))
    clear b1 HR HR' HX HY HL HD
    have HO1 := Lib.hid (owns_emptyE w1 2 50)
    have bE := (Below.refl w1.heap.size w1).alloc (Nat.le_refl _) (.cells #[] 50)
    obtain ⟨hq, l0, l1, l2⟩ := HY1.out.below bE HY1.out.1
    have hL1 := HL1.out.size
    clear bE l0 l1
    go_wp2
    clear l2 hq
    go_loopw [8, 24] (fun u kv wr => ∃ k : Nat, k ≤ n ∧ kv = .int .i64 k ∧ Hid (wr.ownsRow w1.heap.size 50 2 u (difN f f' k) (ivs (btL f f' k))) ∧ Hid (Below w1.heap.size w1 wr)) (fun _ kv _ => n - (intOf kv).toNat)
    case atStart => exact ⟨0, Nat.zero_le _, rfl, HO1, Lib.hid ((Below.refl _ _).alloc (Nat.le_refl _) _)⟩
    case round =>
      clear HO1
      obtain ⟨k, hk, rfl, HU, HB⟩ := hrel
      obtain ⟨Ao, co, rfl⟩ := owns_slice HU.out
      have hBz := HB.out.size
      have hdl := difN_le f f' k
      obtain ⟨hp, k0, k1, k2⟩ := HX1.out.below HB.out HX1.out.1
      by_cases hlt : k < n
      · obtain ⟨b, o, rfl, hbl, hc⟩ := (HR1.out.below HB.out (Nat.le_refl _)).2.2.2 (by omega)
        obtain ⟨b', o', rfl, hbl', hc'⟩ := (HR1'.out.below HB.out (Nat.le_refl _)).2.2.2 (by omega)
        have hck := hc k hlt
        have hck' := hc' k (by omega)
        clear hc hc'
        by_cases hd : f k = f' k
        · have hb : (f k != f' k) = false := by simp [hd]
          have HD := Lib.hid (btL_same hd)
          have HD2 := Lib.hid (dif_same hd)
          clear hd
          go_wp2
          go_roundw
          case rel => exact ⟨k + 1, by omega, by go_num, Lib.hid (by rw [HD.out, HD2.out]; exact HU.out), HB⟩
          case measure => simp [intOf]; omega
        · have hb : (f k != f' k) = true := by simp [hd]
          have HD := Lib.hid (btL_other hd)
          have HD2 := Lib.hid (dif_other hd)
          have hXa := Lib.hid ((Below.refl wr.heap.size wr).alloc (Nat.le_refl _) (.cells #[.int .i64 (k : Int), .int .i64 (f' k)] 50))
          have hsz : (wr.alloc (.cells #[.int .i64 (k : Int), .int .i64 (f' k)] 50)).heap.size = wr.heap.size + 1 := by simp
          clear hd
          go_wp2_with (first
            | (at_builtin; refine wpList_append_lies _ (by rfl) _ _ _ (by rfl) w1.heap.size 50 i2 _ 2 16 Try.underlying31 hi2 hz0 hz1 hz2 rfl (by omega) _ (difN f f' k) (ivs (btL f f' k)) (by rfl) (owns_belowS HU.out hXa.out) ⟨wr.heap.size, 0, none⟩ 1 1 [.int .i64 (k : Int), .int .i64 (f' k)] (by rfl) (by rfl) (World.news_of_block (cs := #[.int .i64 (k : Int), .int .i64 (f' k)]) (t := 50) (fr := (0, 0)) (heap_alloc_new wr _)) (fun u hu => by simp at hu; rcases hu with rfl | rfl <;> rfl) (by omega) (by unfold maxLen; omega) (by omega) (by simp; omega) (wr.heap.size + 1) (by simp) ?_; intro g6 cap6 w6 hown6 hgrow6 hat6 hlt6; have HOW := Lib.hid hown6; have HGR := Lib.hid hgrow6; have HAT := Lib.hid hat6; clear hown6 hgrow6 hat6))
          clear k0 k1 k2 hck hck'
          go_roundw
          case rel =>
            refine ⟨k + 1, by omega, by go_num, Lib.hid ?_, Lib.hid ((HB.out.trans (hXa.out.mono (by omega))).grown HGR.out (by omega) (fun b e => (HU.out.lt b e).1))⟩
            rw [HD.out, HD2.out, ivs_two]
            exact HOW.out
          case measure => simp [intOf]; omega
      · obtain rfl : k = n := by omega
        go_wp2
        go_ret2
        have ho := ownS_two (base' := w.heap.size) HU.out (btL_mem (P := fun z => (Lit.int .i64 z).wf = true) (fun j hj => ⟨WalkArith.wf_i64 (by omega), HWF.out j (by omega)⟩)) hL1 (by unfold maxLen; omega)
        exact ⟨_, _, rfl, ho, HL1.out.trans (HB.out.mono hL1)⟩
end Go.Proofs.Ytgdmojkfpghmnaa.Base
