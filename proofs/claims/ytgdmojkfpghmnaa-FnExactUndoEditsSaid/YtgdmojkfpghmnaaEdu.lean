/-
  The edits that lead back: UndoEdits, both sides.
-/
import Derived.Test.YtgdmojkfpghmnaaEda
import Derived.Test.YtgdmojkfpghmnaaEdb
import Derived.Deep.AppendLies
import Derived.Deep.RegionLaw
import Derived.IntWalk
namespace Go.Proofs.Ytgdmojkfpghmnaa.Base
open Go Go.RowKit
set_option linter.unusedVariables false
set_option linter.unusedSimpArgs false

theorem region_edge {P : Program} {c : Code} {Q : Exit → Act → World → Prop} {a : Act} {w : World} (h : c.wp P (Exit.then (fun a w => Q .normal a w) (fun _ _ _ => False)) a w) : c.wp P Q a w :=
  wp_mono h (fun e a w hq => by cases e with
    | normal => exact hq
    | _ => exact hq.elim)
theorem ed_ge {n m : Nat} {f g : Nat → Int} (h : edB n f g m = true) : ∀ i, i < m → (i : Int) ≤ g (i * 2)
  | 0, hi => (ed_num h hi).1
  | i + 1, hi => by
    have h1 := ed_ge h i (by omega)
    have h2 : g (i * 2) < g ((i + 1) * 2) := ed_lt h (Nat.lt_succ_self i) hi
    omega
theorem ed_len {n m : Nat} {f g : Nat → Int} (h : edB n f g m = true) : m ≤ n := by
  rcases Nat.eq_zero_or_pos m with rfl | hm
  · exact Nat.zero_le _
  · have h1 := ed_ge h (m - 1) (by omega)
    have h2 := (ed_num h (i := m - 1) (by omega)).2
    omega
theorem dif_back {n m : Nat} {f g : Nat → Int} (h : edB n f g m = true) : difN (apF f g m) f n = m := by
  have h1 := btL_dif (apF f g m) f n
  rw [btL_back h, unL_len] at h1
  omega
theorem edV_mk {W H : Int} {n m : Nat} {f g : Nat → Int} (h : edV W H n f g m = true) : validB W H n f = true ∧ edB n f g m = true := by simpa [edV] using h
theorem spec_undoE_bad (w : World) (W H : Int) (A : Option Addr) (n c : Nat) (f : Nat → Int) (E : Option Addr) (m d : Nat) (g : Nat → Int) (hr : Row .i64 w A n c f) (hE : RowS 2 w E m d g) (hv : edV W H n f g m = false) (F : Nat → Int) : Calls Try.prog 23 #[.agg #[.int .i64 W, .int .i64 H, .slice A n c], .slice E m d] w (ListOut 2 0 F 1 w.heap.size w) := by
  have HL := Lib.hid (show Below w.heap.size w (w.alloc (.cells #[.int .i64 W, .int .i64 H, .slice A n c] 29)) from (Below.refl _ _).alloc (Nat.le_refl _) _)
  have HR := Lib.hid (hr.below HL.out (Nat.le_refl _))
  have HE := Lib.hid (hE.below HL.out (Nat.le_refl _))
  have HV := Lib.hid hv
  clear hr hE hv
  go_enter Try.func23, Try.ntmps23
  go_wp2_with fail
  refine (specValidEdits_is HV.out HR.out HE.out).mono ?_
  rintro e w1 ⟨rfl, b1⟩
  go_wp2
  go_ret2
  exact ⟨none, 0, rfl, ownS_nil 2 _ _ _, HL.out.trans (b1.mono HL.out.size)⟩
theorem spec_undoE_ok (w : World) (W H : Int) (A : Option Addr) (n c : Nat) (f : Nat → Int) (E : Option Addr) (m d : Nat) (g : Nat → Int) (hr : Row .i64 w A n c f) (hE : RowS 2 w E m d g) (hv : edV W H n f g m = true) : Calls Try.prog 23 #[.agg #[.int .i64 W, .int .i64 H, .slice A n c], .slice E m d] w (ListOut 2 m (fun i => (unL g f m).getD i 0) 0 w.heap.size w) := by
  obtain ⟨hv1, hk⟩ := edV_mk hv
  have hn2 : n ≤ 1048576 := by
    obtain ⟨h1, h2, h3, -⟩ := validB_yes hv1
    have := inner_bd' h1 h2
    omega
  have HL := Lib.hid (show Below w.heap.size w (w.alloc (.cells #[.int .i64 W, .int .i64 H, .slice A n c] 29)) from (Below.refl _ _).alloc (Nat.le_refl _) _)
  have HR := Lib.hid (hr.below HL.out (Nat.le_refl _))
  have HE := Lib.hid (hE.below HL.out (Nat.le_refl _))
  have HX := Lib.hid (Box.new w 29 W H A n c)
  have HV := Lib.hid hv
  have HK := Lib.hid hk
  have e1 := dif_back hk
  have e2 := btL_back hk
  rw [← e2]
  have E1 := Lib.hid e1
  clear hr hE hv hk hv1 e1 e2
  go_enter Try.func23, Try.ntmps23
  go_wp2_with fail
  refine (specValidEdits_is HV.out HR.out HE.out).mono ?_
  rintro e w1 ⟨rfl, b1⟩
  have HX1 := Lib.hid (HX.out.below b1 HX.out.1)
  have HR1 := Lib.hid (HR.out.below b1 (Nat.le_refl _))
  have HE1 := Lib.hid (HE.out.below b1 (Nat.le_refl _))
  have HL1 := Lib.hid (HL.out.trans (b1.mono HL.out.size))
  clear b1 HX HR HE HL
  go_wp2_with fail
  refine (spec_apply _ w.heap.size W H A n c f E m d g HX1.out HR1.out HE1.out hn2 HK.out).mono ?_
  rintro e w2 ⟨A2, c2, rfl, hO, b2⟩
  have bN := (Below.refl w2.heap.size w2).alloc (Nat.le_refl _) (.cells #[.int .i64 W, .int .i64 H, .slice A2 n c2] 29)
  have HY3 := Lib.hid (Box.new w2 29 W H A2 n c2)
  have HX3 := Lib.hid ((HX1.out.below b2 HX1.out.1).below bN (HX1.out.below b2 HX1.out.1).1)
  have HR3 := Lib.hid ((HR1.out.below b2 (Nat.le_refl _)).below bN (Nat.le_refl _))
  have HQ3 := Lib.hid (hO.row.below bN (Nat.le_refl _))
  have HL3 := Lib.hid ((HL1.out.trans (b2.mono HL1.out.size)).trans (bN.mono (HL1.out.trans (b2.mono HL1.out.size)).size))
  have z3 := HL3.out.size
  clear b2 bN hO HX1 HR1 HE1 HL1
  obtain ⟨hp, k0, k1, k2⟩ := id HX3.out
  obtain ⟨hq, l0, l1, l2⟩ := id HY3.out
  go_wp2_with fail
  clear k0 k1 k2 l0 l1 l2
  refine (spec_between _ _ _ W H W H A2 A n c2 n c (apF f g m) f HY3.out HX3.out HQ3.out HR3.out (Nat.le_refl _) hn2).mono ?_
  rw [E1.out]
  rintro e w3 ⟨A3, c3, rfl, ho, b3⟩
  have HO := Lib.hid ho
  have HB := Lib.hid b3
  clear ho b3
  go_wp2
  go_ret2
  exact ⟨A3, c3, rfl, ⟨HO.out.1, HO.out.2.1, HO.out.2.2.1, fun h => by obtain ⟨b, o, e1, e2, e3⟩ := HO.out.2.2.2 h; exact ⟨b, o, e1, by omega, e3⟩⟩, HL3.out.trans (HB.out.mono z3)⟩
theorem impl_undoE_bad (w : World) (W H : Int) (A : Option Addr) (n c : Nat) (f : Nat → Int) (E : Option Addr) (m d : Nat) (g : Nat → Int) (hr : Row .i64 w A n c f) (hE : RowS 2 w E m d g) (hv : edV W H n f g m = false) (F : Nat → Int) : Calls Try.prog 24 #[.agg #[.int .i64 W, .int .i64 H, .slice A n c], .slice E m d] w (ListOut 2 0 F 1 w.heap.size w) := by
  have HL := Lib.hid (show Below w.heap.size w (w.alloc (.cells #[.int .i64 W, .int .i64 H, .slice A n c] 29)) from (Below.refl _ _).alloc (Nat.le_refl _) _)
  have HR := Lib.hid (hr.below HL.out (Nat.le_refl _))
  have HE := Lib.hid (hE.below HL.out (Nat.le_refl _))
  have HV := Lib.hid hv
  clear hr hE hv
  go_enter Try.func24, Try.ntmps24
  go_wp2_with fail
  refine (validEdits_is HV.out HR.out HE.out).mono ?_
  rintro e w1 ⟨rfl, b1⟩
  go_wp2
  go_ret2
  exact ⟨none, 0, rfl, ownS_nil 2 _ _ _, HL.out.trans (b1.mono HL.out.size)⟩
theorem unL_next (g q : Nat → Int) (k : Nat) : unL g q (k + 1) = unL g q k ++ [g (k * 2), q (g (k * 2)).toNat] := rfl
set_option maxHeartbeats 4000000 in
set_option maxRecDepth 100000 in
theorem impl_undoE_ok (w : World) (W H : Int) (A : Option Addr) (n c : Nat) (f : Nat → Int) (E : Option Addr) (m d : Nat) (g : Nat → Int) (hr : Row .i64 w A n c f) (hE : RowS 2 w E m d g) (hv : edV W H n f g m = true) : Calls Try.prog 24 #[.agg #[.int .i64 W, .int .i64 H, .slice A n c], .slice E m d] w (ListOut 2 m (fun i => (unL g f m).getD i 0) 0 w.heap.size w) := by
  obtain ⟨hv1, hk⟩ := edV_mk hv
  have hn2 : n ≤ 200 := by
    obtain ⟨h1, h2, h3, -⟩ := validB_yes hv1
    have := inner_bd' h1 h2
    omega
  have hml := ed_len hk
  have HL := Lib.hid (show Below w.heap.size w (w.alloc (.cells #[.int .i64 W, .int .i64 H, .slice A n c] 29)) from (Below.refl _ _).alloc (Nat.le_refl _) _)
  have HR := Lib.hid (hr.below HL.out (Nat.le_refl _))
  have HE := Lib.hid (hE.below HL.out (Nat.le_refl _))
  have HX := Lib.hid (Box.new w 29 W H A n c)
  have HV := Lib.hid hv
  have HK := Lib.hid hk
  have HWF := Lib.hid hr.2.2.1
  have hnc := hr.1
  have hcm := hr.2.1
  have hmd := hE.1
  have hmc := hE.2.1
  unfold maxLen at hcm hmc
  obtain ⟨i2, hi2, hz0, hz1, hz2⟩ := info_parts infoEd
  clear hr hE hv hk hv1
  go_enter Try.func24, Try.ntmps24
  go_wp2_with fail
  refine (validEdits_is HV.out HR.out HE.out).mono ?_
  rintro e w1 ⟨rfl, b1⟩
  have HX1 := Lib.hid (HX.out.below b1 HX.out.1)
  have HR1 := Lib.hid (HR.out.below b1 (Nat.le_refl _))
  have HE1 := Lib.hid (HE.out.below b1 (Nat.le_refl _))
  have HL1 := Lib.hid (HL.out.trans (b1.mono HL.out.size))
  have z1 := HL1.out.size
  clear b1 HX HR HE HL
  go_wp2_with (first
    | (at_make; refine wpList_make_own _ rfl (.const (.int .i64 0)) (.tmp 14) 31 rfl w1.heap.size 50 i2 _ 2 Try.underlying31 hi2 hz0 hz1 .i64 .i64 (m : Int) m (by rfl) (by rfl) (by rfl) (by rw [hz2]; omega) (by unfold maxLen; omega) (Nat.le_refl _) ?_; intro w4 hown4 hgrow4; have HO1 := Lib.hid hown4; have HB1 : Hid (Below w1.heap.size w1 w4) := Lib.hid ((Below.refl w1.heap.size w1).grown hgrow4 (Nat.le_refl _) (fun b e => by cases e)); clear hown4 hgrow4))
  go_loopw [6, 18] (fun u kv wr => ∃ k : Nat, k ≤ m ∧ kv = .int .i64 k ∧ Hid (wr.ownsRow w1.heap.size 50 2 u k (ivs (unL g f k))) ∧ Hid (Below w1.heap.size w1 wr)) (fun _ kv _ => m - (intOf kv).toNat)
  case atStart => exact ⟨0, Nat.zero_le _, rfl, HO1, HB1⟩
  case round =>
    clear HO1 HB1
    obtain ⟨k, hk, rfl, HU, HB⟩ := hrel
    obtain ⟨Ao, co, rfl⟩ := owns_slice HU.out
    have hBz := HB.out.size
    by_cases hlt : k < m
    · obtain ⟨b, o, rfl, hbl, hc⟩ := (HE1.out.below HB.out (Nat.le_refl _)).2.2.2 (by omega)
      obtain ⟨a0, a1⟩ := ed_num HK.out hlt
      obtain ⟨a, ha⟩ : ∃ a : Nat, g (k * 2) = a := ⟨(g (k * 2)).toNat, by omega⟩
      obtain ⟨z, hz⟩ : ∃ z, g (k * 2 + 1) = z := ⟨_, rfl⟩
      have c0 := hc (k * 2) (by omega)
      have c1 := hc (k * 2 + 1) (by omega)
      simp only [← Nat.add_assoc] at c1
      rw [ha] at c0 a0 a1
      rw [hz] at c1
      have HA := Lib.hid ha
      clear hc ha hz
      have han : a < n := by omega
      have hn0 : 0 < n := by omega
      go_wp2_with fail
      clear c0 c1
      have bN := (Below.refl wr.heap.size wr).alloc (Nat.le_refl _) (.cells #[.int .i64 (a : Int), .int .i64 z] 50)
      have HK3 := Lib.hid (At.new wr #[.int .i64 (a : Int), .int .i64 z] 50)
      have HX3 := Lib.hid ((HX1.out.below HB.out HX1.out.1).below bN (HX1.out.below HB.out HX1.out.1).1)
      have HR3 := Lib.hid ((HR1.out.below HB.out (Nat.le_refl _)).below bN (Nat.le_refl _))
      have HU3 := Lib.hid (owns_belowS HU.out bN)
      have HB3 := Lib.hid (HB.out.trans (bN.mono hBz))
      have HLT := Lib.hid (fun b e => HU.out.lt b e)
      clear bN HU HB
      generalize wr.alloc (.cells #[.int .i64 (a : Int), .int .i64 z] 50) = w3 at *
      obtain ⟨be, hbe⟩ : ∃ be, wr.heap.size = be := ⟨_, rfl⟩
      rw [hbe] at HK3 hBz ⊢
      clear hbe
      have k0 : w3.cell? ⟨be, 0, none⟩ = some (.int .i64 (a : Int)) := HK3.out.cellv (i := 0) rfl
      have kz := HK3.out.lt
      obtain ⟨hp, -, -, x2⟩ := HX3.out
      obtain ⟨b2, o2, rfl, hb2, hc2⟩ := HR3.out.2.2.2 hn0
      obtain ⟨qq, hqq⟩ : ∃ q, f a = q := ⟨_, rfl⟩
      have e2 := hc2 a han
      rw [hqq] at e2
      have HQ := Lib.hid hqq
      clear hc2 hqq
      go_wp2_with fail
      refine region_edge ?_
      go_region_law (refine step_append_lies (w3.drew.alloc (.cells #[.int .i64 (a : Int), .int .i64 qq] 50)) (by rfl) (.tmp 22) (.tmp 32) 31 (by rfl) w1.heap.size 50 i2 _ 2 16 Try.underlying31 hi2 hz0 hz1 hz2 rfl (by omega) (.slice Ao k co) k (ivs (unL g f k)) (by rfl) (HU3.out.drew.alloc _) ⟨w3.heap.size, 0, none⟩ 1 1 [.int .i64 (a : Int), .int .i64 qq] (by rfl) (by rfl) (World.news_of_block (cs := #[.int .i64 (a : Int), .int .i64 qq]) (t := 50) (fr := (0, 0)) (heap_alloc_new w3.drew _)) (fun u hu => by simp at hu; rcases hu with rfl | rfl <;> rfl) (by omega) (by unfold maxLen; omega) (by omega) (by simp; omega) (w3.heap.size + 1) (by simp) ?_; intro g6 cap6 w6 hown6 hgrow6 hat6 hlt6; have HOW := Lib.hid hown6; have HGR := Lib.hid hgrow6; clear hown6 hgrow6 hat6)
      all_goals
        clear k0 x2 e2
        go_wp2
        go_roundw
        case rel =>
          refine ⟨k + 1, by omega, by go_num, Lib.hid ?_, Lib.hid (((HB3.out.drew).alloc (by show _ ≤ w3.heap.size; omega) _).grown HGR.out (by simp; omega) (fun b e => (HLT.out b e).1))⟩
          rw [unL_next, ivs_two, HA.out, Int.toNat_natCast, HQ.out]
          exact HOW.out
        case measure => simp [intOf]; omega
    · obtain rfl : k = m := by omega
      go_wp2
      go_ret2
      have ho := ownS_two (base' := w.heap.size) HU.out (unL_mem (P := fun z => (Lit.int .i64 z).wf = true) (fun j hj => by
        obtain ⟨q1, q2⟩ := ed_num HK.out hj
        exact ⟨WalkArith.wf_i64 (by omega), HWF.out _ (by omega)⟩)) z1 (by unfold maxLen; omega)
      exact ⟨_, _, rfl, ho, HL1.out.trans (HB.out.mono z1)⟩
end Go.Proofs.Ytgdmojkfpghmnaa.Base
