/-
  impl's round: the iterator that gives the walkers of a curve.
-/
import Derived.Test.YtbpdjmjkjiddjaaDoorWsi
import Derived.Test.YtbpdjmjkjiddjaaDoorRfj
import Derived.Test.YtbpdjmjkjiddjaaDoorTrc
import Derived.Sort.CutIn
import Derived.Shelf.Abstract
namespace Go.Proofs.YtbpdjmjkjiddjaaDoor.Base
open Go Go.RowKit
set_option linter.unusedVariables false
set_option linter.unusedSimpArgs false
attribute [local go_sem] Oper.semAt_some

/-- what impl's round leaves: the two boxes that its function has captured -/
def RoundMade (h : Nat) (W H : Int) (A : Option Addr) (m c : Nat) (x y dx dy : Int) (w : World) (e : Ending) (w' : World) : Prop :=
  e = .returned (.func (.func 173) #[] #[.pointer (some ⟨h, 0, none⟩), .pointer (some ⟨h + 1, 0, none⟩)]) ∧
  At w' (h + 1) #[.func (.func 143) #[.agg #[.int .i64 W, .int .i64 H, .slice A m c]] #[]] 183 ∧ At w' h #[.int .i64 x, .int .i64 y, .int .i64 dx, .int .i64 dy] 131 ∧
  Below w.heap.size w w' ∧ w'.heap.size = h + 1 + 1
theorem impl_orbit (w : World) (W H : Int) (A : Option Addr) (m c : Nat) (x y dx dy : Int) :
    Calls Tryd.prog 142 #[.agg #[.int .i64 x, .int .i64 y, .int .i64 dx, .int .i64 dy], .func (.func 143) #[.agg #[.int .i64 W, .int .i64 H, .slice A m c]] #[]] w (RoundMade w.heap.size W H A m c x y dx dy w) := by
  go_enter Tryd.func142, Tryd.ntmps142
  go_wp2
  go_ret
  refine ⟨rfl, ?_, ?_, ?_, by simp⟩
  · have h := At.new (w.alloc (.cells #[.int .i64 x, .int .i64 y, .int .i64 dx, .int .i64 dy] 131)) #[.func (.func 143) #[.agg #[.int .i64 W, .int .i64 H, .slice A m c]] #[]] 183
    simpa using h
  · exact (At.new w _ _).below ((Below.refl _ _).alloc (Nat.le_refl _) _) (by simp)
  · exact ((Below.refl _ _).alloc (Nat.le_refl _) _).alloc (by simp) _
theorem impl_round (w : World) (W H : Int) (A : Option Addr) (m c : Nat) (x y dx dy : Int) :
    Calls Tryd.prog 96 #[.agg #[.int .i64 W, .int .i64 H, .slice A m c], .agg #[.int .i64 x, .int .i64 y, .int .i64 dx, .int .i64 dy]] w (RoundMade (w.heap.size + 1 + 1) W H A m c x y dx dy w) := by
  go_enter Tryd.func96, Tryd.ntmps96
  go_wp2_with fail
  refine (impl_orbit _ W H A m c x y dx dy).mono ?_
  rintro e w' ⟨rfl, h1, h2, h3, h4⟩
  simp only [World.size_alloc] at h1 h2 h3 h4
  have h5 := (((Below.refl w.heap.size w).alloc (Nat.le_refl _) (.cells #[.int .i64 W, .int .i64 H, .slice A m c] 35)).alloc (by simp) (.cells #[.int .i64 x, .int .i64 y, .int .i64 dx, .int .i64 dy] 131)).trans (h3.mono (by omega))
  go_wp2
  go_ret
  refine ⟨?_, h1, h2, h5, h4⟩
  simp only [World.size_alloc]
  rfl

set_option maxHeartbeats 4000000 in
theorem round_iter (n : Nat) (hn1 : 1 ≤ n) (w0 w : World) (W H : Int) (A : Option Addr) (m c : Nat) (f : Nat → Int) (x y dx dy : Int) (p4 p5 : Nat) (hr : Row .i64 w0 A m c f) (hT : Cel w0 0 [.int .i64 1, .int .i64 1, .int .i64 (-1), .int .i64 1, .int .i64 1, .int .i64 (-1)]) (hw : okW W H m f (x, y, dx, dy) = true) (N : Nat) (hN : IsPer W H f (x, y, dx, dy) N)
    (hb : Below w0.heap.size w0 w) (h4 : At w p4 #[.int .i64 x, .int .i64 y, .int .i64 dx, .int .i64 dy] 131) (h5 : At w p5 #[.func (.func 143) #[.agg #[.int .i64 W, .int .i64 H, .slice A m c]] #[]] 183) :
    IterY Fence.wide n Tryd.prog 173 #[.pointer (some ⟨p4, 0, none⟩), .pointer (some ⟨p5, 0, none⟩)] (fun k => #[wagg (stps W H f k (x, y, dx, dy))]) N w0.heap.size [p4, p5] w := fun l J Jx Wa hba hnew hJ hJx hset hY h0 => by
  refine callsIn_of_wp Tryd.func173 rfl trivial ?_ rfl
  simp only [Tryd.ntmps173, List.size_toArray, List.length_cons, List.length_nil, Nat.reduceAdd, Nat.reduceSub, Array.replicate_succ, Array.replicate_zero, List.push_toArray, List.append_toArray, List.nil_append, List.cons_append]
  have HA4 := Lib.hid (h4.below hba h4.lt)
  have HA5 := Lib.hid (h5.below hba h5.lt)
  have k40 : Wa.cell? ⟨p4, 0, none⟩ = some (.int .i64 x) := HA4.out.cellv (i := 0) rfl
  have k41 : Wa.cell? ⟨p4, 1, none⟩ = some (.int .i64 y) := HA4.out.cellv (i := 1) rfl
  have k42 : Wa.cell? ⟨p4, 2, none⟩ = some (.int .i64 dx) := HA4.out.cellv (i := 2) rfl
  have k43 : Wa.cell? ⟨p4, 3, none⟩ = some (.int .i64 dy) := HA4.out.cellv (i := 3) rfl
  have l4 := HA4.out.lt
  have l5 := HA5.out.lt
  obtain ⟨hW, hH, -, -, -, -, -, -⟩ := goW hw
  obtain ⟨hn, hK⟩ := goAll hw
  have HR := Lib.hid hr
  have HT := Lib.hid hT
  have HN := Lib.hid hn
  have HWK := Lib.hid hw
  have HNP := Lib.hid hN
  have HJ0 := Lib.hid h0
  have HJs := Lib.hid hJ
  have HJn := Lib.hid hnew
  have HJS := Lib.hid hset
  have HJx := Lib.hid hJx
  have HY := Lib.hid hY
  have HB := Lib.hid (hb.trans (hba.mono hb.size))
  have hN1 : 1 ≤ N := hN.1
  clear h4 h5 hr hT hn hw hN h0 hJ hnew hset hJx hY hb
  obtain ⟨fn, tm, assign, body, hy, hR⟩ := HY.out [] 0 Wa (by omega) HJ0.out
  have hy' : (Instr.yield l #[.agg #[.int .i64 x, .int .i64 y, .int .i64 dx, .int .i64 dy]]).run Tryd.prog Wa = .ok (.round l fn tm assign body) Wa := hy
  clear hy
  gi_wp2_with fail
  clear k40 k41 k42 k43
  refine hR.mono ?_
  clear hy' hR
  rintro e W1 (⟨rfl, hJ1, hk1⟩ | ⟨rfl, hJx1⟩)
  · have H41 := Lib.hid (HA4.out.of_block (hk1.box p4 (by simp) l4))
    have H51 := Lib.hid (HA5.out.of_block (hk1.box p5 (by simp) l5))
    have HB1 := Lib.hid (HB.out.trans hk1.below)
    have HJ1 := Lib.hid hJ1
    clear hJ1 hk1 HA4 HA5 HJ0 l4 l5 HB
    have k40 : W1.cell? ⟨p4, 0, none⟩ = some (.int .i64 x) := H41.out.cellv (i := 0) rfl
    have k41 : W1.cell? ⟨p4, 1, none⟩ = some (.int .i64 y) := H41.out.cellv (i := 1) rfl
    have k42 : W1.cell? ⟨p4, 2, none⟩ = some (.int .i64 dx) := H41.out.cellv (i := 2) rfl
    have k43 : W1.cell? ⟨p4, 3, none⟩ = some (.int .i64 dy) := H41.out.cellv (i := 3) rfl
    have k50 : W1.cell? ⟨p5, 0, none⟩ = some (.func (.func 143) #[.agg #[.int .i64 W, .int .i64 H, .slice A m c]] #[]) := H51.out.cellv (i := 0) rfl
    have l4 := H41.out.lt
    have l5 := H51.out.lt
    gi_wp2_with fail
    clear k40 k41 k42 k43 k50
    obtain ⟨-, -, x1, x2, y1, y2, g1, g2⟩ := goW HWK.out
    obtain ⟨h4, -⟩ := goNext HWK.out
    refine ⟨trivial, (callsIn_wide.2 (implStep W1 W H A m c f x y dx dy (HR.out.below HB1.out (Nat.le_refl _)) (HT.out.below HB1.out HT.out.1) HN.out hW hH x1 x2 y1 y2 g1 g2 h4 hK)).mono ?_⟩
    rintro e W2 ⟨rfl, b2⟩
    have H42 := Lib.hid (H41.out.below b2 l4)
    have H52 := Lib.hid (H51.out.below b2 l5)
    have HB2 := Lib.hid (HB1.out.trans (b2.mono HB1.out.size))
    have HJ2 := Lib.hid (HJs.out _ _ _ _ HJ1.out b2)
    have hsz2 := b2.size
    clear b2 H41 H51 HB1 HJ1 g1 g2 h4 x1 x2 y1 y2
    gi_wp2
    obtain ⟨v1, hv1⟩ : ∃ v1 : W4, v1 = stps W H f 1 (x, y, dx, dy) := ⟨_, rfl⟩
    have b3 := (Below.refl W2.heap.size W2).alloc (Nat.le_refl _) (.cells #[.int .i64 (x + dx), .int .i64 (y + dy), .int .i64 (stDX W H f x y dx dy), .int .i64 (stDY W H f x y dx dy)] 131)
    have HX3 : Hid (At (W2.alloc (.cells #[.int .i64 (x + dx), .int .i64 (y + dy), .int .i64 (stDX W H f x y dx dy), .int .i64 (stDY W H f x y dx dy)] 131)) W2.heap.size (cs4 (stps W H f 1 (x, y, dx, dy))).toArray 131) := Lib.hid (At.new _ _ _)
    have H43 := Lib.hid (H42.out.below b3 (by omega))
    have H53 := Lib.hid (H52.out.below b3 (by omega))
    have HB3 := Lib.hid (HB2.out.trans (b3.mono HB2.out.size))
    have HJ3 := Lib.hid (HJn.out _ _ _ _ W2.heap.size HJ2.out b3 (Nat.le_refl _) (by simp))
    have hb0 := HB2.out.size
    obtain ⟨V, hV⟩ : ∃ V, W2.heap.size = V := ⟨_, rfl⟩
    have hV4 : p4 ≠ V := by omega
    have hV5 : p5 ≠ V := by omega
    rw [hV] at HX3 HJ3 hb0 ⊢
    clear b3 hV H42 H52 HB2 HJ2 hsz2 l4 l5 hv1
    generalize W2.alloc (.cells #[.int .i64 (x + dx), .int .i64 (y + dy), .int .i64 (stDX W H f x y dx dy), .int .i64 (stDY W H f x y dx dy)] 131) = W3 at HX3 H43 H53 HB3 HJ3 ⊢
    gi_loopg [4] (N - 1) (fun g s4 wr => ∃ (k : Nat) (Y : List Nat) (b : Nat), s4 = .pointer (some ⟨b, 0, none⟩) ∧ k + g = N ∧ 1 ≤ k ∧ b ∈ Y ∧ w0.heap.size ≤ b ∧ p4 ≠ b ∧ p5 ≠ b ∧ Hid (J Y k wr) ∧ Hid (At wr b (cs4 (stps W H f k (x, y, dx, dy))).toArray 131) ∧ Hid (Below w0.heap.size w0 wr) ∧ Hid (At wr p4 #[.int .i64 x, .int .i64 y, .int .i64 dx, .int .i64 dy] 131) ∧ Hid (At wr p5 #[.func (.func 143) #[.agg #[.int .i64 W, .int .i64 H, .slice A m c]] #[]] 183))
    case atStart => exact ⟨1, [V], V, rfl, by omega, Nat.le_refl _, by simp, hb0, hV4, hV5, HJ3, HX3, HB3, H43, H53⟩
    case round =>
      clear HX3 H43 H53 HB3 HJ3 hV4 hV5 hb0
      obtain ⟨k, Y, b, rfl, hkg, hk1, hbY, hb0, hb4, hb5, HJk, HXk, HBk, H4k, H5k⟩ := hrel
      have hok := stps_ok (show okW W H m f (x, y, dx, dy) = true from HWK.out) k
      obtain ⟨v, hv⟩ : ∃ v, v = stps W H f k (x, y, dx, dy) := ⟨_, rfl⟩
      rw [← hv] at hok HXk
      have HVK := Lib.hid hv
      clear hv
      have q0 : wr.cell? ⟨b, 0, none⟩ = some (.int .i64 v.1) := HXk.out.cellv (i := 0) rfl
      have q1 : wr.cell? ⟨b, 1, none⟩ = some (.int .i64 v.2.1) := HXk.out.cellv (i := 1) rfl
      have q2 : wr.cell? ⟨b, 2, none⟩ = some (.int .i64 v.2.2.1) := HXk.out.cellv (i := 2) rfl
      have q3 : wr.cell? ⟨b, 3, none⟩ = some (.int .i64 v.2.2.2) := HXk.out.cellv (i := 3) rfl
      have k40 : wr.cell? ⟨p4, 0, none⟩ = some (.int .i64 x) := H4k.out.cellv (i := 0) rfl
      have k41 : wr.cell? ⟨p4, 1, none⟩ = some (.int .i64 y) := H4k.out.cellv (i := 1) rfl
      have k42 : wr.cell? ⟨p4, 2, none⟩ = some (.int .i64 dx) := H4k.out.cellv (i := 2) rfl
      have k43 : wr.cell? ⟨p4, 3, none⟩ = some (.int .i64 dy) := H4k.out.cellv (i := 3) rfl
      have lb := HXk.out.lt
      have l4 := H4k.out.lt
      by_cases hlt : k < N
      · gi_upto_region 2 with (fail)
        gi_cut [14] from 12 (fun s14 wx => s14 = .bool true ∧ wr = wx)
        case first =>
          gi_wp2_with fail
          all_goals first
            | (gi_meet; exact ⟨rfl, rfl⟩)
            | (exfalso; exact HNP.out.2.2.2 k (by omega) hlt (by rw [← HVK.out]; simp [Prod.ext_iff, *]))
        case rest =>
          obtain ⟨rfl, rfl⟩ := hcut
          clear k40 k41 k42 k43
          obtain ⟨fn, tm, assign, body, hy, hR⟩ := HY.out Y k wr hlt HJk.out
          rw [← HVK.out] at hy
          have hy' : (Instr.yield l #[.agg #[.int .i64 v.1, .int .i64 v.2.1, .int .i64 v.2.2.1, .int .i64 v.2.2.2]]).run Tryd.prog wr = .ok (.round l fn tm assign body) wr := hy
          clear hy
          gi_wp2_with fail
          clear q0 q1 q2 q3
          refine hR.mono ?_
          clear hy' hR
          rintro e W5 (⟨rfl, hJ5, hk5⟩ | ⟨rfl, hJx5⟩)
          · have HX5 := Lib.hid (HXk.out.of_block (hk5.box b (by simp [hbY]) lb))
            have H45 := Lib.hid (H4k.out.of_block (hk5.box p4 (by simp) l4))
            have H55 := Lib.hid (H5k.out.of_block (hk5.box p5 (by simp) H5k.out.lt))
            have HB5 := Lib.hid (HBk.out.trans hk5.below)
            have HJ5 := Lib.hid hJ5
            clear hJ5 hk5 HXk H4k H5k HBk HJk lb l4
            have q0 : W5.cell? ⟨b, 0, none⟩ = some (.int .i64 v.1) := HX5.out.cellv (i := 0) rfl
            have q1 : W5.cell? ⟨b, 1, none⟩ = some (.int .i64 v.2.1) := HX5.out.cellv (i := 1) rfl
            have q2 : W5.cell? ⟨b, 2, none⟩ = some (.int .i64 v.2.2.1) := HX5.out.cellv (i := 2) rfl
            have q3 : W5.cell? ⟨b, 3, none⟩ = some (.int .i64 v.2.2.2) := HX5.out.cellv (i := 3) rfl
            have k50 : W5.cell? ⟨p5, 0, none⟩ = some (.func (.func 143) #[.agg #[.int .i64 W, .int .i64 H, .slice A m c]] #[]) := H55.out.cellv (i := 0) rfl
            have l4 := H45.out.lt
            have l5 := H55.out.lt
            gi_wp2_with fail
            clear q0 q1 q2 q3 k50
            obtain ⟨-, -, x1, x2, y1, y2, g1, g2⟩ := goW hok
            obtain ⟨h4, -⟩ := goNext hok
            have b6 := (Below.refl W5.heap.size W5).alloc (Nat.le_refl _) (.cells #[.int .i64 v.1, .int .i64 v.2.1, .int .i64 v.2.2.1, .int .i64 v.2.2.2] 131)
            have HX6 : Hid (At (W5.alloc (.cells #[.int .i64 v.1, .int .i64 v.2.1, .int .i64 v.2.2.1, .int .i64 v.2.2.2] 131)) W5.heap.size (cs4 v).toArray 131) := Lib.hid (At.new _ _ _)
            have H46 := Lib.hid (H45.out.below b6 l4)
            have H56 := Lib.hid (H55.out.below b6 l5)
            have HB6 := Lib.hid (HB5.out.trans (b6.mono HB5.out.size))
            have HJ6 := Lib.hid (HJn.out _ _ _ _ W5.heap.size HJ5.out b6 (Nat.le_refl _) (by simp))
            have hb5' := HB5.out.size
            obtain ⟨V2, hV⟩ : ∃ V2, W5.heap.size = V2 := ⟨_, rfl⟩
            have hV4 : p4 ≠ V2 := by omega
            have hV5 : p5 ≠ V2 := by omega
            have hV2 : w0.heap.size ≤ V2 := by omega
            rw [hV] at HX6 HJ6 ⊢
            clear b6 hV H45 H55 HB5 HJ5 HX5 l4 l5 hb5'
            generalize W5.alloc (.cells #[.int .i64 v.1, .int .i64 v.2.1, .int .i64 v.2.2.1, .int .i64 v.2.2.2] 131) = W6 at HX6 H46 H56 HB6 HJ6 ⊢
            refine ⟨trivial, (callsIn_wide.2 (implStep W6 W H A m c f v.1 v.2.1 v.2.2.1 v.2.2.2 (HR.out.below HB6.out (Nat.le_refl _)) (HT.out.below HB6.out HT.out.1) HN.out hW hH x1 x2 y1 y2 g1 g2 h4 hK)).mono ?_⟩
            rintro e W7 ⟨rfl, b7⟩
            have HX7 := Lib.hid (HX6.out.below b7 HX6.out.lt)
            have H47 := Lib.hid (H46.out.below b7 H46.out.lt)
            have H57 := Lib.hid (H56.out.below b7 H56.out.lt)
            have HB7 := Lib.hid (HB6.out.trans (b7.mono HB6.out.size))
            have HJ7 := Lib.hid (HJs.out _ _ _ _ HJ6.out b7)
            clear b7 HX6 H46 H56 HB6 HJ6
            have q0 : W7.cell? ⟨V2, 0, none⟩ = some (.int .i64 v.1) := HX7.out.cellv (i := 0) rfl
            have q1 : W7.cell? ⟨V2, 1, none⟩ = some (.int .i64 v.2.1) := HX7.out.cellv (i := 1) rfl
            have q2 : W7.cell? ⟨V2, 2, none⟩ = some (.int .i64 v.2.2.1) := HX7.out.cellv (i := 2) rfl
            have q3 : W7.cell? ⟨V2, 3, none⟩ = some (.int .i64 v.2.2.2) := HX7.out.cellv (i := 3) rfl
            have f0 := HX7.out.frozen 0
            have f1 := HX7.out.frozen 1
            have f2 := HX7.out.frozen 2
            have f3 := HX7.out.frozen 3
            have lV := HX7.out.lt
            gi_wp2
            clear q0 q1 q2 q3 f0 f1 f2 f3
            gi_roundg (gk - 1)
            case measure => omega
            case rel =>
              have es : stps W H f (k + 1) (x, y, dx, dy) = stp W H f v := congrArg (stp W H f) HVK.out.symm
              refine ⟨k + 1, V2 :: Y, V2, rfl, by omega, by omega, by simp, hV2, hV4, hV5, Lib.hid ?_, Lib.hid ?_, Lib.hid ?_, Lib.hid ?_, Lib.hid ?_⟩
              · exact HJS.out _ _ _ _ _ _ (by simp) (HJS.out _ _ _ _ _ _ (by simp) (HJS.out _ _ _ _ _ _ (by simp) (HJS.out _ _ _ _ _ _ (by simp) HJ7.out)))
              · rw [es]
                exact at_set4 HX7.out rfl
              · exact (((HB7.out.setCell (p := ⟨V2, 0, none⟩) hV2 _).setCell (p := ⟨V2, 1, none⟩) hV2 _).setCell (p := ⟨V2, 2, none⟩) hV2 _).setCell (p := ⟨V2, 3, none⟩) hV2 _
              · exact (((H47.out.setOther (a := ⟨V2, 0, none⟩) (fun e => hV4 e.symm) _).setOther (a := ⟨V2, 1, none⟩) (fun e => hV4 e.symm) _).setOther (a := ⟨V2, 2, none⟩) (fun e => hV4 e.symm) _).setOther (a := ⟨V2, 3, none⟩) (fun e => hV4 e.symm) _
              · exact (((H57.out.setOther (a := ⟨V2, 0, none⟩) (fun e => hV5 e.symm) _).setOther (a := ⟨V2, 1, none⟩) (fun e => hV5 e.symm) _).setOther (a := ⟨V2, 2, none⟩) (fun e => hV5 e.symm) _).setOther (a := ⟨V2, 3, none⟩) (fun e => hV5 e.symm) _
          · have HJ5 := Lib.hid hJx5
            clear hJx5
            gi_wp2
            refine bodyPost_ret (results_none rfl _ _ _) rfl ?_
            exact ⟨⟨_, rfl⟩, .inr ⟨k + 1, hlt, HJ5.out⟩⟩
      · have ek : k = N := by omega
        have ev : v = (x, y, dx, dy) := by rw [HVK.out, ek]; exact HNP.out.2.2.1
        subst ev
        simp only at q0 q1 q2 q3
        gi_wp2
        go_end0
        exact ⟨⟨_, rfl⟩, .inl ⟨Y, by rw [← ek]; exact HJk.out⟩⟩
  · have HJ5 := Lib.hid hJx1
    clear hJx1
    gi_wp2
    refine bodyPost_ret (results_none rfl _ _ _) rfl ?_
    exact ⟨⟨_, rfl⟩, .inr ⟨1, hN1, HJ5.out⟩⟩
end Go.Proofs.YtbpdjmjkjiddjaaDoor.Base
