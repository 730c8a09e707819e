/-
  Crossings of curves: spec's.
-/
import Derived.Test.YtbpdjmjkjiddjaaDoorTch
import Derived.Test.YtbpdjmjkjiddjaaDoorEvn
namespace Go.Proofs.YtbpdjmjkjiddjaaDoor.Base
open Go Go.RowKit
set_option linter.unusedVariables false
set_option linter.unusedSimpArgs false

/-- the curves of the segments at a point: upper left, upper right, lower left, lower right -/
def me0 (H : Int) (g : Nat → Int) (x y : Int) : Int := g (segOf H x y (-1) (-1)).toNat
def me1 (H : Int) (g : Nat → Int) (x y : Int) : Int := g (segOf H x y 1 (-1)).toNat
def me2 (H : Int) (g : Nat → Int) (x y : Int) : Int := g (segOf H x y (-1) 1).toNat
def me3 (H : Int) (g : Nat → Int) (x y : Int) : Int := g (segOf H x y 1 1).toNat
def meL (H : Int) (g : Nat → Int) (x y : Int) (k : Nat) : List Int := [me0 H g x y, me1 H g x y, me2 H g x y, me3 H g x y].take k
def MeetOut (H : Int) (g : Nat → Int) (x y : Int) (w : World) (e : Ending) (w' : World) : Prop :=
  ∃ b c, e = .returned (.slice (some ⟨b, 0, none⟩) 4 c) ∧ b < w'.heap.size ∧ w'.cell? ⟨b, 0, none⟩ = some (.int .i64 (me0 H g x y)) ∧ w'.cell? ⟨b, 1, none⟩ = some (.int .i64 (me1 H g x y)) ∧
    w'.cell? ⟨b, 2, none⟩ = some (.int .i64 (me2 H g x y)) ∧ w'.cell? ⟨b, 3, none⟩ = some (.int .i64 (me3 H g x y)) ∧ Below w.heap.size w w'
/-- the four segments at an inner point -/
structure SegsIn (H : Int) (M : Nat) (x y : Int) : Prop where
  s0 : 0 ≤ segOf H x y (-1) (-1) ∧ segOf H x y (-1) (-1) < M
  s1 : 0 ≤ segOf H x y 1 (-1) ∧ segOf H x y 1 (-1) < M
  s2 : 0 ≤ segOf H x y (-1) 1 ∧ segOf H x y (-1) 1 < M
  s3 : 0 ≤ segOf H x y 1 1 ∧ segOf H x y 1 1 < M
set_option maxHeartbeats 2000000 in
theorem spec_meet (w : World) (p b : Nat) (W H : Int) (A : Option Addr) (n c M : Nat) (g : Nat → Int) (x y : Int) (hb : Box w p W H A n c) (ho : w.rowIs b 2 M (fun s => .int .i64 (g s))) (hH : sideB H = true)
    (x1 : 1 ≤ x) (x2 : x ≤ 16) (y1 : 1 ≤ y) (y2 : y ≤ 16) (hs : SegsIn H M x y) (hM : M ≤ 256) :
    Calls Tryd.prog 109 #[.pointer (some ⟨p, 0, none⟩), .slice (some ⟨b, 0, none⟩) M M, .agg #[.int .i64 x, .int .i64 y]] w (MeetOut H g x y w) := by
  have HX := Lib.hid hb
  have HO := Lib.hid ho
  have HS := Lib.hid hs
  have hbl := ho.lt
  clear hb ho hs
  go_enter Tryd.func109, Tryd.ntmps109
  go_wp2
  have HA := Lib.hid (show Below w.heap.size w (w.alloc (.cells #[.int .i64 x, .int .i64 y] 61)) from (Below.refl _ _).alloc (Nat.le_refl _) _)
  have HP := Lib.hid (At.new w #[.int .i64 x, .int .i64 y] 61)
  have hz1 : (w.alloc (.cells #[.int .i64 x, .int .i64 y] 61)).heap.size = w.heap.size + 1 := by simp
  have HO1 := Lib.hid (owns_new0 (X := w.alloc (.cells #[.int .i64 x, .int .i64 y] 61)) (e := 2) (s := 1) (base := w.heap.size + 1) hz1 (Nat.le_refl _))
  have HB1 := Lib.hid (show Below (w.heap.size + 1) (w.alloc (.cells #[.int .i64 x, .int .i64 y] 61)) ((w.alloc (.cells #[.int .i64 x, .int .i64 y] 61)).alloc (.cells #[] 2)) from (Below.refl _ _).alloc (by simp) _)
  obtain ⟨i2, hi2, hz0, hza, hzb⟩ := info_parts infoI64
  generalize w.alloc (.cells #[.int .i64 x, .int .i64 y] 61) = w1 at HA HP hz1 HO1 HB1 ⊢
  go_loopw [7, 8] (fun u kv wr => ∃ k : Nat, k ≤ 4 ∧ kv = .int .i64 k ∧ Hid (wr.ownsRow (w.heap.size + 1) 2 1 u k (ivs (meL H g x y k))) ∧ Hid (Below (w.heap.size + 1) w1 wr)) (fun _ kv _ => 9 - (intOf kv).toNat)
  case atStart => exact ⟨0, by omega, rfl, HO1.out, HB1.out⟩
  case round =>
    clear HO1 HB1
    obtain ⟨k, hk, rfl, HU, HB⟩ := hrel
    have HPr := Lib.hid (HP.out.below (HB.out.mono (Nat.le_refl _)) (by omega))
    have q0 : wr.cell? ⟨w.heap.size, 0, none⟩ = some (.int .i64 x) := HPr.out.cellv (i := 0) rfl
    have q1 : wr.cell? ⟨w.heap.size, 1, none⟩ = some (.int .i64 y) := HPr.out.cellv (i := 1) rfl
    have lq := HPr.out.lt
    have HBw := Lib.hid (HA.out.trans (HB.out.mono (Nat.le_succ _)))
    have hBz := HB.out.size
    obtain ⟨Ao, co, rfl⟩ := owns_slice HU.out
    rcases (show k = 0 ∨ k = 1 ∨ k = 2 ∨ k = 3 ∨ k = 4 by omega) with rfl | rfl | rfl | rfl | rfl
    · go_wp2_with fail
      obtain ⟨t1, t2⟩ := HS.out.s0
      obtain ⟨s, hs⟩ : ∃ s : Nat, segOf H x y (-1) (-1) = s := ⟨(segOf H x y (-1) (-1)).toNat, by omega⟩
      have hg : me0 H g x y = g s := by unfold me0; rw [hs]; rfl
      rw [hs] at t1 t2
      have X2 := (Below.refl wr.heap.size wr).alloc (Nat.le_refl _) (.cells #[.int .i64 x, .int .i64 y, .int .i64 (-1), .int .i64 (-1)] 131)
      have HBX := Lib.hid (HBw.out.trans (X2.mono HBw.out.size))
      refine (specSeg _ p W H A n c x y (-1) (-1) (HX.out.below HBX.out HX.out.1) hH (by omega) x2 (by omega) y2 (by omega) (by omega) rfl rfl).mono ?_
      rintro e w3 ⟨rfl, b3⟩
      have X3 := X2.trans (b3.mono X2.size)
      have HU3 := Lib.hid (owns_belowS HU.out X3)
      have HB3 := Lib.hid (HB.out.trans (X3.mono (by omega)))
      have HO3 := Lib.hid (rowIs_below HO.out (HBw.out.trans (X3.mono HBw.out.size)) hbl)
      have c3 := HO3.out.cell (show s < M by omega)
      have l3 := HO3.out.lt
      have hz3 := HB3.out.size
      rw [hs]
      clear X2 X3 b3 q0 q1 lq
      have hXa := Lib.hid ((Below.refl w3.heap.size w3).alloc (Nat.le_refl _) (.cells #[.int .i64 (g s)] 2))
      have hsz : (w3.alloc (.cells #[.int .i64 (g s)] 2)).heap.size = w3.heap.size + 1 := by simp
      have HG := Lib.hid hg
      clear hg hs
      go_wp2_with (first
        | (at_builtin; refine wpList_append_lies _ (by rfl) _ _ _ (by rfl) (w.heap.size + 1) 2 i2 _ 1 8 Tryd.underlying29 hi2 hz0 hza hzb rfl (by omega) _ 0 (ivs (meL H g x y 0)) (by rfl) (owns_belowS HU3.out hXa.out) ⟨w3.heap.size, 0, none⟩ 1 1 [.int .i64 (g s)] (by rfl) (by rfl) (World.news_of_block (cs := #[.int .i64 (g s)]) (t := 2) (fr := (0, 0)) (heap_alloc_new w3 _)) (fun u hu => by simp at hu; subst hu; rfl) (by omega) (by unfold maxLen; omega) (by omega) (by simp; omega) (w3.heap.size + 1) (by simp) ?_; intro g6 cap6 w6 hown6 hgrow6 hat6 hlt6; have HOW := Lib.hid hown6; have HGR := Lib.hid (((HB3.out.trans (hXa.out.mono (by omega))).grown hgrow6 (by simp; omega) (fun b e => (HU3.out.lt b e).1)))); clear hown6 hgrow6 hat6)
      go_roundw
      case rel => exact ⟨1, by omega, by go_num, Lib.hid (by have h := HOW.out; rw [← HG.out] at h; exact h), HGR⟩
      case measure => simp [intOf]
    · go_wp2_with fail
      obtain ⟨t1, t2⟩ := HS.out.s1
      obtain ⟨s, hs⟩ : ∃ s : Nat, segOf H x y (1) (-1) = s := ⟨(segOf H x y (1) (-1)).toNat, by omega⟩
      have hg : me1 H g x y = g s := by unfold me1; rw [hs]; rfl
      rw [hs] at t1 t2
      have X2 := (Below.refl wr.heap.size wr).alloc (Nat.le_refl _) (.cells #[.int .i64 x, .int .i64 y, .int .i64 (1), .int .i64 (-1)] 131)
      have HBX := Lib.hid (HBw.out.trans (X2.mono HBw.out.size))
      refine (specSeg _ p W H A n c x y (1) (-1) (HX.out.below HBX.out HX.out.1) hH (by omega) x2 (by omega) y2 (by omega) (by omega) rfl rfl).mono ?_
      rintro e w3 ⟨rfl, b3⟩
      have X3 := X2.trans (b3.mono X2.size)
      have HU3 := Lib.hid (owns_belowS HU.out X3)
      have HB3 := Lib.hid (HB.out.trans (X3.mono (by omega)))
      have HO3 := Lib.hid (rowIs_below HO.out (HBw.out.trans (X3.mono HBw.out.size)) hbl)
      have c3 := HO3.out.cell (show s < M by omega)
      have l3 := HO3.out.lt
      have hz3 := HB3.out.size
      rw [hs]
      clear X2 X3 b3 q0 q1 lq
      have hXa := Lib.hid ((Below.refl w3.heap.size w3).alloc (Nat.le_refl _) (.cells #[.int .i64 (g s)] 2))
      have hsz : (w3.alloc (.cells #[.int .i64 (g s)] 2)).heap.size = w3.heap.size + 1 := by simp
      have HG := Lib.hid hg
      clear hg hs
      go_wp2_with (first
        | (at_builtin; refine wpList_append_lies _ (by rfl) _ _ _ (by rfl) (w.heap.size + 1) 2 i2 _ 1 8 Tryd.underlying29 hi2 hz0 hza hzb rfl (by omega) _ 1 (ivs (meL H g x y 1)) (by rfl) (owns_belowS HU3.out hXa.out) ⟨w3.heap.size, 0, none⟩ 1 1 [.int .i64 (g s)] (by rfl) (by rfl) (World.news_of_block (cs := #[.int .i64 (g s)]) (t := 2) (fr := (0, 0)) (heap_alloc_new w3 _)) (fun u hu => by simp at hu; subst hu; rfl) (by omega) (by unfold maxLen; omega) (by omega) (by simp; omega) (w3.heap.size + 1) (by simp) ?_; intro g6 cap6 w6 hown6 hgrow6 hat6 hlt6; have HOW := Lib.hid hown6; have HGR := Lib.hid (((HB3.out.trans (hXa.out.mono (by omega))).grown hgrow6 (by simp; omega) (fun b e => (HU3.out.lt b e).1)))); clear hown6 hgrow6 hat6)
      go_roundw
      case rel => exact ⟨2, by omega, by go_num, Lib.hid (by have h := HOW.out; rw [← HG.out] at h; exact h), HGR⟩
      case measure => simp [intOf]
    · go_wp2_with fail
      obtain ⟨t1, t2⟩ := HS.out.s2
      obtain ⟨s, hs⟩ : ∃ s : Nat, segOf H x y (-1) (1) = s := ⟨(segOf H x y (-1) (1)).toNat, by omega⟩
      have hg : me2 H g x y = g s := by unfold me2; rw [hs]; rfl
      rw [hs] at t1 t2
      have X2 := (Below.refl wr.heap.size wr).alloc (Nat.le_refl _) (.cells #[.int .i64 x, .int .i64 y, .int .i64 (-1), .int .i64 (1)] 131)
      have HBX := Lib.hid (HBw.out.trans (X2.mono HBw.out.size))
      refine (specSeg _ p W H A n c x y (-1) (1) (HX.out.below HBX.out HX.out.1) hH (by omega) x2 (by omega) y2 (by omega) (by omega) rfl rfl).mono ?_
      rintro e w3 ⟨rfl, b3⟩
      have X3 := X2.trans (b3.mono X2.size)
      have HU3 := Lib.hid (owns_belowS HU.out X3)
      have HB3 := Lib.hid (HB.out.trans (X3.mono (by omega)))
      have HO3 := Lib.hid (rowIs_below HO.out (HBw.out.trans (X3.mono HBw.out.size)) hbl)
      have c3 := HO3.out.cell (show s < M by omega)
      have l3 := HO3.out.lt
      have hz3 := HB3.out.size
      rw [hs]
      clear X2 X3 b3 q0 q1 lq
      have hXa := Lib.hid ((Below.refl w3.heap.size w3).alloc (Nat.le_refl _) (.cells #[.int .i64 (g s)] 2))
      have hsz : (w3.alloc (.cells #[.int .i64 (g s)] 2)).heap.size = w3.heap.size + 1 := by simp
      have HG := Lib.hid hg
      clear hg hs
      go_wp2_with (first
        | (at_builtin; refine wpList_append_lies _ (by rfl) _ _ _ (by rfl) (w.heap.size + 1) 2 i2 _ 1 8 Tryd.underlying29 hi2 hz0 hza hzb rfl (by omega) _ 2 (ivs (meL H g x y 2)) (by rfl) (owns_belowS HU3.out hXa.out) ⟨w3.heap.size, 0, none⟩ 1 1 [.int .i64 (g s)] (by rfl) (by rfl) (World.news_of_block (cs := #[.int .i64 (g s)]) (t := 2) (fr := (0, 0)) (heap_alloc_new w3 _)) (fun u hu => by simp at hu; subst hu; rfl) (by omega) (by unfold maxLen; omega) (by omega) (by simp; omega) (w3.heap.size + 1) (by simp) ?_; intro g6 cap6 w6 hown6 hgrow6 hat6 hlt6; have HOW := Lib.hid hown6; have HGR := Lib.hid (((HB3.out.trans (hXa.out.mono (by omega))).grown hgrow6 (by simp; omega) (fun b e => (HU3.out.lt b e).1)))); clear hown6 hgrow6 hat6)
      go_roundw
      case rel => exact ⟨3, by omega, by go_num, Lib.hid (by have h := HOW.out; rw [← HG.out] at h; exact h), HGR⟩
      case measure => simp [intOf]
    · go_wp2_with fail
      obtain ⟨t1, t2⟩ := HS.out.s3
      obtain ⟨s, hs⟩ : ∃ s : Nat, segOf H x y (1) (1) = s := ⟨(segOf H x y (1) (1)).toNat, by omega⟩
      have hg : me3 H g x y = g s := by unfold me3; rw [hs]; rfl
      rw [hs] at t1 t2
      have X2 := (Below.refl wr.heap.size wr).alloc (Nat.le_refl _) (.cells #[.int .i64 x, .int .i64 y, .int .i64 (1), .int .i64 (1)] 131)
      have HBX := Lib.hid (HBw.out.trans (X2.mono HBw.out.size))
      refine (specSeg _ p W H A n c x y (1) (1) (HX.out.below HBX.out HX.out.1) hH (by omega) x2 (by omega) y2 (by omega) (by omega) rfl rfl).mono ?_
      rintro e w3 ⟨rfl, b3⟩
      have X3 := X2.trans (b3.mono X2.size)
      have HU3 := Lib.hid (owns_belowS HU.out X3)
      have HB3 := Lib.hid (HB.out.trans (X3.mono (by omega)))
      have HO3 := Lib.hid (rowIs_below HO.out (HBw.out.trans (X3.mono HBw.out.size)) hbl)
      have c3 := HO3.out.cell (show s < M by omega)
      have l3 := HO3.out.lt
      have hz3 := HB3.out.size
      rw [hs]
      clear X2 X3 b3 q0 q1 lq
      have hXa := Lib.hid ((Below.refl w3.heap.size w3).alloc (Nat.le_refl _) (.cells #[.int .i64 (g s)] 2))
      have hsz : (w3.alloc (.cells #[.int .i64 (g s)] 2)).heap.size = w3.heap.size + 1 := by simp
      have HG := Lib.hid hg
      clear hg hs
      go_wp2_with (first
        | (at_builtin; refine wpList_append_lies _ (by rfl) _ _ _ (by rfl) (w.heap.size + 1) 2 i2 _ 1 8 Tryd.underlying29 hi2 hz0 hza hzb rfl (by omega) _ 3 (ivs (meL H g x y 3)) (by rfl) (owns_belowS HU3.out hXa.out) ⟨w3.heap.size, 0, none⟩ 1 1 [.int .i64 (g s)] (by rfl) (by rfl) (World.news_of_block (cs := #[.int .i64 (g s)]) (t := 2) (fr := (0, 0)) (heap_alloc_new w3 _)) (fun u hu => by simp at hu; subst hu; rfl) (by omega) (by unfold maxLen; omega) (by omega) (by simp; omega) (w3.heap.size + 1) (by simp) ?_; intro g6 cap6 w6 hown6 hgrow6 hat6 hlt6; have HOW := Lib.hid hown6; have HGR := Lib.hid (((HB3.out.trans (hXa.out.mono (by omega))).grown hgrow6 (by simp; omega) (fun b e => (HU3.out.lt b e).1)))); clear hown6 hgrow6 hat6)
      go_roundw
      case rel => exact ⟨4, by omega, by go_num, Lib.hid (by have h := HOW.out; rw [← HG.out] at h; exact h), HGR⟩
      case measure => simp [intOf]
    · obtain ⟨go', capo, eo, go1, go2⟩ := HU.out.form (by omega)
      simp only [Value.slice.injEq] at eo
      obtain ⟨rfl, -, rfl⟩ := eo
      go_wp2
      go_ret
      exact ⟨go', _, rfl, go2, HU.out.cellAt 0 (by omega), HU.out.cellAt 1 (by omega), HU.out.cellAt 2 (by omega), HU.out.cellAt 3 (by omega), HBw.out⟩

theorem pt_in {W H k : Int} (hW : sideB W = true) (hH : sideB H = true) (hk : 0 ≤ k) (hk' : k < inner W H) : 1 ≤ ptX W k ∧ ptX W k + 1 ≤ 2 * W ∧ 1 ≤ ptY W k ∧ ptY W k + 1 ≤ 2 * H ∧ (ptX W k + ptY W k) % 2 = 1 := by
  obtain ⟨h1, h2, -⟩ := pt_is hW hH hk hk'
  obtain ⟨x1, x2, y1, y2, o⟩ := has_yes h1
  have h3 : ¬ (ptX W k = 0 ∨ ptY W k = 0 ∨ ptX W k = 2 * W ∨ ptY W k = 2 * H) := of_decide_eq_false h2
  omega
/-- an inner point's segments are segments -/
theorem segs_in {W H : Int} {n : Nat} {f : Nat → Int} {x y : Int} (hv : validB W H n f = true) (h1 : 1 ≤ x) (h2 : x + 1 ≤ 2 * W) (h3 : 1 ≤ y) (h4 : y + 1 ≤ 2 * H) (h5 : (x + y) % 2 = 1) : SegsIn H (4 * W * H).toNat x y := by
  have hp : hasB W H x y = true := has_mk (by omega) (by omega) (by omega) (by omega) h5
  have key : ∀ ex ey : Int, (ex = 1 ∨ ex = -1) → (ey = 1 ∨ ey = -1) → 0 ≤ segOf H x y ex ey ∧ segOf H x y ex ey < ((4 * W * H).toNat : Int) := fun ex ey he1 he2 => by
    have hw0 : wkB W H n f x y ex ey = true := wk_mk hv (decide_eq_true he1) (decide_eq_true he2) hp (has_mk (by omega) (by omega) (by omega) (by omega) (by omega))
    have hw : okW W H n f (x, y, ex, ey) = true := hw0
    obtain ⟨r1, r2, -⟩ := sg_rng hw
    have r1 : 0 ≤ segOf H x y ex ey := r1
    have r2 : segOf H x y ex ey < 4 * W * H := r2
    omega
  exact ⟨key _ _ (.inr rfl) (.inr rfl), key _ _ (.inl rfl) (.inr rfl), key _ _ (.inr rfl) (.inl rfl), key _ _ (.inl rfl) (.inl rfl)⟩
def crB (m0 m1 a b : Int) : Bool := (m0 == a && m1 == b) || (m0 == b && m1 == a)
theorem crF_step {W H : Int} {f g : Nat → Int} {a b m0 m1 : Int} {k : Nat} (h0 : me0 H g (ptX W k) (ptY W k) = m0) (h1 : me1 H g (ptX W k) (ptY W k) = m1) (hf : f k = 0) : crF W H f g a b (k + 1) = crF W H f g a b k + (if crB m0 m1 a b then 1 else 0) := by
  have hcr : crT W H f g a b k ↔ crB m0 m1 a b = true := by
    unfold crT crB
    unfold me0 at h0
    unfold me1 at h1
    rw [h0, h1]
    simp [hf]
  show crF W H f g a b k + (if crT W H f g a b k then 1 else 0) = _
  simp only [hcr]
theorem crF_skip {W H : Int} {f g : Nat → Int} {a b : Int} {k : Nat} (hf : f k ≠ 0) : crF W H f g a b (k + 1) = crF W H f g a b k := by
  show crF W H f g a b k + (if crT W H f g a b k then 1 else 0) = _
  rw [if_neg (fun h => hf h.1)]
  rfl
section
variable (w : World) (p : Nat) (W H : Int) (A : Option Addr) (n c : Nat) (f : Nat → Int) (s : Int)
theorem spec_codeBad (hb : Box w p W H A n c) (hr : Row .i64 w A n c f) (hv : validB W H n f = false) :
    Calls Tryd.prog 65 #[.pointer (some ⟨p, 0, none⟩), .int .i64 s] w (Gives (.tuple #[.slice none 0 0, .int .i64 1]) w) := by
  have HX := Lib.hid hb
  have HR := Lib.hid hr
  have HV := Lib.hid hv
  clear hb hr hv
  go_enter Tryd.func65, Tryd.ntmps65
  go_wp2_with fail
  refine (specOk_is HV.out HX.out HR.out).mono ?_
  rintro e w1 ⟨m, rfl, rfl⟩
  go_wp2
  go_ret2
  exact ⟨rfl, below_drewN (Below.refl _ _) m⟩
theorem spec_codeOut (hb : Box w p W H A n c) (hr : Row .i64 w A n c f) (hv : validB W H n f = true) (hk : inB s 0 ((cnN W H f : Int) - 1) = false) :
    Calls Tryd.prog 65 #[.pointer (some ⟨p, 0, none⟩), .int .i64 s] w (Gives (.tuple #[.slice none 0 0, .int .i64 2]) w) := by
  have hcn := cnN_le hv
  obtain ⟨N, hN⟩ : ∃ N, cnN W H f = N := ⟨_, rfl⟩
  rw [hN] at hk hcn
  have HN := Lib.hid (show (trs W H f (4 * W * H).toNat).cnt = N from hN)
  have HX := Lib.hid hb
  have HR := Lib.hid hr
  have HV := Lib.hid hv
  have HK := Lib.hid hk
  clear hb hr hv hk hN
  go_enter Tryd.func65, Tryd.ntmps65
  go_wp2_with fail
  refine (specOk_is HV.out HX.out HR.out).mono ?_
  rintro e w1 ⟨m, rfl, rfl⟩
  have HB := Lib.hid (below_drewN (Below.refl w.heap.size w) m)
  go_wp2_with fail
  refine (spec_all _ p W H A n c f (HX.out.below HB.out HX.out.1) (HR.out.below HB.out (Nat.le_refl _)) HV.out).mono ?_
  rintro e w2 ⟨A1, d1, L, rfl, h1⟩
  have HB2 := Lib.hid h1.below
  rw [HN.out]
  clear h1
  go_wp2_with fail
  refine (in_is HK.out _).mono ?_
  rintro e w3 ⟨rfl, rfl⟩
  go_wp2
  go_ret2
  exact ⟨rfl, HB.out.trans (HB2.out.mono HB.out.size)⟩
/-- spec's answer on a curve that there is: the curves of all segments -/
def CodeOut (W H : Int) (f : Nat → Int) (w : World) (e : Ending) (w' : World) : Prop :=
  ∃ b, e = .returned (.tuple #[.slice (some ⟨b, 0, none⟩) (4 * W * H).toNat (4 * W * H).toNat, .int .i64 0]) ∧ w'.rowIs b 2 (4 * W * H).toNat (fun s => .int .i64 ((trE W H f).of s)) ∧ Below w.heap.size w w'
theorem spec_codeIn (hb : Box w p W H A n c) (hr : Row .i64 w A n c f) (hv : validB W H n f = true) (hk : inB s 0 ((cnN W H f : Int) - 1) = true) :
    Calls Tryd.prog 65 #[.pointer (some ⟨p, 0, none⟩), .int .i64 s] w (CodeOut W H f w) := by
  have hcn := cnN_le hv
  obtain ⟨N, hN⟩ : ∃ N, cnN W H f = N := ⟨_, rfl⟩
  rw [hN] at hk hcn
  have HN := Lib.hid (show (trs W H f (4 * W * H).toNat).cnt = N from hN)
  have HX := Lib.hid hb
  have HR := Lib.hid hr
  have HV := Lib.hid hv
  have HK := Lib.hid hk
  clear hb hr hv hk hN
  go_enter Tryd.func65, Tryd.ntmps65
  go_wp2_with fail
  refine (specOk_is HV.out HX.out HR.out).mono ?_
  rintro e w1 ⟨m, rfl, rfl⟩
  have HB := Lib.hid (below_drewN (Below.refl w.heap.size w) m)
  go_wp2_with fail
  refine (spec_all _ p W H A n c f (HX.out.below HB.out HX.out.1) (HR.out.below HB.out (Nat.le_refl _)) HV.out).mono ?_
  rintro e w2 ⟨A1, d1, L, rfl, h1⟩
  have HB2 := Lib.hid h1.below
  have HO := Lib.hid h1.of
  rw [HN.out]
  clear h1
  go_wp2_with fail
  refine (in_is HK.out _).mono ?_
  rintro e w3 ⟨rfl, rfl⟩
  go_wp2
  go_ret2
  exact ⟨_, rfl, HO.out, HB.out.trans (HB2.out.mono HB.out.size)⟩
end
/-- crossings of a curve with itself; of two curves: code and number -/
noncomputable def scV (W H : Int) (n : Nat) (f : Nat → Int) (s : Int) : Int := if cuC W H n f s = 0 then crF W H f (trE W H f).of s s n else 0
noncomputable def ccC (W H : Int) (n : Nat) (f : Nat → Int) (a b : Int) : Int := if cuC W H n f a = 0 then (if cuC W H n f b = 0 then (if a = b then 6 else 0) else cuC W H n f b) else cuC W H n f a
noncomputable def ccV (W H : Int) (n : Nat) (f : Nat → Int) (a b : Int) : Int := if ccC W H n f a b = 0 then crF W H f (trE W H f).of a b n else 0
theorem cu_cases (W H : Int) (n : Nat) (f : Nat → Int) (s : Int) : (validB W H n f = false ∧ cuC W H n f s = 1) ∨ (validB W H n f = true ∧ inB s 0 ((cnN W H f : Int) - 1) = false ∧ cuC W H n f s = 2) ∨ (validB W H n f = true ∧ inB s 0 ((cnN W H f : Int) - 1) = true ∧ cuC W H n f s = 0) := by
  cases hv : validB W H n f
  · exact .inl ⟨rfl, cu_bad hv⟩
  · cases hk : inB s 0 ((cnN W H f : Int) - 1)
    · exact .inr (.inl ⟨rfl, rfl, cu_out hv hk⟩)
    · exact .inr (.inr ⟨rfl, rfl, cu_in hv hk⟩)
end Go.Proofs.YtbpdjmjkjiddjaaDoor.Base
