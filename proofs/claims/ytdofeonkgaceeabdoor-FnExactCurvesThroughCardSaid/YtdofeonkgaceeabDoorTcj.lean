/-
  TouchesOf: the program's.
-/
import Derived.Test.YtdofeonkgaceeabDoorTch
import Derived.Test.YtdofeonkgaceeabDoorStg
namespace Go.Proofs.YtdofeonkgaceeabDoor.Base
open Go Go.RowKit
set_option linter.unusedVariables false
set_option linter.unusedSimpArgs false
attribute [local go_sem] Oper.semAt_some

section
variable (w : World) (W H : Int) (A : Option Addr) (n c : Nat) (f : Nat → Int) (s : Int)
theorem impl_touchesBad (hr : Row .i64 w A n c f) (hv : validB W H n f = false) :
    Calls Tryd.prog 40 #[.agg #[.int .i64 W, .int .i64 H, .slice A n c], .int .i64 s] w (Gives (.tuple #[.int .i64 0, .int .i64 1]) w) := by
  have HL := Lib.hid (show Below w.heap.size w (w.alloc (.cells #[.int .i64 W, .int .i64 H, .slice A n c] 28)) from (Below.refl _ _).alloc (Nat.le_refl _) _)
  have HR := Lib.hid hr
  have HV := Lib.hid hv
  clear hr hv
  go_enter Tryd.func40, Tryd.ntmps40
  go_wp2_with fail
  refine (impl_tcBad _ W H A n c f s (HR.out.below HL.out (Nat.le_refl _)) HV.out).mono ?_
  rintro e w1 ⟨rfl, b1⟩
  go_wp2
  go_ret2
  exact ⟨rfl, (HL.out.trans (b1.mono (by first | exact Nat.le_refl _ | (simp; done) | (simp; omega) | omega))).alloc (Nat.le_trans HL.out.size b1.size) _⟩
theorem impl_touchesOut (hr : Row .i64 w A n c f) (hT : Cel w 2 [.int .i64 1, .int .i64 1, .int .i64 (-1), .int .i64 1, .int .i64 1, .int .i64 (-1)]) (hv : validB W H n f = true) (hk : inB s 0 ((cnN W H f : Int) - 1) = false) :
    Calls Tryd.prog 40 #[.agg #[.int .i64 W, .int .i64 H, .slice A n c], .int .i64 s] w (Gives (.tuple #[.int .i64 0, .int .i64 2]) w) := by
  have HL := Lib.hid (show Below w.heap.size w (w.alloc (.cells #[.int .i64 W, .int .i64 H, .slice A n c] 28)) from (Below.refl _ _).alloc (Nat.le_refl _) _)
  have HR := Lib.hid hr
  have HV := Lib.hid hv
  have HT := Lib.hid hT
  have HK := Lib.hid hk
  clear hr hv hT hk
  go_enter Tryd.func40, Tryd.ntmps40
  go_wp2_with fail
  refine (impl_tcOut _ W H A n c f s (HR.out.below HL.out (Nat.le_refl _)) (HT.out.below HL.out HT.out.1) HV.out HK.out).mono ?_
  rintro e w1 ⟨rfl, b1⟩
  go_wp2
  go_ret2
  exact ⟨rfl, (HL.out.trans (b1.mono (by first | exact Nat.le_refl _ | (simp; done) | (simp; omega) | omega))).alloc (Nat.le_trans HL.out.size b1.size) _⟩

/-- the program's memory while a curve is walked: the number of border points so far -/
structure TI (wL : World) (pn : Nat) (g : Nat → Nat) (w0 : World) (j : Nat) (w : World) : Prop where
  sz : wL.heap.size ≤ w.heap.size
  old : ∀ b, b < wL.heap.size → b ≠ pn → w.heap[b]? = wL.heap[b]?
  cnt : At w pn #[.int .i64 (g j : Int)] 2
  bel : Below w0.heap.size w0 w
end
theorem TI.b {wL w0 : World} {pn : Nat} {g : Nat → Nat} {j : Nat} {w w' : World} (h : TI wL pn g w0 j w) (hb : Below w.heap.size w w') : TI wL pn g w0 j w' :=
  ⟨Nat.le_trans h.sz hb.size, fun b h1 h2 => (hb.block b (Nat.lt_of_lt_of_le h1 h.sz)).trans (h.old b h1 h2), h.cnt.below hb h.cnt.lt, h.bel.trans (hb.mono h.bel.size)⟩
theorem holds_ti {wL w0 : World} {pn : Nat} {g : Nat → Nat} (hc : pn < wL.heap.size) (hw : w0.heap.size ≤ wL.heap.size) : HoldsY wL.heap.size (fun X j A => X = [pn] ∧ TI wL pn g w0 j A) where
  below := fun X k A A' h hb => ⟨h.1, h.2.b hb⟩
  put := fun X k A l o' h hl _ ho => ⟨h.1, by simpa using h.2.sz, fun b h1 h2 => (World.putObj_heap_other (by omega)).trans (h.2.old b h1 h2), at_put h.2.cnt ho, h.2.bel.grown (grownBy_putObj' _ _ _) h.2.bel.size (fun j e => by cases e; omega)⟩
  set := fun X k A b i u h hb _ => ⟨h.1, by simpa [World.setCell] using h.2.sz, fun b' h1 h2 => (Below.heap_setCell _ _ _ _ (by simp; omega)).trans (h.2.old b' h1 h2), h.2.cnt.setOther (a := ⟨b, i, none⟩) (show b ≠ pn by omega) u, h.2.bel.setCell (p := ⟨b, i, none⟩) (show w0.heap.size ≤ b by omega) u⟩

set_option maxHeartbeats 4000000 in
theorem impl_touchesIn (w : World) (W H : Int) (A : Option Addr) (n c : Nat) (f : Nat → Int) (i0 : Nat) (hr : Row .i64 w A n c f) (hT : Cel w 2 [.int .i64 1, .int .i64 1, .int .i64 (-1), .int .i64 1, .int .i64 1, .int .i64 (-1)]) (hv : validB W H n f = true) (hk : inB (i0 : Int) 0 ((cnN W H f : Int) - 1) = true) :
    Calls Tryd.prog 40 #[.agg #[.int .i64 W, .int .i64 H, .slice A n c], .int .i64 (i0 : Int)] w (Gives (.tuple #[.int .i64 (tchN W H f (cuW W H f i0) (per W H f (cuW W H f i0))), .int .i64 0]) w) := by
  have HL := Lib.hid (show Below w.heap.size w (w.alloc (.cells #[.int .i64 W, .int .i64 H, .slice A n c] 28)) from (Below.refl _ _).alloc (Nat.le_refl _) _)
  obtain ⟨hW, hH, -, -⟩ := validB_yes hv
  obtain ⟨a1, a2⟩ := side_mk hW
  obtain ⟨b1, b2⟩ := side_mk hH
  have hcn := cnN_le hv
  obtain ⟨-, s1⟩ := in_yes hk
  have hi0 : i0 < cnN W H f := by omega
  have HOK := Lib.hid (cuW_ok hv hi0)
  have HO := impl_tcIn (w.alloc (.cells #[.int .i64 W, .int .i64 H, .slice A n c] 28)) W H A n c f i0 (hr.below HL.out (Nat.le_refl _)) (hT.below HL.out hT.1) hv hk
  have hst := stl_get W H f (4 * W * H).toNat i0 hi0
  have hvd : wkr H ((trs W H f (4 * W * H).toNat).st i0) = cuW W H f i0 := rfl
  obtain ⟨M, hM⟩ : ∃ M, (4 * W * H).toNat = M := ⟨_, rfl⟩
  have hcnM : cnN W H f = (trs W H f M).cnt := by rw [← hM]; rfl
  rw [hcnM] at hi0 hcn
  rw [hM] at HO hst hvd
  obtain ⟨v, hve⟩ : ∃ v, cuW W H f i0 = v := ⟨_, rfl⟩
  rw [hve] at HOK hvd ⊢
  have HPE := per_is HOK.out
  obtain ⟨K, hK⟩ : ∃ K, per W H f v = K := ⟨_, rfl⟩
  rw [hK] at HPE ⊢
  obtain ⟨x, y, dx, dy⟩ := v
  have e1 : wtX H ((trs W H f M).st i0) = x := congrArg (fun u : W4 => u.1) hvd
  have e2 : wtY H ((trs W H f M).st i0) = y := congrArg (fun u : W4 => u.2.1) hvd
  have e3 : 1 = dx := congrArg (fun u : W4 => u.2.2.1) hvd
  have e4 : wtD H ((trs W H f M).st i0) = dy := congrArg (fun u : W4 => u.2.2.2) hvd
  rw [e1, e2, e3, e4] at hst
  have hK1 : K ≤ 1156 := HPE.2.1
  have HPR := Lib.hid HPE
  have HO := Lib.hid HO
  have HS := Lib.hid hst
  have HR := Lib.hid hr
  have HT := Lib.hid hT
  have HV := Lib.hid hv
  clear hr hT hv hk hst hvd e1 e2 e3 e4 hM hve hK HPE hcnM s1
  refine (callsIn_wide (n := 6)).1 ?_
  refine callsIn_of_wp_marks Tryd.func40 rfl trivial ?_ rfl
  simp only [Tryd.ntmps40, List.size_toArray, List.length_cons, List.length_nil, Nat.reduceAdd, Nat.reduceSub, Array.replicate_succ, Array.replicate_zero, List.push_toArray, List.append_toArray, List.nil_append, List.cons_append]
  gi_wp2_with fail
  refine ⟨trivial, (callsIn_wide.2 HO.out).mono ?_⟩
  rintro e w1 ⟨Au, cu, cv, rfl, h1, h2, h3, c1⟩
  have HP1 := Lib.hid ((At.new w #[.int .i64 W, .int .i64 H, .slice A n c] 28).below c1 (by simp))
  have HB1 := Lib.hid (HL.out.trans (c1.mono (by first | exact Nat.le_refl _ | (simp; done) | (simp; omega) | omega)))
  obtain ⟨gu, capu, eu, gu1, gu2⟩ := h1.form (by omega)
  simp only [Value.slice.injEq] at eu
  obtain ⟨rfl, -, rfl⟩ := eu
  have HU := Lib.hid h1
  have hz1 := c1.size
  simp at hz1
  clear c1 h1 h2 h3 HO HL gu1
  gi_wp2_with fail
  have X2 := (Below.refl w1.heap.size w1).alloc (Nat.le_refl _) (.cells #[.int .i64 W, .int .i64 H, .slice A n c, .slice (some ⟨gu, 0, none⟩) (trs W H f M).cnt cu, .slice (some ⟨cv, 0, none⟩) M M] 74)
  have X3 := (Below.refl (w1.alloc (.cells #[.int .i64 W, .int .i64 H, .slice A n c, .slice (some ⟨gu, 0, none⟩) (trs W H f M).cnt cu, .slice (some ⟨cv, 0, none⟩) M M] 74)).heap.size (w1.alloc (.cells #[.int .i64 W, .int .i64 H, .slice A n c, .slice (some ⟨gu, 0, none⟩) (trs W H f M).cnt cu, .slice (some ⟨cv, 0, none⟩) M M] 74))).alloc (Nat.le_refl _) (.cells #[.int .i64 0] 2)
  have X23 := X2.trans (X3.mono (by simp))
  have HN3 := Lib.hid (show At ((w1.alloc (.cells #[.int .i64 W, .int .i64 H, .slice A n c, .slice (some ⟨gu, 0, none⟩) (trs W H f M).cnt cu, .slice (some ⟨cv, 0, none⟩) M M] 74)).alloc (.cells #[.int .i64 0] 2)) (w1.heap.size + 1) #[.int .i64 0] 2 from At.newAt (by simp))
  have HT3 := Lib.hid ((At.new w1 #[.int .i64 W, .int .i64 H, .slice A n c, .slice (some ⟨gu, 0, none⟩) (trs W H f M).cnt cu, .slice (some ⟨cv, 0, none⟩) M M] 74).below X3 (by simp))
  have HP3 := Lib.hid (HP1.out.below X23 HP1.out.lt)
  have HU3 := Lib.hid (owns_belowS HU.out X23)
  have HB3 := Lib.hid (HB1.out.trans (X23.mono HB1.out.size))
  have hz3 : ((w1.alloc (.cells #[.int .i64 W, .int .i64 H, .slice A n c, .slice (some ⟨gu, 0, none⟩) (trs W H f M).cnt cu, .slice (some ⟨cv, 0, none⟩) M M] 74)).alloc (.cells #[.int .i64 0] 2)).heap.size = w1.heap.size + 1 + 1 := by simp
  clear X2 X3 X23 HP1 HU HB1
  generalize (w1.alloc (.cells #[.int .i64 W, .int .i64 H, .slice A n c, .slice (some ⟨gu, 0, none⟩) (trs W H f M).cnt cu, .slice (some ⟨cv, 0, none⟩) M M] 74)).alloc (.cells #[.int .i64 0] 2) = w3 at HN3 HT3 HP3 HU3 HB3 hz3 ⊢
  obtain ⟨pt, hpt⟩ : ∃ pt, w1.heap.size = pt := ⟨_, rfl⟩
  rw [hpt] at HN3 HT3 hz3 hz1 gu2 ⊢
  clear hpt
  have gu3 : gu < w3.heap.size := by omega
  have k0 : w3.cell? ⟨w.heap.size, 0, none⟩ = some (.int .i64 W) := HP3.out.cellv (i := 0) rfl
  have k1 : w3.cell? ⟨w.heap.size, 1, none⟩ = some (.int .i64 H) := HP3.out.cellv (i := 1) rfl
  have k2 : w3.cell? ⟨w.heap.size, 2, none⟩ = some (.slice A n c) := HP3.out.cellv (i := 2) rfl
  have t3 : w3.cell? ⟨pt, 3, none⟩ = some (.slice (some ⟨gu, 0, none⟩) (trs W H f M).cnt cu) := HT3.out.cellv (i := 3) rfl
  have q0 : w3.cell? ⟨gu, i0 * 4, none⟩ = some (.int .i64 x) := (HU3.out.cellAt (i0 * 4) (by omega)).trans HS.out.1
  have q1 : w3.cell? ⟨gu, i0 * 4 + 1, none⟩ = some (.int .i64 y) := (HU3.out.cellAt (i0 * 4 + 1) (by omega)).trans HS.out.2.1
  have q2 : w3.cell? ⟨gu, i0 * 4 + 2, none⟩ = some (.int .i64 dx) := (HU3.out.cellAt (i0 * 4 + 2) (by omega)).trans HS.out.2.2.1
  have q3 : w3.cell? ⟨gu, i0 * 4 + 3, none⟩ = some (.int .i64 dy) := (HU3.out.cellAt (i0 * 4 + 3) (by omega)).trans HS.out.2.2.2
  have l0 := HP3.out.lt
  have lt := HT3.out.lt
  gi_cut [25] from 19 (fun s25 wx => ∃ b, s25 = .func (.func 141) #[] #[.pointer (some ⟨b, 0, none⟩), .pointer (some ⟨b + 1, 0, none⟩)] ∧ w3.heap.size ≤ b ∧ At wx (b + 1) #[.func (.func 121) #[.agg #[.int .i64 W, .int .i64 H, .slice A n c]] #[]] 140 ∧ At wx b #[.int .i64 x, .int .i64 y, .int .i64 dx, .int .i64 dy] 56 ∧ wx.heap.size = b + 1 + 1 ∧ Below w3.heap.size w3 wx)
  case first =>
    refine wpIn_wide.2 ?_
    go_region_held3 (fun w' => w'.cell? ⟨w.heap.size, 0, none⟩ = some (.int .i64 W) ∧ w'.cell? ⟨w.heap.size, 1, none⟩ = some (.int .i64 H) ∧ w'.cell? ⟨w.heap.size, 2, none⟩ = some (.slice A n c) ∧ w'.cell? ⟨pt, 3, none⟩ = some (.slice (some ⟨gu, 0, none⟩) (trs W H f M).cnt cu) ∧
        w'.cell? ⟨gu, i0 * 4, none⟩ = some (.int .i64 x) ∧ w'.cell? ⟨gu, i0 * 4 + 1, none⟩ = some (.int .i64 y) ∧ w'.cell? ⟨gu, i0 * 4 + 2, none⟩ = some (.int .i64 dx) ∧ w'.cell? ⟨gu, i0 * 4 + 3, none⟩ = some (.int .i64 dy) ∧ Below w3.heap.size w3 w')
      (first | exact ⟨k0, k1, k2, t3, q0, q1, q2, q3, (Below.refl _ _).drew⟩ | (with_reducible assumption) | exact ⟨(bcell hDa).1 _ _ l0 |>.trans k0, (bcell hDa).1 _ _ l0 |>.trans k1, (bcell hDa).1 _ _ l0 |>.trans k2, (bcell hDa).1 _ _ lt |>.trans t3, (bcell hDa).1 _ _ gu3 |>.trans q0, (bcell hDa).1 _ _ gu3 |>.trans q1, (bcell hDa).1 _ _ gu3 |>.trans q2, (bcell hDa).1 _ _ gu3 |>.trans q3, hDa⟩)
      (first | (go_at_call 86; refine (impl_round _ W H A n c x y dx dy).mono ?_; rintro e wa ⟨rfl, hPa, hWa, ba, za⟩; have hDa : Below w3.heap.size w3 wa := (Below.refl w3.heap.size w3).drew.trans ba))
    refine ‹∀ a' w', Met _ a' w' → _› _ _ ?_
    refine Met.intro ?_
    refine ‹∀ a' w', _ → _› _ _ ?_
    (repeat apply Exists.intro)
    refine ⟨?_, rfl⟩
    have hz3' : w3.drew.heap.size = pt + 1 + 1 := hz3
    rw [hz3'] at hPa hWa za
    exact ⟨pt + 1 + 1 + 1 + 1, rfl, by omega, hPa, hWa, za, hDa⟩
  case rest =>
    obtain ⟨b, rfl, hb, hP5, hW5, hz5, hB5⟩ := hcut
    have HP5 := Lib.hid hP5
    have HW5 := Lib.hid hW5
    have HA5 := Lib.hid (HP3.out.below hB5 l0)
    have HN5 := Lib.hid (HN3.out.below hB5 HN3.out.lt)
    have HB5 := Lib.hid (HB3.out.trans (hB5.mono HB3.out.size))
    have hn3 := HN3.out.lt
    have hz35 := hB5.size
    have hle : w.heap.size ≤ wc.heap.size := HB5.out.size
    clear k0 k1 k2 t3 q0 q1 q2 q3 HP3 HU3 HB3 HT3 HN3 hB5 hP5 hW5
    gi_wp2
    have hit : IterY Fence.wide 5 Tryd.prog 141 #[.pointer (some ⟨b, 0, none⟩), .pointer (some ⟨b + 1, 0, none⟩)] (fun j => #[wagg (stps W H f j (x, y, dx, dy))]) K w.heap.size [b, b + 1] wc :=
      round_iter 5 (by omega) w wc W H A n c f x y dx dy _ _ HR.out HT.out HOK.out K HPR.out HB5.out HW5.out HP5.out
    refine wpIn_rangeY rfl (by omega) (gf := 141) (lb := #[.pointer (some ⟨b, 0, none⟩), .pointer (some ⟨b + 1, 0, none⟩)]) rfl trivial (enters_of Tryd.func141 (by kernel_rfl) rfl) hit hle (by simp; omega) (Below.refl _ _) (fun _ => rfl)
      (fun X j A => X = [pt + 1] ∧ TI wc (pt + 1) (tchN W H f (x, y, dx, dy)) w j A) (fun _ _ _ => False) (holds_ti (by omega) hle) (fun _ => holds_no _) [pt + 1] (by simp; omega)
      ⟨rfl, Nat.le_refl _, fun _ _ _ => rfl, HN5.out, HB5.out⟩
      (fun j a' X => ∃ p9, a' = { tmps := #[.agg #[.int .i64 W, .int .i64 H, .slice A n c], .int .i64 i0, .pointer (some ⟨w.heap.size, 0, none⟩), undef, .int .i64 0, .int .i64 0, .pointer (some ⟨pt, 0, none⟩), .int .i64 0, .pointer (some ⟨pt + 1, 0, none⟩), .pointer (some ⟨p9, 0, none⟩), .tuple #[.agg #[.int .i64 W, .int .i64 H, .slice A n c, .slice (some ⟨gu, 0, none⟩) (trs W H f M).cnt cu, .slice (some ⟨cv, 0, none⟩) M M], .int .i64 0], .agg #[.int .i64 W, .int .i64 H, .slice A n c], .int .i64 i0, .tuple #[.agg #[.int .i64 W, .int .i64 H, .slice A n c, .slice (some ⟨gu, 0, none⟩) (trs W H f M).cnt cu, .slice (some ⟨cv, 0, none⟩) M M], .int .i64 0], .agg #[.int .i64 W, .int .i64 H, .slice A n c, .slice (some ⟨gu, 0, none⟩) (trs W H f M).cnt cu, .slice (some ⟨cv, 0, none⟩) M M], .int .i64 0, .int .i64 0, .bool false, undef, u19, u20, u21, u22, u23, u24, .func (.func 141) #[] #[.pointer (some ⟨b, 0, none⟩), .pointer (some ⟨b + 1, 0, none⟩)], wagg (stps W H f j (x, y, dx, dy)), u27, u28, u29, u30, u31, u32, u33, u34], defers := [] } ∧ At X p9 (cs4 (stps W H f j (x, y, dx, dy))).toArray 56)
      (fun k a' X l o' h ho => by obtain ⟨p9, e, ha⟩ := h; exact ⟨p9, e, at_put ha ho⟩) ?assign ?body ?done ?stop
    case assign =>
      intro l j X Aw J hj hX hi hJ
      clear hit
      dsimp only [wagg]
      obtain ⟨v, hv⟩ : ∃ v, v = stps W H f j (x, y, dx, dy) := ⟨_, rfl⟩
      rw [← hv] at hJ ⊢
      have HVv := Lib.hid hv
      clear hv
      gi_wp2
      exact hJ _ _ ((Below.refl _ _).alloc (Nat.le_refl _) _) ⟨_, rfl, At.new _ _ _⟩
    case body =>
      rintro l j X a' Aw hj hX hXb ⟨rfl, hI⟩ ⟨p9, rfl, h9⟩
      clear hit
      have HI := Lib.hid hI
      have H9 := Lib.hid h9
      obtain ⟨v, hv⟩ : ∃ v, v = stps W H f j (x, y, dx, dy) := ⟨_, rfl⟩
      have hok := stps_ok HOK.out j
      rw [← hv] at H9 hok ⊢
      have HTS := Lib.hid (show tchN W H f (x, y, dx, dy) (j + 1) = tchN W H f (x, y, dx, dy) j + (if edgeB W H v.1 v.2.1 then 1 else 0) by rw [tchN_succ, ← hv])
      have hle' := tchN_le W H f (x, y, dx, dy) j
      clear hv hI h9
      have hsz := HI.out.sz
      have q0 : Aw.cell? ⟨p9, 0, none⟩ = some (.int .i64 v.1) := H9.out.cellv (i := 0) rfl
      have q1 : Aw.cell? ⟨p9, 1, none⟩ = some (.int .i64 v.2.1) := H9.out.cellv (i := 1) rfl
      have l9 := H9.out.lt
      have HA := Lib.hid (HA5.out.of_block (HI.out.old w.heap.size HA5.out.lt (by omega)))
      have k0 : Aw.cell? ⟨w.heap.size, 0, none⟩ = some (.int .i64 W) := HA.out.cellv (i := 0) rfl
      have k1 : Aw.cell? ⟨w.heap.size, 1, none⟩ = some (.int .i64 H) := HA.out.cellv (i := 1) rfl
      have k2 : Aw.cell? ⟨w.heap.size, 2, none⟩ = some (.slice A n c) := HA.out.cellv (i := 2) rfl
      have l0' := HA.out.lt
      have hcnt := HI.out.cnt
      obtain ⟨T, hT⟩ : ∃ T, tchN W H f (x, y, dx, dy) j = T := ⟨_, rfl⟩
      rw [hT] at HTS hle' hcnt
      have HC := Lib.hid hcnt
      clear hcnt hT
      gi_wp2_with fail
      gi_cut [31] from 27 (fun s31 wx => s31 = .bool (edgeB W H v.1 v.2.1) ∧ Below Aw.heap.size Aw wx)
      case first =>
        refine wpIn_region_stab [some 27, some 28, some 29, some 30, some 31] [27, 28, 29, 30, 31] [] []
          [(fun a lo hi u w' => u = .agg #[.int .i64 W, .int .i64 H, .slice A n c]), (fun a lo hi u w' => u = .agg #[.int .i64 W, .int .i64 H]), (fun a lo hi u w' => u = .pointer (some ⟨p9, 0, none⟩)),
            (fun a lo hi u w' => u = .agg #[.int .i64 v.1, .int .i64 v.2.1]), (fun a lo hi u w' => u = .bool (edgeB W H v.1 v.2.1))]
          [[], [0], [], [2], [1, 3]] [[], [], [], [], []] (by intro o ho c; simp only [List.mem_cons, List.not_mem_nil, or_false] at ho; rcases ho with rfl | rfl | rfl | rfl | rfl <;> (intro h; cases h)) (by kernel_rfl) (by kernel_rfl) (fun k hk => absurd hk List.not_mem_nil) ?gS ?gO ?gR
        case gS => exact ⟨fun _ _ _ _ _ _ h _ => h, fun _ _ _ _ _ _ h _ => h, fun _ _ _ _ _ _ h _ => h, fun _ _ _ _ _ _ h _ => h, fun _ _ _ _ _ _ h _ => h, trivial⟩
        case gO =>
          refine ⟨?o0, ?o1, ?o2, ?o3, ?o4, trivial⟩
          case o0 =>
            intro vs iv wk hx hf
            have ezz : w.heap.size < wk.heap.size := Nat.lt_of_lt_of_le l0' hx.size
            have e0 : wk.cell? ⟨w.heap.size, 0, none⟩ = some (.int .i64 W) := hx.cell k0 (by simp)
            have e1 : wk.cell? ⟨w.heap.size, 1, none⟩ = some (.int .i64 H) := hx.cell k1 (by simp)
            have e2 : wk.cell? ⟨w.heap.size, 2, none⟩ = some (.slice A n c) := hx.cell k2 (by simp)
            intro K' hK
            simp only [setA, setT, List.setIfInBounds_toArray, List.set_cons_zero, List.set_cons_succ]
            go_simp
            refine hK.out _ (.agg #[.int .i64 W, .int .i64 H, .slice A n c]) _ ?_ ?_
            · simp only [setA, setT, List.setIfInBounds_toArray, List.set_cons_zero, List.set_cons_succ, Act.put]
            · exact ⟨Ext.refl _ _, rfl⟩
          case o1 =>
            intro vs iv wk hx hf
            obtain ⟨⟨hq0, -⟩, -⟩ := hf
            have hq0 : vs 27 = .agg #[.int .i64 W, .int .i64 H, .slice A n c] := hq0
            intro K' hK
            simp only [setA, setT, List.setIfInBounds_toArray, List.set_cons_zero, List.set_cons_succ]
            go_simp
            refine (sizeOf_any _ W H A n c).mono ?_
            rintro e w2 ⟨rfl, b2⟩
            dsimp only
            refine hK.out _ (.agg #[.int .i64 W, .int .i64 H]) _ ?_ ?_
            · simp only [setA, setT, List.setIfInBounds_toArray, List.set_cons_zero, List.set_cons_succ, Act.put, hq0]
            · exact ⟨Ext.of_below b2, rfl⟩
          case o2 =>
            intro vs iv wk hx hf
            have ezz : p9 < wk.heap.size := Nat.lt_of_lt_of_le l9 hx.size
            intro K' hK
            simp only [setA, setT, List.setIfInBounds_toArray, List.set_cons_zero, List.set_cons_succ]
            go_simp
            refine hK.out _ (.pointer (some ⟨p9, 0, none⟩)) _ ?_ ?_
            · simp only [setA, setT, List.setIfInBounds_toArray, List.set_cons_zero, List.set_cons_succ, Act.put]
            · exact ⟨Ext.refl _ _, rfl⟩
          case o3 =>
            intro vs iv wk hx hf
            obtain ⟨⟨hq2, -⟩, -⟩ := hf
            have hq2 : vs 29 = .pointer (some ⟨p9, 0, none⟩) := hq2
            have ezz : p9 < wk.heap.size := Nat.lt_of_lt_of_le l9 hx.size
            have e0 : wk.cell? ⟨p9, 0, none⟩ = some (.int .i64 v.1) := hx.cell q0 (by simp)
            have e1 : wk.cell? ⟨p9, 1, none⟩ = some (.int .i64 v.2.1) := hx.cell q1 (by simp)
            intro K' hK
            simp only [setA, setT, List.setIfInBounds_toArray, List.set_cons_zero, List.set_cons_succ]
            go_simp
            refine hK.out _ (.agg #[.int .i64 v.1, .int .i64 v.2.1]) _ ?_ ?_
            · simp only [setA, setT, List.setIfInBounds_toArray, List.set_cons_zero, List.set_cons_succ, Act.put, hq2]
            · exact ⟨Ext.refl _ _, rfl⟩
          case o4 =>
            intro vs iv wk hx hf
            obtain ⟨⟨hq1, -⟩, ⟨hq3, -⟩, -⟩ := hf
            have hq1 : vs 28 = .agg #[.int .i64 W, .int .i64 H] := hq1
            have hq3 : vs 30 = .agg #[.int .i64 v.1, .int .i64 v.2.1] := hq3
            intro K' hK
            simp only [setA, setT, List.setIfInBounds_toArray, List.set_cons_zero, List.set_cons_succ]
            go_simp
            refine (onBorder_any _ W H v.1 v.2.1 hW hH).mono ?_
            rintro e w2 ⟨rfl, b2⟩
            dsimp only
            refine hK.out _ (.bool (edgeB W H v.1 v.2.1)) _ ?_ ?_
            · simp only [setA, setT, List.setIfInBounds_toArray, List.set_cons_zero, List.set_cons_succ, Act.put, hq1, hq3]
            · exact ⟨Ext.of_below b2, rfl⟩
        case gR =>
          intro vs iv w5x hx hap hf
          obtain ⟨-, -, -, -, ⟨hv4, -⟩, -⟩ := hf
          have hv4 : vs 31 = .bool (edgeB W H v.1 v.2.1) := hv4
          simp only [setA, setT, List.setIfInBounds_toArray, List.set_cons_zero, List.set_cons_succ, hv4]
          refine ‹∀ a' w', Met _ a' w' → _› _ _ ?_
          refine Met.intro ?_
          refine ‹∀ a' w', _ → _› _ _ ?_
          (repeat apply Exists.intro)
          refine ⟨?_, rfl⟩
          exact ⟨rfl, ((Ext.drew _).trans hx).nil⟩
      case rest =>
        obtain ⟨rfl, hB6⟩ := hcut
        have HI6 := Lib.hid (HI.out.b hB6)
        have HC6 := Lib.hid (HC.out.below hB6 HC.out.lt)
        have HE6 := Lib.hid (Ext.of_below (X := [pt + 1]) hB6)
        clear k0 k1 k2 q0 q1 HA H9 HI HC hB6
        have n0 : wc.cell? ⟨pt + 1, 0, none⟩ = some (.int .i64 (T : Int)) := HC6.out.cellv (i := 0) rfl
        have fn0 := HC6.out.frozen 0
        have ln := HC6.out.lt
        have hzz := HE6.out.size
        have hI6z := HI6.out.sz
        have hbm : ∀ b' ∈ [pt + 1], (b' ∈ [pt + 1] ∨ Aw.heap.size ≤ b') ∧ b' < wc.heap.size := fun b' hb' => ⟨.inl hb', by simp at hb'; omega⟩
        cases hed : edgeB W H v.1 v.2.1
        · rw [hed] at HTS
          gi_wp2
          refine ⟨[pt + 1], ⟨rfl, HI6.out.sz, HI6.out.old, ?_, HI6.out.bel⟩, HE6.out, hbm⟩
          rw [HTS.out]
          exact HC6.out
        · rw [hed] at HTS
          gi_wp2
          refine ⟨[pt + 1], ⟨rfl, by simpa [World.setCell] using HI6.out.sz, fun b' h1 h2 => (Below.heap_setCell _ _ _ _ (by simpa using h2)).trans (HI6.out.old b' h1 h2), ?_, HI6.out.bel.setCell (p := ⟨pt + 1, 0, none⟩) (by simp; omega) _⟩, HE6.out.trans (Ext.set _ _ _ (by simp)), fun b' hb' => by have := hbm b' hb'; simpa [World.setCell] using this⟩
          have h := HC6.out.set 0 (.int .i64 ((T : Int) + 1))
          rw [HTS.out]
          simpa using h
    case done =>
      rintro D X WN hD hX ⟨rfl, hI⟩ hKD
      clear hit
      have HI := Lib.hid hI
      have HKD := Lib.hid hKD
      clear hI hKD hX
      have q0 : WN.cell? ⟨pt + 1, 0, none⟩ = some (.int .i64 (tchN W H f (x, y, dx, dy) K : Int)) := HI.out.cnt.cellv (i := 0) rfl
      have ln := HI.out.cnt.lt
      gi_wp2
      refine ⟨by simp, .inl ⟨_, _, rfl, run_takeDeferred HKD.out, ?_⟩⟩
      refine ⟨_, ?_, rfl, HI.out.bel.grown (grownBy_putObj' WN D (.deferred none)) HI.out.bel.size (fun j e => by cases e; omega)⟩
      simp [results, Tryd.results40, go_sem]
    case stop =>
      rintro D t k X hD hk h _
      exact h.elim
theorem impl_touchesOf (w : World) (W H : Int) (A : Option Addr) (n c : Nat) (f : Nat → Int) (s : Int) (hr : Row .i64 w A n c f) (hT : Cel w 2 [.int .i64 1, .int .i64 1, .int .i64 (-1), .int .i64 1, .int .i64 1, .int .i64 (-1)]) :
    Calls Tryd.prog 40 #[.agg #[.int .i64 W, .int .i64 H, .slice A n c], .int .i64 s] w (Gives (.tuple #[.int .i64 (toV W H n f s), .int .i64 (cuC W H n f s)]) w) := by
  cases hv : validB W H n f
  · rw [toV_0 (by rw [cu_bad hv]; omega), cu_bad hv]
    exact impl_touchesBad w W H A n c f s hr hv
  · cases hk : inB s 0 ((cnN W H f : Int) - 1)
    · rw [toV_0 (by rw [cu_out hv hk]; omega), cu_out hv hk]
      exact impl_touchesOut w W H A n c f s hr hT hv hk
    · rw [toV_1 (cu_in hv hk), cu_in hv hk]
      obtain ⟨s0, s1⟩ := in_yes hk
      obtain ⟨i0, rfl⟩ : ∃ i0 : Nat, s = i0 := ⟨s.toNat, by omega⟩
      exact impl_touchesIn w W H A n c f i0 hr hT hv hk
end Go.Proofs.YtdofeonkgaceeabDoor.Base
