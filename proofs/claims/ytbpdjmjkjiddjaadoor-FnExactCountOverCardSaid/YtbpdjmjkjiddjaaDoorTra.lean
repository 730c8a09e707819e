/-
  Tracing: spec's list of all curves, and the index of each segment's curve.
-/
import Derived.Test.YtbpdjmjkjiddjaaDoorTrs
import Derived.BigQuiet
import Derived.Deep.QuietTactic
namespace Go.Proofs.YtbpdjmjkjiddjaaDoor.Base
open Go.RowKit
set_option linter.unusedVariables false
set_option linter.unusedSimpArgs false

theorem infoPts : (Tryd.prog.info? 190).map (fun i => (i.zero, i.size, i.bytes)) = some (some (.slice none 0 0), 1, 24) := by kernel_rfl
theorem ptl_length (W H : Int) (f : Nat → Int) (v : W4) : ∀ j, (ptl W H f v j).length = 2 * j
  | 0 => rfl
  | j + 1 => by simp [ptl, ptl_length W H f v j]; omega
theorem sgl_length (W H : Int) (f : Nat → Int) (v : W4) : ∀ j, (sgl W H f v j).length = j
  | 0 => rfl
  | j + 1 => by simp [sgl, sgl_length W H f v j]
theorem sgl_get (W H : Int) (f : Nat → Int) (v : W4) : ∀ (j i : Nat), i < j → (ivs (sgl W H f v j))[i]? = some (.int .i64 (sg H (stps W H f i v)))
  | 0, i, h => absurd h (by omega)
  | j + 1, i, h => by
    have hl : (ivs (sgl W H f v j)).length = j := by simp [ivs, sgl_length]
    rw [show ivs (sgl W H f v (j + 1)) = ivs (sgl W H f v j) ++ ivs [sg H (stps W H f j v)] from ivs_app _ _]
    rcases Nat.lt_or_ge i j with h' | h'
    · rw [List.getElem?_append_left (by omega)]
      exact sgl_get W H f v j i h'
    · rw [List.getElem?_append_right (by omega), hl, show i - j = 0 by omega]
      rw [show j = i by omega]
      rfl

/-- the curve of index i is told by the value v: the points of its walk, in a row from block B on, apart from u's -/
def CurveIs (W H : Int) (f : Nat → Int) (B : Nat) (st : Nat) (u : Value) (w : World) (v : Value) : Prop :=
  ∃ P c, v = .slice P (per W H f (wkr H st)) c ∧ w.ownsRow B 61 2 v (per W H f (wkr H st)) (ivs (ptl W H f (wkr H st) (per W H f (wkr H st)))) ∧ ApartB v u
/-- the curves found when k segments are passed -/
structure AllAt (W H : Int) (f : Nat → Int) (B M ob : Nat) (w0 : World) (k : Nat) (u : Value) (L : List Value) (w : World) : Prop where
  out : w.ownsRow (ob + 1) 190 1 u (trs W H f k).cnt L
  of : w.rowIs ob 2 M (fun s => .int .i64 ((trs W H f k).of s))
  cur : ∀ i v, L[i]? = some v → CurveIs W H f (ob + 1) ((trs W H f k).st i) u w v
  below : Below B w0 w
  hB : B ≤ ob
theorem CurveIs.b {W H : Int} {f : Nat → Int} {B st : Nat} {u v : Value} {w w' : World} (h : CurveIs W H f B st u w v) (hb : Below w.heap.size w w') : CurveIs W H f B st u w' v := by
  obtain ⟨P, c, e, h1, h2⟩ := h
  exact ⟨P, c, e, owns_belowS h1 hb, h2⟩
theorem CurveIs.set {W H : Int} {f : Nat → Int} {B st : Nat} {u v : Value} {w : World} (h : CurveIs W H f B st u w v) {a : Addr} (ha : a.block < B) (x : Value) : CurveIs W H f B st u (w.setCell a x) v := by
  obtain ⟨P, c, e, h1, h2⟩ := h
  exact ⟨P, c, e, owns_set h1 (fun e' => by have := (h1.lt _ e').1; omega) x, h2⟩
section
variable {W H : Int} {f : Nat → Int} {B M ob : Nat} {w0 : World} {k : Nat} {u : Value} {L : List Value} {w w' : World}
theorem AllAt.b (h : AllAt W H f B M ob w0 k u L w) (hb : Below w.heap.size w w') : AllAt W H f B M ob w0 k u L w' :=
  ⟨owns_belowS h.out hb, rowIs_below h.of hb h.of.lt, fun i v hv => (h.cur i v hv).b hb, h.below.trans (hb.mono (by have := h.of.lt; have := h.hB; omega)), h.hB⟩
end
theorem owns_ext {w w' : World} {base n s : Nat} {e : TypeId} {v : Value} {xs : List Value} {X : List Nat} (h : w.ownsRow base e s v n xs) (he : Ext X w w') (hx : ∀ b ∈ X, b < base) : w'.ownsRow base e s v n xs := by
  refine ⟨h.1, ?_⟩
  rcases h.2 with h0 | ⟨g, cap, cur, rfl, hb, hg, h4⟩
  · exact .inl h0
  · have hlt := (h.lt g rfl).2
    exact .inr ⟨g, cap, cur, rfl, hb, (he.block g hlt (fun hm => by have := hx g hm; omega)).trans hg, h4⟩
theorem CurveIs.ext {W H : Int} {f : Nat → Int} {B st : Nat} {u v : Value} {w w' : World} {X : List Nat} (h : CurveIs W H f B st u w v) (he : Ext X w w') (hx : ∀ b ∈ X, b < B) : CurveIs W H f B st u w' v := by
  obtain ⟨P, c, e, h1, h2⟩ := h
  exact ⟨P, c, e, owns_ext h1 he hx, h2⟩
theorem ApartB.new {u v : Value} {n cap g Hh : Nat} (h : ApartB v u) (hat : u.ownBlock = some g ∨ g = Hh) (hlt : ∀ b, v.ownBlock = some b → b < Hh) : ApartB v (.slice (some ⟨g, 0, none⟩) n cap) := fun b e1 e2 => by
  have e : g = b := by simpa [Value.ownBlock] using e2
  subst e
  rcases hat with hat | hat
  · exact h g e1 hat
  · have := hlt g e1
    omega
theorem CurveIs.grown {W H : Int} {f : Nat → Int} {B st : Nat} {u v : Value} {wa w5 : World} {n cap g Hh : Nat} (h : CurveIs W H f B st u wa v) (hg : wa.grownBy w5 u.ownBlock) (hat : u.ownBlock = some g ∨ g = Hh) (hH : wa.heap.size = Hh) : CurveIs W H f B st (.slice (some ⟨g, 0, none⟩) n cap) w5 v := by
  obtain ⟨P, c, e, h1, h2⟩ := h
  refine ⟨P, c, e, owns_grown h1 hg ?_, h2.new hat fun b hb => by have := (h1.lt b hb).2; omega⟩
  by_cases e : v.ownBlock = none
  · exact .inl e
  · obtain ⟨g', hg'⟩ := Option.ne_none_iff_exists'.1 e
    exact .inr (fun e' => h2 g' hg' (e'.symm.trans hg'))
theorem AllAt.next {W H : Int} {f : Nat → Int} {M ob k : Nat} {w0 wr w3 wx wa w5 : World} {u : Value} {L : List Value} {P : Option Addr} {c B2 g cap Hh : Nat} (h : AllAt W H f ob M ob w0 k u L wr) (hno : (trs W H f k).of k < 0) (hb : Below wr.heap.size wr w3) (he : Ext [ob] w3 wx)
    (hof : wx.rowIs ob 2 M (fun s => .int .i64 (mkd W H f (wkr H k) (trs W H f k).cnt (trs W H f k).of (per W H f (wkr H k)) s)))
    (hpt : w3.ownsRow B2 61 2 (.slice P (per W H f (wkr H k)) c) (per W H f (wkr H k)) (ivs (ptl W H f (wkr H k) (per W H f (wkr H k))))) (hB2 : wr.heap.size ≤ B2) (hX : Below wx.heap.size wx wa)
    (hown : w5.ownsRow (ob + 1) 190 1 (.slice (some ⟨g, 0, none⟩) ((trs W H f k).cnt + 1) cap) ((trs W H f k).cnt + 1) (L ++ [.slice P (per W H f (wkr H k)) c])) (hg : wa.grownBy w5 u.ownBlock) (hat : u.ownBlock = some g ∨ g = Hh) (hH : wa.heap.size = Hh) :
    AllAt W H f ob M ob w0 (k + 1) (.slice (some ⟨g, 0, none⟩) ((trs W H f k).cnt + 1) cap) (L ++ [.slice P (per W H f (wkr H k)) c]) w5 := by
  have hlo := h.of.lt
  have hub : ∀ b, u.ownBlock = some b → ob + 1 ≤ b ∧ b < wr.heap.size := fun b e => h.out.lt b e
  have hX1 : ∀ b ∈ [ob], b < ob + 1 := fun b hb => by simp at hb; omega
  have hL : L.length = (trs W H f k).cnt := by have := h.out.1; omega
  have hsz3 := hb.size
  have hszx := he.size
  have hsza := hX.size
  have hN : per W H f (wkr H k) > 0 := per_pos ..
  constructor
  · rw [trs_no hno]
    exact hown
  · rw [trs_no hno]
    exact (rowIs_below hof hX hof.lt).of_block (hg.block ob (by omega) (fun e => by have := hub ob e.symm; omega))
  · intro i v hv
    rw [trs_no hno]
    simp only
    rcases Nat.lt_or_ge i L.length with hi | hi
    · rw [List.getElem?_append_left hi] at hv
      rw [if_neg (by omega)]
      exact (((h.cur i v hv).b hb).ext he hX1 |>.b hX).grown hg hat hH
    · rw [List.getElem?_append_right hi] at hv
      have ei : i = L.length := by
        rcases Nat.eq_or_lt_of_le hi with e | e
        · exact e.symm
        · rw [List.getElem?_eq_none (by simp; omega)] at hv; cases hv
      subst ei
      rw [if_pos hL]
      simp at hv
      subst hv
      have h3 : w3.ownsRow (ob + 1) 61 2 (.slice P (per W H f (wkr H k)) c) (per W H f (wkr H k)) (ivs (ptl W H f (wkr H k) (per W H f (wkr H k)))) := owns_base hpt (by omega)
      have hap : ApartB (.slice P (per W H f (wkr H k)) c) u := fun b e1 e2 => by
        have := (hpt.lt b e1).1
        have := (hub b e2).2
        omega
      have hci : CurveIs W H f (ob + 1) k u w3 (.slice P (per W H f (wkr H k)) c) := ⟨P, c, rfl, h3, hap⟩
      exact ((hci.ext he hX1).b hX).grown hg hat hH
  · exact (((h.below.trans (hb.mono (by omega))).trans (he.below (fun b hb => by simp at hb; omega) (by omega))).trans (hX.mono (by omega))).grown hg (by omega) (fun b e => by have := hub b e; omega)
  · exact h.hB
/-- spec's answer: the curves, and the index of each segment's curve, in rows of its own -/
def AllsOut (W H : Int) (f : Nat → Int) (M : Nat) (w : World) (e : Ending) (w' : World) : Prop :=
  ∃ A c L, e = .returned (.tuple #[.slice A (trs W H f M).cnt c, .slice (some ⟨w.heap.size, 0, none⟩) M M]) ∧ AllAt W H f w.heap.size M w.heap.size w M (.slice A (trs W H f M).cnt c) L w'
theorem AllAt.skip {W H : Int} {f : Nat → Int} {B M ob k : Nat} {w0 wr : World} {u : Value} {L : List Value} (h : AllAt W H f B M ob w0 k u L wr) (hno : 0 ≤ (trs W H f k).of k) : AllAt W H f B M ob w0 (k + 1) u L wr :=
  ⟨by rw [trs_yes hno]; exact h.out, by rw [trs_yes hno]; exact h.of, by rw [trs_yes hno]; exact h.cur, h.below, h.hB⟩
set_option maxRecDepth 100000 in
set_option maxHeartbeats 4000000 in
theorem spec_all (w : World) (p : Nat) (W H : Int) (A : Option Addr) (n c : Nat) (f : Nat → Int) (hb : Box w p W H A n c) (hr : Row .i64 w A n c f) (hv : validB W H n f = true) :
    Calls Tryd.prog 108 #[.pointer (some ⟨p, 0, none⟩)] w (AllsOut W H f (4 * W * H).toNat w) := by
  obtain ⟨hW, hH, -, -⟩ := validB_yes hv
  obtain ⟨m0, m1⟩ := segs_bd hW hH
  obtain ⟨a1, a2⟩ := side_mk hW
  obtain ⟨b1, b2⟩ := side_mk hH
  obtain ⟨M, hM⟩ : ∃ M : Nat, 4 * W * H = (M : Int) := ⟨(4 * W * H).toNat, by omega⟩
  have hM1 : M ≤ 256 := by omega
  rw [show (4 * W * H).toNat = M by omega]
  have HM := Lib.hid hM
  have HR := Lib.hid hr
  have HX := Lib.hid hb
  have HV := Lib.hid hv
  have hmk := run_make_row' (P := Tryd.prog) 29 2 (.int .i64 0) 8 Tryd.underlying29 infoI64 rfl .i64 .i64 M (by omega) (by omega)
  obtain ⟨hp, k0, k1, k2⟩ := hb
  clear hr hv hM
  go_enter Tryd.func108, Tryd.ntmps108
  go_wp2
  go_quiet (fail)
  rw [HM.out]
  go_wp2
  clear hmk k0 k1 k2
  go_loopw [6] (fun kv wr => ∃ k : Nat, k ≤ M ∧ kv = .int .i64 k ∧ Hid (wr.rowIs w.heap.size 2 M (fun j => .int .i64 (if j < k then -1 else 0))) ∧ Hid (Below w.heap.size w wr)) (fun kv _ => 300 - (intOf kv).toNat)
  case atStart => exact ⟨0, Nat.zero_le _, rfl, Lib.hid (by simpa using World.rowIs_made (w.drewN nq) (.int .i64 0) M 2), Lib.hid ((below_drewN (Below.refl _ _) nq).alloc (by simp [World.drewN]) _)⟩
  case round =>
    obtain ⟨k, hk, rfl, HO, HB⟩ := hrel
    by_cases hlt : k < M
    · have c2 := HO.out.cell hlt
      have hf2 := HO.out.frozen k
      have HS := Lib.hid (HO.out.set k (.int .i64 (-1)))
      have hlo := HO.out.lt
      simp only [Nat.lt_irrefl, if_false] at c2
      go_wp2
      go_roundw
      case rel => exact ⟨k + 1, by omega, by go_num, Lib.hid (HS.out.congr (fun j hj => by by_cases e : j = k <;> simp [e] <;> (try (by_cases h : j < k <;> simp [h] <;> omega)))), Lib.hid (HB.out.setCell (Nat.le_refl _) _)⟩
      case measure => simp [intOf]; omega
    · have HO2 := Lib.hid (HO.out.congr (g := fun s => .int .i64 ((trs W H f 0).of s)) (fun j hj => by simp [trs]; omega))
      have hlo := HO.out.lt
      clear HO
      go_wp2
      go_loopw [7, 8] (fun u kv wx => ∃ k L, k ≤ M ∧ kv = .int .i64 (k : Nat) ∧ Hid (AllAt W H f w.heap.size M w.heap.size w k u L wx)) (fun _ kv _ => 300 - (intOf kv).toNat)
      case atStart =>
        refine ⟨0, [], Nat.zero_le _, rfl, Lib.hid ⟨owns_new0 (by simp) hlo, HO2.out.alloc _, fun i v hv => by simp at hv, HB.out.alloc HB.out.size _, Nat.le_refl _⟩⟩
      case round =>
        obtain ⟨k, L, hk, rfl, HA⟩ := hrel
        obtain ⟨Ao, co, rfl⟩ := owns_slice HA.out.out
        by_cases hlt : k < M
        · have hno : (trs W H f k).of k = (trs W H f k).of k := rfl
          obtain ⟨z, hz⟩ : ∃ z, (trs W H f k).of k = z := ⟨_, rfl⟩
          have c2 := HA.out.of.cell hlt
          simp only [hz] at c2
          clear hno
          have hlo := HA.out.of.lt
          have HZ := Lib.hid hz
          clear hz
          by_cases hof : 0 ≤ z
          · go_wp2
            go_roundw
            case rel => exact ⟨k + 1, L, by omega, by go_num, Lib.hid (HA.out.skip (by rw [HZ.out]; exact hof))⟩
            case measure => simp [intOf]; omega
          · have hof' : decide (0 ≤ z) = false := by simpa using hof
            go_wp2_with fail
            have HBw := Lib.hid HA.out.below
            refine (specWalker _ p W H A n c k (HX.out.below HBw.out hp) hH (by omega) (by omega)).mono ?_
            rintro e w2 ⟨rfl, b2⟩
            have HB2 := Lib.hid b2
            have HW2 := Lib.hid (HBw.out.trans (b2.mono (by omega)))
            clear b2 c2
            have hwk := wkr_ok HV.out (k := k) (by rw [HM.out]; omega)
            have HOK := Lib.hid hwk.1
            clear hwk
            go_wp2_with fail
            obtain ⟨N, hNe⟩ : ∃ N, per W H f (wkr H k) = N := ⟨_, rfl⟩
            have hN := per_is HOK.out
            rw [hNe] at hN
            have HNe := Lib.hid hNe
            clear hNe
            refine (spec_trace w2 p W H A n c f (wtX H k) (wtY H k) 1 (wtD H k) (HX.out.below HW2.out hp) (HR.out.below HW2.out (Nat.le_refl _)) HOK.out _ hN).mono ?_
            rintro e w3 ⟨P, cP, S, cS, rfl, o1, o2, b3⟩
            have O1 := Lib.hid (show w3.ownsRow w2.heap.size 61 2 (.slice P N cP) N (ivs (ptl W H f (wkr H k) N)) from o1)
            have O2 := Lib.hid (show w3.ownsRow w2.heap.size 2 1 (.slice S N cS) N (ivs (sgl W H f (wkr H k) N)) from o2)
            have hN0 : 0 < N := hN.1
            have hN1 : N ≤ 1156 := hN.2.1
            have HB3 := Lib.hid (HB2.out.trans (b3.mono HB2.out.size))
            obtain ⟨gS, capS, eS, gS1, gS2⟩ := o2.form hN0
            have hgS : w.heap.size ≠ gS := by have := HB2.out.size; omega
            have HOF := Lib.hid (rowIs_below HA.out.of HB3.out hlo)
            have hlo3 : w.heap.size < w3.heap.size := HOF.out.lt
            simp only [Value.slice.injEq] at eS
            obtain ⟨rfl, -, rfl⟩ := eS
            have hcnt : (trs W H f k).cnt ≤ k := (trs_of_ge W H f k 0).2.2
            clear o1 o2 b3 hN gS1
            go_wp2
            go_loopw [11] (fun iv wx => ∃ i : Nat, i ≤ N ∧ iv = .int .i64 i ∧ Hid (wx.rowIs w.heap.size 2 M (fun s => .int .i64 (mkd W H f (wkr H k) (trs W H f k).cnt (trs W H f k).of i s))) ∧ Hid (Ext [w.heap.size] w3 wx)) (fun iv _ => 1200 - (intOf iv).toNat)
            case atStart => exact ⟨0, Nat.zero_le _, rfl, HOF, Lib.hid (Ext.refl _ _)⟩
            case round =>
              obtain ⟨i, hi, rfl, HO, HE⟩ := hrel
              have hlx := HO.out.lt
              by_cases hli : i < N
              · obtain ⟨zz, hzz⟩ : ∃ zz, sg H (stps W H f i (wkr H k)) = zz := ⟨_, rfl⟩
                have cS0 : wr.cell? ⟨gS, i, none⟩ = some (.int .i64 zz) := by
                  rw [← hzz]
                  refine HE.out.cell ?_ (by simpa using fun e => hgS e.symm)
                  rw [O2.out.cellAt i (by omega)]
                  exact sgl_get W H f (wkr H k) N i hli
                obtain ⟨s1, s2, -⟩ := sg_rng (stps_ok HOK.out i)
                rw [hzz, HM.out] at s2
                rw [hzz] at s1
                have hgx : gS < wr.heap.size := Nat.lt_of_lt_of_le gS2 HE.out.size
                have s3 : zz.toNat < M := by omega
                have hf2 := HO.out.frozen zz.toNat
                have c3 := HO.out.cell s3
                obtain ⟨old, hold⟩ : ∃ old, mkd W H f (wkr H k) (trs W H f k).cnt (trs W H f k).of i zz.toNat = old := ⟨_, rfl⟩
                rw [hold] at c3
                have HS := Lib.hid (HO.out.set zz.toNat (.int .i64 (trs W H f k).cnt))
                have HZZ := Lib.hid hzz
                clear hzz hold
                go_wp2
                go_roundw
                case rel =>
                  refine ⟨i + 1, by omega, by go_num, Lib.hid (HS.out.congr (fun j hj => ?_)), Lib.hid (HE.out.trans (Ext.set _ _ _ (by simp)))⟩
                  rw [mkd_succ, HZZ.out]
                  split <;> rfl
                case measure => simp [intOf]; omega
              · have ei : i = N := by omega
                subst ei
                have HO3 := Lib.hid (show wr.rowIs w.heap.size 2 M (fun s => .int .i64 (mkd W H f (wkr H k) (trs W H f k).cnt (trs W H f k).of (per W H f (wkr H k)) s)) from by rw [HNe.out]; exact HO.out)
                have HP3 := Lib.hid (show w3.ownsRow w2.heap.size 61 2 (.slice P (per W H f (wkr H k)) cP) (per W H f (wkr H k)) (ivs (ptl W H f (wkr H k) (per W H f (wkr H k)))) from by rw [HNe.out]; exact O1.out)
                have HOUT := Lib.hid (owns_ext (owns_belowS HA.out.out HB3.out) HE.out (fun b hb => by simp at hb; omega))
                have hlx3 := HE.out.size
                have hB2 := HB2.out.size
                obtain ⟨i2, hi2, hz0, hz1, hz2⟩ := info_parts infoPts
                have hXa := Lib.hid ((Below.refl wr.heap.size wr).alloc (Nat.le_refl _) (.cells #[.slice P i cP] 190))
                have hsz : (wr.alloc (.cells #[.slice P i cP] 190)).heap.size = wr.heap.size + 1 := by simp
                clear HO HOF
                go_wp2_with (first
                  | (at_builtin; refine wpList_append_lies _ (by rfl) _ _ _ (by rfl) (w.heap.size + 1) 190 i2 _ 1 24 Tryd.underlying155 hi2 hz0 hz1 hz2 rfl (by omega) _ (trs W H f k).cnt L (by rfl) (owns_belowS HOUT.out hXa.out) ⟨wr.heap.size, 0, none⟩ 1 1 [.slice P i cP] (by rfl) (by rfl) (World.news_of_block (cs := #[.slice P i cP]) (t := 190) (fr := (0, 0)) (heap_alloc_new wr _)) (fun u hu => by simp at hu; subst hu; rfl) (by omega) (by unfold maxLen; omega) (by omega) (by simp; omega) (wr.heap.size + 1) (by simp) ?_; intro g6 cap6 w6 hown6 hgrow6 hat6 hlt6; have HNX := Lib.hid (AllAt.next HA.out (by rw [HZ.out]; omega) HB3.out HE.out HO3.out HP3.out hB2 hXa.out (by rw [HNe.out]; exact hown6) hgrow6 hat6 hsz); clear hown6 hgrow6 hat6))
                go_roundw
                case rel =>
                  exact ⟨k + 1, _, by omega, by go_num, HNX⟩
                case measure => simp [intOf]; omega
        · have ek : k = M := by omega
          subst ek
          go_wp2
          go_ret2
          exact ⟨_, _, L, rfl, HA.out⟩
end Go.Proofs.YtbpdjmjkjiddjaaDoor.Base
