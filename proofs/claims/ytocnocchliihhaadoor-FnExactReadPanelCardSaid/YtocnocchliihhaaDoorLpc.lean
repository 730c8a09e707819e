/-
  LinesPicture: the specification's.
-/
import Derived.Test.YtocnocchliihhaaDoorRws
import Derived.Test.YtocnocchliihhaaDoorPan
import Derived.Test.YtocnocchliihhaaDoorShape
namespace Go.Proofs.YtocnocchliihhaaDoor.Base
open Go Go.RowKit
set_option linter.unusedVariables false
set_option linter.unusedSimpArgs false

/-- the segment's character -/
def lnc (x y : Nat) : UInt8 := if (x + y) % 2 = 0 then 47 else 92
def lnr (y k : Nat) : List UInt8 := (List.range k).map fun x => lnc x y
def lns (m k : Nat) : List (List UInt8) := (List.range k).map fun y => lnr y m
theorem lnr_succ (y k : Nat) : lnr y (k + 1) = lnr y k ++ [lnc k y] := by simp [lnr, List.range_succ]
theorem lns_succ (m k : Nat) : lns m (k + 1) = lns m k ++ [lnr k m] := by simp [lns, List.range_succ]
theorem lnr_len (y k : Nat) : (lnr y k).length = k := by simp [lnr]
theorem lns_len (m k : Nat) : (lns m k).length = k := by simp [lns]
/-- texts and a code -/
def TextsC (N : Nat) (g : Nat → ByteArray) (code : Int) (base : Nat) (w : World) (e : Ending) (w' : World) : Prop :=
  ∃ A c, e = .returned (.tuple #[.slice A N c, .int .i64 code]) ∧ VOwn w' base A N c (fun i => .string (g i)) ∧ Below base w w'
def lpN (W H : Int) (n : Nat) (f : Nat → Int) : Nat := if validB W H n f then (2 * H).toNat else 0
def lpG (W H : Int) (i : Nat) : ByteArray := ⟨(lnr i (2 * W).toNat).toArray⟩
def lpC (W H : Int) (n : Nat) (f : Nat → Int) : Int := if validB W H n f then 0 else 1
theorem lpN_le (W H : Int) (n : Nat) (f : Nat → Int) : lpN W H n f ≤ 16 := by
  unfold lpN
  cases hv : validB W H n f
  · simp
  · obtain ⟨-, hH, -, -⟩ := validB_yes hv
    obtain ⟨b1, b2⟩ := side_mk hH
    simp
    omega
set_option maxRecDepth 100000 in
set_option maxHeartbeats 2000000 in
theorem spec_linesPicture (w : World) (W H : Int) (A : Option Addr) (n c : Nat) (f : Nat → Int) (hr : Row .i64 w A n c f) :
    Calls Tryd.prog 16 #[.agg #[.int .i64 W, .int .i64 H, .slice A n c]] w (TextsC (lpN W H n f) (lpG W H) (lpC W H n f) w.heap.size w) := by
  have HL := Lib.hid (show Below w.heap.size w (w.alloc (.cells #[.int .i64 W, .int .i64 H, .slice A n c] 26)) from (Below.refl _ _).alloc (Nat.le_refl _) _)
  have HR := Lib.hid hr
  clear hr
  cases hv : validB W H n f
  · have e1 : lpN W H n f = 0 := by simp [lpN, hv]
    have e2 : lpC W H n f = 1 := by simp [lpC, hv]
    rw [e1, e2]
    have HV := Lib.hid hv
    clear hv e1 e2
    go_enter Tryd.func16, Tryd.ntmps16
    go_wp2_with fail
    refine (specOk_is HV.out (Box.new w _ W H A n c) (HR.out.below HL.out (Nat.le_refl _))).mono ?_
    rintro e w1 ⟨m, rfl, rfl⟩
    go_wp2
    go_ret2
    exact ⟨none, 0, rfl, ⟨Nat.le_refl _, Nat.zero_le _, fun h => absurd h (by omega)⟩, below_drewN HL.out m⟩
  · obtain ⟨hW, hH, -, -⟩ := validB_yes hv
    obtain ⟨a1, a2⟩ := side_mk hW
    obtain ⟨b1, b2⟩ := side_mk hH
    obtain ⟨a, rfl⟩ : ∃ a : Nat, W = a := ⟨W.toNat, by omega⟩
    obtain ⟨b, rfl⟩ : ∃ b : Nat, H = b := ⟨H.toNat, by omega⟩
    have e1 : lpN a b n f = 2 * b := by simp [lpN, hv]; omega
    have e2 : lpC a b n f = 0 := by simp [lpC, hv]
    have e3 : lpG (a : Int) (b : Int) = fun i => ⟨(lnr i (2 * a)).toArray⟩ := by funext i; unfold lpG; rw [show (2 * (a : Int)).toNat = 2 * a by omega]
    rw [e1, e2, e3]
    have HV := Lib.hid hv
    clear hv e1 e2 e3 hW hH
    obtain ⟨i2, hi2, hz0, hz1, hz2⟩ := info_parts infoU8
    obtain ⟨i3, hi3, hy0, hy1, hy2⟩ := info_parts infoU8s
    go_enter Tryd.func16, Tryd.ntmps16
    go_wp2_with fail
    refine (specOk_is HV.out (Box.new w _ a b A n c) (HR.out.below HL.out (Nat.le_refl _))).mono ?_
    rintro e w1 ⟨m, rfl, rfl⟩
    have HX := Lib.hid ((Cel.new w [.int .i64 a, .int .i64 b, .slice A n c] 26).below (below_drewN (Below.refl (w.alloc (.cells #[.int .i64 a, .int .i64 b, .slice A n c] 26)).heap.size (w.alloc (.cells #[.int .i64 a, .int .i64 b, .slice A n c] 26))) m) (by simp))
    have HB := Lib.hid (below_drewN HL.out m)
    clear HL
    generalize (w.alloc (.cells #[.int .i64 a, .int .i64 b, .slice A n c] 26)).drewN m = w1 at HX HB ⊢
    have hB0 : w.heap.size < w1.heap.size := HX.out.1
    have HO1 := Lib.hid (show RowsAt w1.heap.size w1 (lns (2 * a) 0) (.slice (some ⟨w1.heap.size, 0, none⟩) 0 0) [] (w1.alloc (.cells #[] 22)) from
      ⟨sp_new0 rfl (Nat.le_refl _), fun i v l h => by simp at h, (Below.refl _ _).alloc (Nat.le_refl _) _, Nat.le_refl _⟩)
    go_wp2
    go_loopw [4, 5] (fun u yv wr => ∃ (y : Nat) (V : List Value), y ≤ 2 * b ∧ yv = .int .i64 y ∧ Hid (RowsAt w1.heap.size w1 (lns (2 * a) y) u V wr)) (fun _ yv _ => 300 - (intOf yv).toNat)
    case atStart => exact ⟨0, [], Nat.zero_le _, rfl, HO1⟩
    case round =>
      clear HO1
      generalize hwo : wr = wo at *
      clear hwo wr
      obtain ⟨y, V, hy, rfl, HRW⟩ := hrel
      have hBr := HRW.out.below.size
      have HXr := Lib.hid (HX.out.below HRW.out.below HX.out.1)
      have k0 : wo.cell? ⟨w.heap.size, 0, none⟩ = some (.int .i64 a) := HXr.out.2 0 _ rfl
      have k1 : wo.cell? ⟨w.heap.size, 1, none⟩ = some (.int .i64 b) := HXr.out.2 1 _ rfl
      have kz := HXr.out.1
      obtain ⟨Ao, co, rfl⟩ := sp_slice HRW.out.out
      have hln := lns_len (2 * a) y
      rw [hln]
      by_cases hlt : y < 2 * b
      · clear hln
        have hdec : decide ((y : Int) < 2 * (b : Int)) = true := decide_eq_true (by omega)
        have HO2 := Lib.hid (sp_new0 (X := wo) (e := 5) (s := 1) rfl (Nat.le_refl wo.heap.size))
        go_wp2
        clear k0 k1 kz hdec
        go_loopw [6, 7] (fun lv xv wx => ∃ x : Nat, x ≤ 2 * a ∧ xv = .int .i64 x ∧ Hid (wx.ownsRow wo.heap.size 5 1 lv x (bys (lnr y x))) ∧ Hid (Below wo.heap.size wo wx)) (fun _ xv _ => 300 - (intOf xv).toNat)
        case atStart => exact ⟨0, Nat.zero_le _, rfl, HO2, Lib.hid ((Below.refl _ _).alloc (Nat.le_refl _) _)⟩
        case round =>
          clear HO2
          obtain ⟨x, hx, rfl, HU, HI⟩ := hrel
          have hI := HI.out.size
          have HXx := Lib.hid (HXr.out.below HI.out HXr.out.1)
          have k0 : wr.cell? ⟨w.heap.size, 0, none⟩ = some (.int .i64 a) := HXx.out.2 0 _ rfl
          have kz := HXx.out.1
          obtain ⟨Ai, ci, rfl⟩ := sp_slice HU.out
          by_cases hlx : x < 2 * a
          · by_cases hpar : (x + y) % 2 = 0
            · have p1 : ((x : Int) + y) % 2 = 0 := by omega
              have p2 : ((x : Int) + y).tmod 2 = 0 := by rw [show ((x : Int) + y).tmod 2 = (((x + y) % 2 : Nat) : Int) from rfl, hpar]; rfl
              have hXa := Lib.hid ((Below.refl wr.heap.size wr).alloc (Nat.le_refl _) (.cells #[.int .u8 47] 5))
              have hsz : (wr.alloc (.cells #[.int .u8 47] 5)).heap.size = wr.heap.size + 1 := by simp
              have HC := Lib.hid (show bys (lnr y (x + 1)) = bys (lnr y x) ++ [.int .u8 47] by rw [lnr_succ, bys_app, show lnc x y = 47 from if_pos hpar]; rfl)
              clear hpar
              go_wp2_with (first
                | (at_builtin; refine wpList_append_lies _ (by rfl) _ _ _ (by rfl) wo.heap.size 5 i2 _ 1 1 Tryd.underlying22 hi2 hz0 hz1 hz2 rfl (by omega) _ x (bys (lnr y x)) (by rfl) (sp_below HU.out hXa.out) ⟨wr.heap.size, 0, none⟩ 1 1 [.int .u8 47] (by rfl) (by rfl) (World.news_of_block (cs := #[.int .u8 47]) (t := 5) (fr := (0, 0)) (heap_alloc_new wr _)) (fun u hu => by simp at hu; subst hu; rfl) (by omega) (by unfold maxLen; omega) (by omega) (by simp; omega) (wr.heap.size + 1) (by simp) ?_; intro g6 cap6 w6 hown6 hgrow6 hat6 hlt6; have HOW := Lib.hid hown6; have HGR := Lib.hid hgrow6; have HAT := Lib.hid hat6; clear hown6 hgrow6 hat6))
              go_roundw
              case rel => exact ⟨x + 1, by omega, by go_num, Lib.hid (by rw [HC.out]; exact HOW.out), Lib.hid ((HI.out.trans (hXa.out.mono hI)).grown HGR.out (by omega) (fun b e => (HU.out.lt b e).1))⟩
              case measure => simp [intOf]; omega
            · have p1 : (((x : Int) + y) % 2 == 0) = false := beq_eq_false_iff_ne.2 (by omega)
              have p2 : (((x : Int) + y).tmod 2 == 0) = false := by rw [show ((x : Int) + y).tmod 2 = (((x + y) % 2 : Nat) : Int) from rfl]; exact beq_eq_false_iff_ne.2 (by omega)
              have hXa := Lib.hid ((Below.refl wr.heap.size wr).alloc (Nat.le_refl _) (.cells #[.int .u8 92] 5))
              have hsz : (wr.alloc (.cells #[.int .u8 92] 5)).heap.size = wr.heap.size + 1 := by simp
              have HC := Lib.hid (show bys (lnr y (x + 1)) = bys (lnr y x) ++ [.int .u8 92] by rw [lnr_succ, bys_app, show lnc x y = 92 from if_neg hpar]; rfl)
              clear hpar
              go_wp2_with (first
                | (at_builtin; refine wpList_append_lies _ (by rfl) _ _ _ (by rfl) wo.heap.size 5 i2 _ 1 1 Tryd.underlying22 hi2 hz0 hz1 hz2 rfl (by omega) _ x (bys (lnr y x)) (by rfl) (sp_below HU.out hXa.out) ⟨wr.heap.size, 0, none⟩ 1 1 [.int .u8 92] (by rfl) (by rfl) (World.news_of_block (cs := #[.int .u8 92]) (t := 5) (fr := (0, 0)) (heap_alloc_new wr _)) (fun u hu => by simp at hu; subst hu; rfl) (by omega) (by unfold maxLen; omega) (by omega) (by simp; omega) (wr.heap.size + 1) (by simp) ?_; intro g6 cap6 w6 hown6 hgrow6 hat6 hlt6; have HOW := Lib.hid hown6; have HGR := Lib.hid hgrow6; have HAT := Lib.hid hat6; clear hown6 hgrow6 hat6))
              go_roundw
              case rel => exact ⟨x + 1, by omega, by go_num, Lib.hid (by rw [HC.out]; exact HOW.out), Lib.hid ((HI.out.trans (hXa.out.mono hI)).grown HGR.out (by omega) (fun b e => (HU.out.lt b e).1))⟩
              case measure => simp [intOf]; omega
          · obtain rfl : x = 2 * a := by omega
            have hln := lns_len (2 * a) y
            have HO := Lib.hid (sp_below HRW.out.out HI.out)
            rw [hln] at HO
            have HLN := Lib.hid hln
            clear hln
            have hwz := HRW.out.hB
            have hXa := Lib.hid ((Below.refl wr.heap.size wr).alloc (Nat.le_refl _) (.cells #[.slice Ai (2 * a) ci] 22))
            have hsz : (wr.alloc (.cells #[.slice Ai (2 * a) ci] 22)).heap.size = wr.heap.size + 1 := by simp
            go_wp2_with (first
              | (at_builtin; refine wpList_append_lies _ (by rfl) _ _ _ (by rfl) w1.heap.size 22 i3 _ 1 24 Tryd.underlying82 hi3 hy0 hy1 hy2 rfl (by omega) _ y (V) (by rfl) (sp_below HO.out hXa.out) ⟨wr.heap.size, 0, none⟩ 1 1 [.slice Ai (2 * a) ci] (by rfl) (by rfl) (World.news_of_block (cs := #[.slice Ai (2 * a) ci]) (t := 22) (fr := (0, 0)) (heap_alloc_new wr _)) (fun u hu => by simp at hu; subst hu; rfl) (by omega) (by unfold maxLen; omega) (by omega) (by simp; omega) (wr.heap.size + 1) (by simp) ?_; intro g6 cap6 w6 hown6 hgrow6 hat6 hlt6; have HOW := Lib.hid hown6; have HGR := Lib.hid hgrow6; have HAT := Lib.hid hat6; clear hown6 hgrow6 hat6))
            go_roundw
            case rel =>
              have hlr := lnr_len y (2 * a)
              have hu := HU.out
              rw [← hlr] at hu
              have hnx := RowsAt.next (l := lnr y (2 * a)) (P := Ai) (c := ci) HRW.out HI.out (by rw [hlr] at hu ⊢; exact hu) (Nat.le_refl _) hXa.out (g := g6) (cap := cap6) (Hh := wr.heap.size + 1) (by rw [HLN.out, hlr]; exact HOW.out) (by rw [HLN.out]; exact HGR.out) (by rw [HLN.out]; exact HAT.out) hsz
              rw [HLN.out, ← lns_succ] at hnx
              exact ⟨y + 1, _, by omega, by go_num, Lib.hid hnx⟩
            case measure => simp [intOf]; omega
      · obtain rfl : y = 2 * b := by omega
        have hll : ∀ l ∈ lns (2 * a) (2 * b), 0 < l.length ∧ l.length ≤ 1024 := fun l hl => by
          obtain ⟨y', -, rfl⟩ := List.mem_map.1 hl
          rw [lnr_len]
          omega
        have hst := spec_strings wo _ _ (lns (2 * a) (2 * b)) Ao co V HRW.out (by rw [hln]; omega) hll
        unfold TextsL at hst
        rw [hln] at hst
        have HST := Lib.hid hst
        have HLN := Lib.hid hln
        have hBB := HRW.out.below
        have HB2 := Lib.hid (HB.out.trans (hBB.mono HB.out.size))
        clear hst hll hln hBB
        have hdec : decide (((2 * b : Nat) : Int) < 2 * (b : Int)) = false := decide_eq_false (by omega)
        go_wp2_with fail
        refine HST.out.mono ?_
        rintro e w3 ⟨A3, c3, rfl, hO, b3⟩
        have HO3 := Lib.hid hO
        have HB3 := Lib.hid (HB2.out.trans (b3.mono HB2.out.size))
        have hz3 := HB2.out.size
        clear hO b3
        go_wp2
        go_ret2
        refine ⟨A3, c3, rfl, ?_, HB3.out⟩
        have ht : txs (lns (2 * a) (2 * b)) = ((lns (2 * a) (2 * b)).map (fun l => (⟨l.toArray⟩ : ByteArray))).map Value.string := by simp [txs]
        have ho := HO3.out
        rw [ht] at ho
        have hv := vown_of ho hz3 (by unfold maxLen; omega)
        refine ⟨hv.1, hv.2.1, fun hn => ?_⟩
        obtain ⟨b', o', e1, e2, e3, e4⟩ := hv.2.2 hn
        refine ⟨b', o', e1, e2, e3, fun i hi => ⟨(e4 i hi).1.trans ?_, (e4 i hi).2⟩⟩
        have hg : ((lns (2 * a) (2 * b)).map (fun l => (⟨l.toArray⟩ : ByteArray))).getD i ⟨#[]⟩ = ⟨(lnr i (2 * a)).toArray⟩ := by
          simp [List.getD_eq_getElem?_getD, lns, hi]
        show some (Value.string _) = _
        rw [hg]
end Go.Proofs.YtocnocchliihhaaDoor.Base
