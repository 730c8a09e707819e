/-
  PanelPicture: the specification's.
-/
import Derived.Test.YtocnocchliihhaaDoorLpc
import Derived.Test.YtocnocchliihhaaDoorPan
import Derived.Test.YtocnocchliihhaaDoorNum
namespace Go.Proofs.YtocnocchliihhaaDoor.Base
open Go Go.RowKit
set_option linter.unusedVariables false
set_option linter.unusedSimpArgs false

/-- the character of a kind of break -/
def sgU (k : Int) : UInt8 := if k = 1 then 124 else if k = 2 then 45 else 43
theorem sign_is (w : World) (k : Int) : Calls Tryd.prog 94 #[.int .i64 k] w fun e w' => e = .returned (.int .u8 ((sgU k).toNat : Int)) ∧ w = w' := by
  by_cases h1 : k = 1
  · subst h1
    go_enter Tryd.func94, Tryd.ntmps94
    go_wp2
    go_ret
    exact ⟨rfl, rfl⟩
  · by_cases h2 : k = 2
    · subst h2
      go_enter Tryd.func94, Tryd.ntmps94
      go_wp2
      go_ret
      exact ⟨rfl, rfl⟩
    · have e : sgU k = 43 := by unfold sgU; rw [if_neg h1, if_neg h2]
      have b1 : (k == 1) = false := beq_eq_false_iff_ne.2 h1
      have b2 : (k == 2) = false := beq_eq_false_iff_ne.2 h2
      rw [e]
      clear e h1 h2
      go_enter Tryd.func94, Tryd.ntmps94
      go_wp2
      go_ret
      exact ⟨rfl, rfl⟩
/-- the picture's character at a place -/
def pch (W H : Int) (f : Nat → Int) (x y : Nat) : UInt8 := if hasB W H x y then (if edgeB W H x y then 46 else sgU (f (numN W x y).toNat)) else 32
def pcr (W H : Int) (f : Nat → Int) (y k : Nat) : List UInt8 := (List.range k).map fun x => pch W H f x y
def pcl (W H : Int) (f : Nat → Int) (m k : Nat) : List (List UInt8) := (List.range k).map fun y => pcr W H f y m
theorem pcr_succ (W H : Int) (f : Nat → Int) (y k : Nat) : pcr W H f y (k + 1) = pcr W H f y k ++ [pch W H f k y] := by simp [pcr, List.range_succ]
theorem pcl_succ (W H : Int) (f : Nat → Int) (m k : Nat) : pcl W H f m (k + 1) = pcl W H f m k ++ [pcr W H f k m] := by simp [pcl, List.range_succ]
theorem pcr_len (W H : Int) (f : Nat → Int) (y k : Nat) : (pcr W H f y k).length = k := by simp [pcr]
theorem pcl_len (W H : Int) (f : Nat → Int) (m k : Nat) : (pcl W H f m k).length = k := by simp [pcl]
theorem cell_al {w : World} {a : Addr} {v : Value} {o : Obj} (h : w.cell? a = some v) : (w.alloc o).cell? a = some v := by
  rw [World.cell?_alloc_lt _ _ _ (World.block_lt_of_cell? w a h)]
  exact h
theorem cell_gr {X w1 : World} {b o : Nat} {v : Value} {r : Option Nat} (h : X.cell? ⟨b, o, none⟩ = some v) (hg : X.grownBy w1 r) (hne : r = some b → False) : w1.cell? ⟨b, o, none⟩ = some v :=
  (World.cell?_of_block (a := ⟨b, o, none⟩) (hg.block b (World.block_lt_of_cell? X _ h) (fun e => hne e.symm))).trans h
theorem cell_be {B : Nat} {w w' : World} {b o : Nat} {v : Value} (h : w.cell? ⟨b, o, none⟩ = some v) (hb : Below B w w') (hB : b < B) : w'.cell? ⟨b, o, none⟩ = some v := (hb.cell (p := ⟨b, o, none⟩) hB).trans h
set_option maxRecDepth 100000 in
set_option maxHeartbeats 8000000 in
theorem spec_rows (w : World) (p : Nat) (W H : Int) (A : Option Addr) (n c : Nat) (f : Nat → Int) (hb : Box w p W H A n c) (hr : Row .i64 w A n c f) (hv : validB W H n f = true) :
    Calls Tryd.prog 52 #[.pointer (some ⟨p, 0, none⟩)] w (RowsOut (pcl W H f (2 * W + 1).toNat (2 * H + 1).toNat) w) := by
  obtain ⟨hW, hH, -, -⟩ := validB_yes hv
  obtain ⟨a1, a2⟩ := side_mk hW
  obtain ⟨b1, b2⟩ := side_mk hH
  obtain ⟨a, ha⟩ : ∃ a : Nat, (2 * W + 1).toNat = a := ⟨_, rfl⟩
  obtain ⟨b, hbb⟩ : ∃ b : Nat, (2 * H + 1).toNat = b := ⟨_, rfl⟩
  rw [ha, hbb]
  have ha1 : 1 ≤ a ∧ a ≤ 17 := by omega
  have hb1 : 1 ≤ b ∧ b ≤ 17 := by omega
  have hbx := fun (y : Nat) => (show (y : Int) ≤ 2 * H ↔ y < b by omega)
  have hax := fun (x : Nat) => (show (x : Int) ≤ 2 * W ↔ x < a by omega)
  have HBX := Lib.hid hbx
  have HAX := Lib.hid hax
  have HHB := Lib.hid (show (b : Int) = 2 * H + 1 by omega)
  have HHA := Lib.hid (show (a : Int) = 2 * W + 1 by omega)
  have HV := Lib.hid hv
  have HWs := Lib.hid hW
  have HHs := Lib.hid hH
  have HR := Lib.hid hr
  have HX := Lib.hid hb
  have hp0 : p < w.heap.size := hb.1
  clear ha hbb hbx hax hr hb hv hW hH
  obtain ⟨i2, hi2, hz0, hz1, hz2⟩ := info_parts infoU8
  obtain ⟨i3, hi3, hy0, hy1, hy2⟩ := info_parts infoU8s
  have HO1 := Lib.hid (show RowsAt w.heap.size w (pcl W H f a 0) (.slice (some ⟨w.heap.size, 0, none⟩) 0 0) [] (w.alloc (.cells #[] 22)) from
    ⟨sp_new0 rfl (Nat.le_refl _), fun i v l h => by simp at h, (Below.refl _ _).alloc (Nat.le_refl _) _, Nat.le_refl _⟩)
  go_enter Tryd.func52, Tryd.ntmps52
  go_wp2
  go_loopw [3, 4] (fun u yv wr => ∃ (y : Nat) (V : List Value), y ≤ b ∧ yv = .int .i64 y ∧ Hid (RowsAt w.heap.size w (pcl W H f a y) u V wr)) (fun _ yv _ => 300 - (intOf yv).toNat)
  case atStart => exact ⟨0, [], Nat.zero_le _, rfl, HO1⟩
  case round =>
    clear HO1
    generalize hwo : wr = wo at *
    clear hwo wr
    obtain ⟨y, V, hy, rfl, HRW⟩ := hrel
    have hBr := HRW.out.below.size
    have HXr := Lib.hid (HX.out.below HRW.out.below hp0)
    obtain ⟨kz, k0, k1, k2⟩ := id HXr.out
    obtain ⟨Ao, co, rfl⟩ := sp_slice HRW.out.out
    have hln := pcl_len W H f a y
    rw [hln]
    by_cases hlt : y < b
    · clear hln
      have hdec : decide ((y : Int) ≤ 2 * H) = true := decide_eq_true ((HBX.out y).2 hlt)
      have HO2 := Lib.hid (sp_new0 (X := wo) (e := 5) (s := 1) rfl (Nat.le_refl wo.heap.size))
      go_wp2
      clear k0 k1 k2 kz hdec
      go_loopw [5, 6] (fun lv xv wx => ∃ x : Nat, x ≤ a ∧ xv = .int .i64 x ∧ Hid (wx.ownsRow wo.heap.size 5 1 lv x (bys (pcr W H f y x))) ∧ Hid (Below wo.heap.size wo wx)) (fun _ xv _ => 300 - (intOf xv).toNat)
      case atStart => exact ⟨0, Nat.zero_le _, rfl, HO2, Lib.hid ((Below.refl _ _).alloc (Nat.le_refl _) _)⟩
      case round =>
        clear HO2
        obtain ⟨x, hx, rfl, HU, HI⟩ := hrel
        have hI := HI.out.size
        have HXx := Lib.hid (HXr.out.below HI.out HXr.out.1)
        obtain ⟨kz, k0, k1, k2⟩ := id HXx.out
        obtain ⟨Ai, ci, rfl⟩ := sp_slice HU.out
        by_cases hlx : x < a
        · have hdec : decide ((x : Int) ≤ 2 * W) = true := decide_eq_true ((HAX.out x).2 hlx)
          have bN := (Below.refl wr.heap.size wr).alloc (Nat.le_refl _) (.cells #[.int .i64 (x : Int), .int .i64 (y : Int)] 70)
          have KQ := Lib.hid (Cel.new wr [.int .i64 (x : Int), .int .i64 (y : Int)] 70)
          have HXn := Lib.hid (HXx.out.below bN kz)
          have HIn := Lib.hid (HI.out.trans (bN.mono hI))
          have HUn := Lib.hid (sp_below HU.out bN)
          have hsn : (wr.alloc (.cells #[.int .i64 (x : Int), .int .i64 (y : Int)] 70)).heap.size = wr.heap.size + 1 := by simp
          clear bN
          cases hh : hasB W H x y
          · go_wp2_with fail
            refine (specHas_is hh HXn.out HWs.out HHs.out).mono ?_
            rintro e w2 ⟨rfl, c2⟩
            have HI2 := Lib.hid (HIn.out.trans (c2.mono (by omega)))
            have HU2 := Lib.hid (sp_below HUn.out c2)
            have hI2 := HI2.out.size
            have hz2' := c2.size
            clear c2 k0 k1 k2 kz HXn HIn HUn KQ hsn
            have hXa := Lib.hid ((Below.refl w2.heap.size w2).alloc (Nat.le_refl _) (.cells #[.int .u8 32] 5))
            have hsz : (w2.alloc (.cells #[.int .u8 32] 5)).heap.size = w2.heap.size + 1 := by simp
            have HC := Lib.hid (show bys (pcr W H f y (x + 1)) = bys (pcr W H f y x) ++ [.int .u8 32] by rw [pcr_succ, bys_app, show pch W H f x y = 32 from by unfold pch; rw [hh]; rfl]; rfl)
            clear hh
            go_wp2_with (first
              | (at_builtin; refine wpList_append_lies _ (by rfl) _ _ _ (by rfl) wo.heap.size 5 i2 _ 1 1 Tryd.underlying22 hi2 hz0 hz1 hz2 rfl (by omega) _ x (bys (pcr W H f y x)) (by rfl) (sp_below HU2.out hXa.out) ⟨w2.heap.size, 0, none⟩ 1 1 [.int .u8 32] (by rfl) (by rfl) (World.news_of_block (cs := #[.int .u8 32]) (t := 5) (fr := (0, 0)) (heap_alloc_new w2 _)) (fun u hu => by simp at hu; subst hu; rfl) (by omega) (by unfold maxLen; omega) (by omega) (by simp; omega) (w2.heap.size + 1) (by simp) ?_; intro g6 cap6 w6 hown6 hgrow6 hat6 hlt6; have HOW := Lib.hid hown6; have HGR := Lib.hid hgrow6; have HAT := Lib.hid hat6; clear hown6 hgrow6 hat6))
            go_roundw
            case rel => exact ⟨x + 1, by omega, by go_num, Lib.hid (by rw [HC.out]; exact HOW.out), Lib.hid ((HI2.out.trans (hXa.out.mono hI2)).grown HGR.out (by omega) (fun b e => (HU2.out.lt b e).1))⟩
            case measure => simp [intOf]; omega
          · cases he : edgeB W H x y
            · obtain ⟨x1, x2, y1, y2⟩ := inside HWs.out HHs.out hh he
              have hnl := num_lt HWs.out HHs.out hh he
              have hni := (validB_yes HV.out).2.2.1
              obtain ⟨k, hk⟩ : ∃ k : Nat, numN W x y = k := ⟨(numN W x y).toNat, by omega⟩
              have hkn : k < n := by omega
              have HC0 := Lib.hid (show pch W H f x y = sgU (f k) by unfold pch; rw [hh, he, hk]; rfl)
              obtain ⟨sg, hsg⟩ : ∃ sg : Int, ((sgU (f k)).toNat : Int) = sg := ⟨_, rfl⟩
              have HC := Lib.hid (show bys (pcr W H f y (x + 1)) = bys (pcr W H f y x) ++ [.int .u8 sg] by rw [pcr_succ, bys_app, HC0.out, hsg])
              have HK := Lib.hid hk
              have HSG := Lib.hid hsg
              have hnc := HR.out.1
              have hcm := HR.out.2.1
              unfold maxLen at hcm
              obtain ⟨bA, oA, rfl, hbA, hcA⟩ := HR.out.2.2.2 (by omega)
              have HCK := Lib.hid (hcA k hkn)
              have HUL : Hid (∀ g, (Value.slice Ai x ci).ownBlock = some g → wo.heap.size ≤ g ∧ g < wr.heap.size) := Lib.hid (fun g e => HU.out.lt g e)
              clear hnl hni hk hsg hcA
              go_wp2_with fail
              refine (specHas_is hh HXn.out HWs.out HHs.out).mono ?_
              rintro e w3 ⟨rfl, c3⟩
              have HX3 := Lib.hid (HXn.out.below c3 HXn.out.1)
              have HI3 := Lib.hid (HIn.out.trans (c3.mono (by omega)))
              have HU3 := Lib.hid (sp_below HUn.out c3)
              have KQ3 := Lib.hid (KQ.out.below c3 KQ.out.1)
              have q0 := KQ3.out.2 0 _ rfl
              have q1 := KQ3.out.2 1 _ rfl
              have qz := KQ3.out.1
              have hI3 := HI3.out.size
              clear c3 k0 k1 k2 kz HXn HIn HUn KQ hsn
              go_wp2_with fail
              refine (specEdge_is he HX3.out HWs.out HHs.out).mono ?_
              rintro e w4 ⟨rfl, c4⟩
              have HX4 := Lib.hid (HX3.out.below c4 HX3.out.1)
              have HI4 := Lib.hid (HI3.out.trans (c4.mono (by omega)))
              have HU4 := Lib.hid (sp_below HU3.out c4)
              have KQ4 := Lib.hid (KQ3.out.below c4 KQ3.out.1)
              have hI4 := HI4.out.size
              have HB4 := Lib.hid (HRW.out.below.trans (HI4.out.mono hBr))
              clear c4 q0 q1 qz HX3 HI3 HU3 KQ3 hh he
              obtain ⟨kz4, -, -, s0⟩ := id HX4.out
              have s1 := KQ4.out.2 0 _ rfl
              have s2 := KQ4.out.2 1 _ rfl
              have qz4 := KQ4.out.1
              have s3 := cell_be HCK.out HB4.out hbA
              have hbA4 : bA < w4.heap.size := World.block_lt_of_cell? _ _ s3
              have hgw : (k : Int).toNat = k := rfl
              go_wp2_with fail
              go_region_held3 (fun w' => w'.cell? ⟨p, 2, none⟩ = some (.slice (some ⟨bA, oA, none⟩) n c) ∧ w'.cell? ⟨wr.heap.size, 0, none⟩ = some (.int .i64 (x : Int)) ∧ w'.cell? ⟨wr.heap.size, 1, none⟩ = some (.int .i64 (y : Int)) ∧ w'.cell? ⟨bA, oA + k, none⟩ = some (.int .i64 (f k)))
                (first | exact ⟨s0, s1, s2, s3⟩ | exact ⟨r0, r1, r2, r3⟩ | exact ⟨t0, t1, t2, t3⟩ | exact ⟨cell_al t0, cell_al t1, cell_al t2, cell_al t3⟩ | go_keep)
                (first
                  | (go_at_call 95; refine (HK.out ▸ specNumber _ p W H (some ⟨bA, oA, none⟩) n c x y (HX4.out.below ((Below.refl w4.heap.size w4).drew) HX4.out.1) HWs.out x1 x2 y1 y2).mono ?_; rintro e wa ⟨rfl, ba⟩; have HA : Hid (Below w4.heap.size w4 wa) := Lib.hid (((Below.refl w4.heap.size w4).drew).trans ba); have hza := HA.out.size; have HUa := Lib.hid (sp_below HU4.out HA.out); have t0 := cell_be s0 HA.out kz4; have t1 := cell_be s1 HA.out qz4; have t2 := cell_be s2 HA.out qz4; have t3 := cell_be s3 HA.out hbA4; clear ba)
                  | (go_at_call 94; refine (HSG.out ▸ sign_is _ (f k)).mono ?_; rintro e wb ⟨rfl, rfl⟩)
                  | (refine step_append_lies _ (by rfl) _ _ _ (by rfl) wo.heap.size 5 i2 _ 1 1 Tryd.underlying22 hi2 hz0 hz1 hz2 rfl (by omega) (.slice Ai x ci) x (bys (pcr W H f y x)) (by rfl) (by first | exact sp_below HUa.out ((Below.refl _ _).alloc (Nat.le_refl _) _).drew | exact sp_below HUa.out ((Below.refl _ _).alloc (Nat.le_refl _) _)) ⟨wa.heap.size, 0, none⟩ 1 1 [.int .u8 sg] (by rfl) (by rfl) (World.news_of_block (cs := #[.int .u8 sg]) (t := 5) (fr := (0, 0)) (heap_alloc_new wa _)) (fun u hu => by simp at hu; subst hu; rfl) (by omega) (by unfold maxLen; omega) (by omega) (by simp; omega) (wa.heap.size + 1) (by simp) ?_; intro gg cap w1 hown1 hgrow hat hlt1; have r0 := cell_gr (cell_al t0) hgrow (fun e => by have := HUL.out _ e; omega); have r1 := cell_gr (cell_al t1) hgrow (fun e => by have := HUL.out _ e; omega); have r2 := cell_gr (cell_al t2) hgrow (fun e => by have := HUL.out _ e; omega); have r3 := cell_gr (cell_al t3) hgrow (fun e => by have := HUL.out _ e; omega)))
              have HOW := Lib.hid hown1
              have hIa : wo.heap.size ≤ wa.heap.size := by omega
              have HB1 := Lib.hid (((HI4.out.trans (HA.out.mono hI4)).alloc hIa (.cells #[.int .u8 sg] 5)).grown hgrow (by simp; omega) (fun b e => (HUL.out b e).1))
              clear hown1 hgrow hat r0 r1 r2 r3 t0 t1 t2 t3 s0 s1 s2 s3
              go_wp2
              go_roundw
              case rel => exact ⟨x + 1, by omega, by go_num, Lib.hid (by rw [HC.out]; exact HOW.out), HB1⟩
              case measure => simp [intOf]; omega
            · go_wp2_with fail
              refine (specHas_is hh HXn.out HWs.out HHs.out).mono ?_
              rintro e w3 ⟨rfl, c3⟩
              have HX3 := Lib.hid (HXn.out.below c3 HXn.out.1)
              have HI3 := Lib.hid (HIn.out.trans (c3.mono (by omega)))
              have HU3 := Lib.hid (sp_below HUn.out c3)
              have KQ3 := Lib.hid (KQ.out.below c3 KQ.out.1)
              have q0 := KQ3.out.2 0 _ rfl
              have q1 := KQ3.out.2 1 _ rfl
              have qz := KQ3.out.1
              have hI3 := HI3.out.size
              clear c3 k0 k1 k2 kz HXn HIn HUn KQ hsn
              go_wp2_with fail
              refine (specEdge_is he HX3.out HWs.out HHs.out).mono ?_
              rintro e w2 ⟨rfl, c2⟩
              have HI2 := Lib.hid (HI3.out.trans (c2.mono (by omega)))
              have HU2 := Lib.hid (sp_below HU3.out c2)
              have hI2 := HI2.out.size
              clear c2 q0 q1 qz HX3 HI3 HU3 KQ3
              have hXa := Lib.hid ((Below.refl w2.heap.size w2).alloc (Nat.le_refl _) (.cells #[.int .u8 46] 5))
              have hsz : (w2.alloc (.cells #[.int .u8 46] 5)).heap.size = w2.heap.size + 1 := by simp
              have HC := Lib.hid (show bys (pcr W H f y (x + 1)) = bys (pcr W H f y x) ++ [.int .u8 46] by rw [pcr_succ, bys_app, show pch W H f x y = 46 from by unfold pch; rw [hh, he]; rfl]; rfl)
              clear he hh
              go_wp2_with (first
                | (at_builtin; refine wpList_append_lies _ (by rfl) _ _ _ (by rfl) wo.heap.size 5 i2 _ 1 1 Tryd.underlying22 hi2 hz0 hz1 hz2 rfl (by omega) _ x (bys (pcr W H f y x)) (by rfl) (sp_below HU2.out hXa.out) ⟨w2.heap.size, 0, none⟩ 1 1 [.int .u8 46] (by rfl) (by rfl) (World.news_of_block (cs := #[.int .u8 46]) (t := 5) (fr := (0, 0)) (heap_alloc_new w2 _)) (fun u hu => by simp at hu; subst hu; rfl) (by omega) (by unfold maxLen; omega) (by omega) (by simp; omega) (w2.heap.size + 1) (by simp) ?_; intro g6 cap6 w6 hown6 hgrow6 hat6 hlt6; have HOW := Lib.hid hown6; have HGR := Lib.hid hgrow6; have HAT := Lib.hid hat6; clear hown6 hgrow6 hat6))
              go_roundw
              case rel => exact ⟨x + 1, by omega, by go_num, Lib.hid (by rw [HC.out]; exact HOW.out), Lib.hid ((HI2.out.trans (hXa.out.mono hI2)).grown HGR.out (by omega) (fun b e => (HU2.out.lt b e).1))⟩
              case measure => simp [intOf]; omega
        · have hdec : decide ((x : Int) ≤ 2 * W) = false := decide_eq_false (fun h => hlx ((HAX.out x).1 h))
          obtain rfl : x = a := by omega
          have hln := pcl_len W H f x y
          have HO := Lib.hid (sp_below HRW.out.out HI.out)
          rw [hln] at HO
          have HLN := Lib.hid hln
          clear hln
          have hXa := Lib.hid ((Below.refl wr.heap.size wr).alloc (Nat.le_refl _) (.cells #[.slice Ai x ci] 22))
          have hsz : (wr.alloc (.cells #[.slice Ai x ci] 22)).heap.size = wr.heap.size + 1 := by simp
          go_wp2_with (first
            | (at_builtin; refine wpList_append_lies _ (by rfl) _ _ _ (by rfl) w.heap.size 22 i3 _ 1 24 Tryd.underlying82 hi3 hy0 hy1 hy2 rfl (by omega) _ y (V) (by rfl) (sp_below HO.out hXa.out) ⟨wr.heap.size, 0, none⟩ 1 1 [.slice Ai x ci] (by rfl) (by rfl) (World.news_of_block (cs := #[.slice Ai x ci]) (t := 22) (fr := (0, 0)) (heap_alloc_new wr _)) (fun u hu => by simp at hu; subst hu; rfl) (by omega) (by unfold maxLen; omega) (by omega) (by simp; omega) (wr.heap.size + 1) (by simp) ?_; intro g6 cap6 w6 hown6 hgrow6 hat6 hlt6; have HOW := Lib.hid hown6; have HGR := Lib.hid hgrow6; have HAT := Lib.hid hat6; clear hown6 hgrow6 hat6))
          go_roundw
          case rel =>
            have hlr := pcr_len W H f y x
            have hu := HU.out
            rw [← hlr] at hu
            have hnx := RowsAt.next (l := pcr W H f y x) (P := Ai) (c := ci) HRW.out HI.out (by rw [hlr] at hu ⊢; exact hu) (Nat.le_refl _) hXa.out (g := g6) (cap := cap6) (Hh := wr.heap.size + 1) (by rw [HLN.out, hlr]; exact HOW.out) (by rw [HLN.out]; exact HGR.out) (by rw [HLN.out]; exact HAT.out) hsz
            rw [HLN.out, ← pcl_succ] at hnx
            exact ⟨y + 1, _, by omega, by go_num, Lib.hid hnx⟩
          case measure => simp [intOf]; omega
    · have hdec : decide ((y : Int) ≤ 2 * H) = false := decide_eq_false (fun h => hlt ((HBX.out y).1 h))
      obtain rfl : y = b := by omega
      have HLN := Lib.hid hln
      clear hln
      go_wp2
      go_ret
      exact ⟨Ao, co, V, congrArg (fun k => Ending.returned (Value.slice Ao k co)) HLN.out.symm, HRW.out⟩
def ppN (W H : Int) (n : Nat) (f : Nat → Int) : Nat := if validB W H n f then (2 * H + 1).toNat else 0
theorem ppN_le (W H : Int) (n : Nat) (f : Nat → Int) : ppN W H n f ≤ 17 := by
  unfold ppN
  cases hv : validB W H n f
  · simp
  · obtain ⟨-, hH, -, -⟩ := validB_yes hv
    obtain ⟨b1, b2⟩ := side_mk hH
    simp
    omega
def ppG (W H : Int) (f : Nat → Int) (i : Nat) : ByteArray := ⟨(pcr W H f i (2 * W + 1).toNat).toArray⟩
end Go.Proofs.YtocnocchliihhaaDoor.Base
