/-
  CrossingIndex: the model's count and the program's map of numbers.
-/
import Derived.Test.YtbpdjmjkjiddjaaDoorPtm
import Derived.Test.YtbpdjmjkjiddjaaDoorCxp
import Derived.Test.YtbpdjmjkjiddjaaDoorWsc
import Derived.Deep.DeepMust
namespace Go.Proofs.YtbpdjmjkjiddjaaDoor.Base
open Go Go.RowKit
set_option linter.unusedVariables false
set_option linter.unusedSimpArgs false

attribute [local go_sem] Oper.semAt_some
/-- the index of the crossing at a point -/
def ciV (W H : Int) (n : Nat) (f : Nat → Int) (x y : Int) : Int := if cxC W H n f x y = 0 then ((zl f (numN W x y).toNat).length : Int) else 0
theorem ci_at {W H : Int} {n : Nat} {f : Nat → Int} {x y : Int} (h : cxC W H n f x y = 0) :
    (zl f (numN W x y).toNat).length < (zl f n).length ∧ zpt W f n (zl f (numN W x y).toNat).length = (x, y) := by
  obtain ⟨hv, hh, hx⟩ := cxC_zero h
  obtain ⟨he, hf⟩ := isX_edge hx
  obtain ⟨hW, hH, hn, -⟩ := validB_yes hv
  obtain ⟨l1, l2⟩ := num_lt hW hH hh he
  have hk : (numN W x y).toNat < n := by omega
  obtain ⟨q1, q2⟩ := num_pt hW hH hh he
  refine ⟨(zl_at hf n hk).2, ?_⟩
  rw [zpt_at hf hk, Int.toNat_of_nonneg l1, q1, q2]
set_option maxHeartbeats 1000000 in
theorem spec_index (w : World) (p : Nat) (W H : Int) (A : Option Addr) (n c : Nat) (f : Nat → Int) (x y : Int) (hb : Box w p W H A n c) (hr : Row .i64 w A n c f) (hc : cxC W H n f x y = 0) :
    Calls Tryd.prog 134 #[.pointer (some ⟨p, 0, none⟩), .agg #[.int .i64 x, .int .i64 y]] w (Gives (.int .i64 ((zl f (numN W x y).toNat).length : Int)) w) := by
  obtain ⟨hv, hh, hx⟩ := cxC_zero hc
  obtain ⟨he, -⟩ := isX_edge hx
  obtain ⟨hW, hH, hn, -⟩ := validB_yes hv
  obtain ⟨x1, x2, y1, y2⟩ := inside hW hH hh he
  obtain ⟨l1, l2⟩ := num_lt hW hH hh he
  have HL := Lib.hid (show Below w.heap.size w (w.alloc (.cells #[.int .i64 x, .int .i64 y] 61)) from (Below.refl _ _).alloc (Nat.le_refl _) _)
  have HX := Lib.hid (hb.below HL.out hb.1)
  have HR := Lib.hid (hr.below HL.out (Nat.le_refl _))
  have HD := Lib.hid (Cel.new w [.int .i64 x, .int .i64 y] 61)
  obtain ⟨K, hK⟩ : ∃ K : Nat, (numN W x y).toNat = K := ⟨_, rfl⟩
  have hKn : K < n := by omega
  have hKe : numN W x y = (K : Int) := by omega
  have hn1 : n ≤ 112 := by have := (inner_bd hW hH).2; omega
  have HNm := Lib.hid (fun (w9 : World) (h9 : Box w9 p W H A n c) => (by have h := specNumber w9 p W H A n c x y h9 hW x1 x2 y1 y2; rw [hKe] at h; exact h : Calls Tryd.prog 171 #[.pointer (some ⟨p, 0, none⟩), .agg #[.int .i64 x, .int .i64 y]] w9 (Gives (.int .i64 (K : Int)) w9)))
  rw [hK]
  clear hb hr hv hh hx he hn hK hKe l1 l2 hc
  go_enter Tryd.func134, Tryd.ntmps134
  go_wp2
  go_loopw [5, 6] (fun s kv wr => ∃ k : Nat, k ≤ K ∧ kv = .int .i64 (k : Int) ∧ s = .int .i64 ((zl f k).length : Int) ∧ Hid (Below (w.alloc (.cells #[.int .i64 x, .int .i64 y] 61)).heap.size (w.alloc (.cells #[.int .i64 x, .int .i64 y] 61)) wr)) (fun _ kv _ => K - (intOf kv).toNat)
  case atStart => exact ⟨0, Nat.zero_le _, rfl, rfl, Lib.hid (Below.refl _ _)⟩
  case round =>
    obtain ⟨k, hk, rfl, rfl, HB⟩ := hrel
    have HDr := Lib.hid (HD.out.below HB.out HD.out.1)
    have HXr := Lib.hid (HX.out.below HB.out HX.out.1)
    have HRr := Lib.hid (HR.out.below HB.out (Nat.le_refl _))
    have hzl := zl_len f k
    obtain ⟨m, hm⟩ : ∃ m, (zl f k).length = m := ⟨_, rfl⟩
    have dz := HDr.out.1
    have d0 := HDr.out.2 0 _ rfl
    have d1 := HDr.out.2 1 _ rfl
    rw [hm] at hzl ⊢
    have HM := Lib.hid hm
    clear hm
    go_wp2_with fail
    refine (HNm.out _ HXr.out).mono ?_
    rintro e w2 ⟨rfl, b2⟩
    have HB2 := Lib.hid (HB.out.trans (b2.mono HB.out.size))
    have HX2 := Lib.hid (HXr.out.below b2 HXr.out.1)
    have HR2 := Lib.hid (HRr.out.below b2 (Nat.le_refl _))
    clear b2 dz d0 d1 HDr HXr HRr HB
    by_cases hlt : k < K
    · obtain ⟨b, o, rfl, hbl, hcell⟩ := HR2.out.2.2.2 (by omega)
      have ck := hcell k (by omega)
      obtain ⟨pz, k0, k1, k2⟩ := id HX2.out
      clear hcell
      by_cases hf : f k = 0
      · have HZ := Lib.hid (show (zl f (k + 1)).length = m + 1 by rw [zl_yes hf, List.length_append, HM.out]; rfl)
        rw [hf] at ck
        clear hf
        go_wp2
        go_roundw
        case rel => exact ⟨k + 1, by omega, by go_num, by rw [HZ.out]; go_num, HB2⟩
        case measure => simp [intOf]; omega
      · have hfb : (f k == 0) = false := beq_eq_false_iff_ne.2 hf
        have HZ := Lib.hid (show (zl f (k + 1)).length = m by rw [zl_no hf, HM.out])
        clear hf
        go_wp2
        go_roundw
        case rel => exact ⟨k + 1, by omega, by go_num, by rw [HZ.out], HB2⟩
        case measure => simp [intOf]; omega
    · obtain rfl : k = K := by omega
      go_wp2
      go_ret
      exact ⟨ret_int (by rw [HM.out]), HL.out.trans (HB2.out.mono HL.out.size)⟩
theorem holds_noX (B : Nat) : HoldsX B (fun _ _ => False) := ⟨fun _ _ _ h _ => h, fun _ _ _ _ h _ _ => h⟩
theorem ext_grownN {X : List Nat} {w w' : World} {r : Option Nat} (h : w.grownBy w' r) (hr : ∀ b, r = some b → b ∈ X) : Ext X w w' :=
  ⟨h.os, h.tape, h.output, h.size, fun k hk hx => h.block k hk (fun e => hx (hr k e.symm))⟩
/-- what stands while the map of the crossings' numbers is filled -/
structure NmI (wL : World) (mb : Nat) (W : Int) (f : Nat → Int) (n : Nat) (w0 : World) (j : Nat) (w : World) : Prop where
  sz : wL.heap.size ≤ w.heap.size
  old : ∀ b, b < wL.heap.size → b ≠ mb → w.heap[b]? = wL.heap[b]?
  map : PtM w mb W f n j
  bel : Below w0.heap.size w0 w
theorem NmI.b {wL w0 : World} {mb : Nat} {W : Int} {f : Nat → Int} {n j : Nat} {w w' : World} (h : NmI wL mb W f n w0 j w) (hb : Below w.heap.size w w') : NmI wL mb W f n w0 j w' :=
  ⟨Nat.le_trans h.sz hb.size, fun b h1 h2 => (hb.block b (Nat.lt_of_lt_of_le h1 h.sz)).trans (h.old b h1 h2), h.map.of_block (hb.block mb h.map.lt), h.bel.trans (hb.mono h.bel.size)⟩
theorem holds_nm {wL w0 : World} {mb : Nat} {W : Int} {f : Nat → Int} {n : Nat} (hc : mb < wL.heap.size) (hw : w0.heap.size ≤ wL.heap.size) : HoldsY wL.heap.size (fun X j A => X = [mb] ∧ NmI wL mb W f n w0 j A) where
  below := fun X k A A' h hb => ⟨h.1, h.2.b hb⟩
  put := fun X k A l o' h hl _ ho => ⟨h.1, by simpa using h.2.sz, fun b h1 h2 => (World.putObj_heap_other (by omega)).trans (h.2.old b h1 h2), h.2.map.of_block (World.putObj_heap_other (by omega)), h.2.bel.grown (grownBy_putObj' _ _ _) h.2.bel.size (fun j e => by cases e; omega)⟩
  set := fun X k A b i u h hb _ => ⟨h.1, by simpa [World.setCell] using h.2.sz, fun b' h1 h2 => (Below.heap_setCell _ _ _ _ (by simp; omega)).trans (h.2.old b' h1 h2), h.2.map.of_block (Below.heap_setCell _ _ _ _ (by simp; omega)), h.2.bel.setCell (p := ⟨b, i, none⟩) (show w0.heap.size ≤ b by omega) u⟩
/-- what crossingNumbers leaves -/
def NumsMade (W : Int) (f : Nat → Int) (n : Nat) (w : World) (e : Ending) (w' : World) : Prop :=
  ∃ b, e = .returned (.map (some b)) ∧ PtM w' b W f n (zl f n).length ∧ Below w.heap.size w w'
set_option maxHeartbeats 4000000 in
theorem impl_numbers (w : World) (W H : Int) (A : Option Addr) (n c : Nat) (f : Nat → Int) (hr : Row .i64 w A n c f) (hv : validB W H n f = true) :
    Calls Tryd.prog 81 #[.agg #[.int .i64 W, .int .i64 H, .slice A n c]] w (NumsMade W f n w) := by
  have HL := Lib.hid (show Below w.heap.size w (w.alloc (.cells #[.int .i64 W, .int .i64 H, .slice A n c] 35)) from (Below.refl _ _).alloc (Nat.le_refl _) _)
  obtain ⟨hW, hH, hn, -⟩ := validB_yes hv
  have hn1 : n ≤ 112 := by have := (inner_bd hW hH).2; omega
  have hzl := zl_len f n
  have HN := Lib.hid hn
  have HR := Lib.hid hr
  have HV := Lib.hid hv
  have hmm := @run_makeMap Tryd.prog
  clear hr hv hn
  refine (callsIn_wide (n := 6)).1 ?_
  refine callsIn_of_wp_marks Tryd.func81 rfl trivial ?_ rfl
  simp only [Tryd.ntmps81, List.size_toArray, List.length_cons, List.length_nil, Nat.reduceAdd, Nat.reduceSub, Array.replicate_succ, Array.replicate_zero, List.push_toArray, List.append_toArray, List.nil_append, List.cons_append]
  gi_wp2_with fail
  clear hmm
  have HM3 : Hid (PtM (((w.alloc (.cells #[.int .i64 W, .int .i64 H, .slice A n c] 35)).alloc (.map #[] 0)).alloc (.cells #[.map (some (w.heap.size + 1))] 113)) (w.heap.size + 1) W f n 0) := Lib.hid (by
    have h := (PtM.new (w.alloc (.cells #[.int .i64 W, .int .i64 H, .slice A n c] 35)) W f n)
    rw [World.size_alloc] at h
    exact h.of_block (Below.heap_alloc _ _ _ (by simp)))
  have HN3 : Hid (At (((w.alloc (.cells #[.int .i64 W, .int .i64 H, .slice A n c] 35)).alloc (.map #[] 0)).alloc (.cells #[.map (some (w.heap.size + 1))] 113)) (w.heap.size + 1 + 1) #[.map (some (w.heap.size + 1))] 113) := Lib.hid (by have h := At.new ((w.alloc (.cells #[.int .i64 W, .int .i64 H, .slice A n c] 35)).alloc (.map #[] 0)) #[.map (some (w.heap.size + 1))] 113; simpa using h)
  have HL3 := Lib.hid ((HL.out.alloc HL.out.size (.map #[] 0)).alloc (by simp; omega) (.cells #[.map (some (w.heap.size + 1))] 113))
  have hz3 : (((w.alloc (.cells #[.int .i64 W, .int .i64 H, .slice A n c] 35)).alloc (.map #[] 0)).alloc (.cells #[.map (some (w.heap.size + 1))] 113)).heap.size = w.heap.size + 1 + 1 + 1 := by simp
  generalize ((w.alloc (.cells #[.int .i64 W, .int .i64 H, .slice A n c] 35)).alloc (.map #[] 0)).alloc (.cells #[.map (some (w.heap.size + 1))] 113) = w3 at HM3 HN3 HL3 hz3 ⊢
  clear HL
  refine ⟨trivial, (callsIn_wide.2 (impl_crossings w3 W H A n c)).mono ?_⟩
  rintro e w5 ⟨rfl, hP5, c5, z5⟩
  have HQ5 := Lib.hid hP5
  have HM5 := Lib.hid (HM3.out.of_block (c5.block _ HM3.out.lt))
  have HN5 := Lib.hid (HN3.out.below c5 HN3.out.lt)
  have HL5 := Lib.hid (HL3.out.trans (c5.mono HL3.out.size))
  have hle : w.heap.size ≤ w5.heap.size := HL5.out.size
  rw [hz3] at HQ5 z5 ⊢
  have hq5 : w.heap.size + 1 + 1 + 1 < w5.heap.size := by omega
  have HZL := Lib.hid hzl
  clear c5 hP5 HM3 HN3 HL3 hz3 z5 hzl
  gi_wp2
  have hit : IterY Fence.wide 5 Tryd.prog 117 #[.pointer (some ⟨w.heap.size + 1 + 1 + 1, 0, none⟩)] (fun j => #[paggP (zpt W f n j)]) (zl f n).length w.heap.size [w.heap.size + 1 + 1 + 1] w5 :=
    cross_iter 5 (by omega) w w5 W H A n c f _ HR.out HV.out HL5.out HQ5.out
  refine wpIn_rangeY rfl (by omega) (gf := 117) (lb := #[.pointer (some ⟨w.heap.size + 1 + 1 + 1, 0, none⟩)]) rfl trivial (enters_of Tryd.func117 (by kernel_rfl) rfl) hit hle (by simp; omega) (Below.refl _ _) (fun _ => rfl)
    (fun X j A => X = [w.heap.size + 1] ∧ NmI w5 (w.heap.size + 1) W f n w j A) (fun _ _ _ => False) (holds_nm (by omega) hle) (fun _ => holds_noX _) [w.heap.size + 1] (by simp; omega)
    ⟨rfl, Nat.le_refl _, fun _ _ _ => rfl, HM5.out, HL5.out⟩
    (fun j a' X => ∃ p4, a' = { tmps := #[.agg #[.int .i64 W, .int .i64 H, .slice A n c], .pointer (some ⟨w.heap.size, 0, none⟩), .map none, .pointer (some ⟨w.heap.size + 1 + 1, 0, none⟩), .pointer (some ⟨p4, 0, none⟩), .map (some (w.heap.size + 1)), .agg #[.int .i64 W, .int .i64 H, .slice A n c], .func (.func 117) #[] #[.pointer (some ⟨w.heap.size + 1 + 1 + 1, 0, none⟩)], paggP (zpt W f n j), undef, undef, undef, undef, undef], defers := [] } ∧ At X p4 #[.int .i64 (zpt W f n j).1, .int .i64 (zpt W f n j).2] 61)
    (fun k a' X l o' h ho => by obtain ⟨p4, e, ha⟩ := h; exact ⟨p4, e, at_put ha ho⟩) ?assign ?body ?done ?stop
  case assign =>
    intro l j X Aw J hj hX hi hJ
    clear hit
    dsimp only [paggP]
    obtain ⟨v, hv⟩ : ∃ v, v = zpt W f n j := ⟨_, rfl⟩
    rw [← hv] at hJ ⊢
    have HVv := Lib.hid hv
    clear hv
    gi_wp2
    exact hJ _ _ ((Below.refl _ _).alloc (Nat.le_refl _) _) ⟨_, rfl, At.new _ _ _⟩
  case body =>
    rintro l j X a' Aw hj hX hXb ⟨rfl, hI⟩ ⟨p4, rfl, h4⟩
    clear hit
    have HI := Lib.hid hI
    have H4 := Lib.hid h4
    obtain ⟨w6, hrun, hP6, hG6⟩ := hI.map.put hW hH HN.out hj (by have := HZL.out; omega)
    have hlen := fun ty => hI.map.len ty
    obtain ⟨v, hv⟩ : ∃ v, v = zpt W f n j := ⟨_, rfl⟩
    rw [← hv] at H4 hrun ⊢
    have HP6 := Lib.hid hP6
    have HG6 := Lib.hid hG6
    have HNw := Lib.hid (HN5.out.of_block (HI.out.old (w.heap.size + 1 + 1) HN5.out.lt (by omega)))
    have hsz := HI.out.sz
    have HXb := Lib.hid hXb
    have HJ := Lib.hid hj
    clear hv hI h4 hP6 hG6 hX hXb hj
    have q0 : Aw.cell? ⟨p4, 0, none⟩ = some (.int .i64 v.1) := H4.out.cellv (i := 0) rfl
    have q1 : Aw.cell? ⟨p4, 1, none⟩ = some (.int .i64 v.2) := H4.out.cellv (i := 1) rfl
    have n0 : Aw.cell? ⟨w.heap.size + 1 + 1, 0, none⟩ = some (.map (some (w.heap.size + 1))) := HNw.out.cellv (i := 0) rfl
    have lq := H4.out.lt
    have ln := HNw.out.lt
    gi_wp2
    have hmz := HP6.out.lt
    refine ⟨[w.heap.size + 1], ⟨rfl, Nat.le_trans HI.out.sz HG6.out.size, fun b h1 h2 => (HG6.out.block b (by omega) (fun e => h2 (by injection e))).trans (HI.out.old b h1 h2), HP6.out, HI.out.bel.grown HG6.out HI.out.bel.size (fun b e => by cases e; omega)⟩, ext_grownN HG6.out (by simp), fun b hb => ⟨.inl hb, by simp at hb; omega⟩⟩
  case done =>
    rintro D X WN hD hX ⟨rfl, hI⟩ hKD
    clear hit
    have HI := Lib.hid hI
    have HKD := Lib.hid hKD
    have HNw := Lib.hid (HN5.out.of_block (HI.out.old (w.heap.size + 1 + 1) HN5.out.lt (by omega)))
    clear hI hKD hX
    have n0 : WN.cell? ⟨w.heap.size + 1 + 1, 0, none⟩ = some (.map (some (w.heap.size + 1))) := HNw.out.cellv (i := 0) rfl
    have ln := HNw.out.lt
    gi_wp2
    refine ⟨by simp, .inl ⟨_, _, rfl, run_takeDeferred HKD.out, ?_⟩⟩
    refine ⟨_, ?_, ⟨_, rfl, HI.out.map.of_block (World.putObj_heap_other (by omega)), HI.out.bel.grown (grownBy_putObj' WN D (.deferred none)) HI.out.bel.size (fun j e => by cases e; omega)⟩⟩
    simp [results, Tryd.results81, go_sem]
  case stop =>
    rintro D t k X hD hk h _
    exact h.elim
theorem ci_look {W H : Int} {n : Nat} {f : Nat → Int} {x y : Int} {w : World} {b : Nat} (hc : cxC W H n f x y = 0) (hm : PtM w b W f n (zl f n).length) :
    (Instr.lookup 113 (.map (some b)) (.agg #[.int .i64 x, .int .i64 y]) false).run Tryd.prog w = .ok (.int .i64 ((zl f (numN W x y).toNat).length : Int)) w := by
  obtain ⟨h1, h2⟩ := ci_at hc
  obtain ⟨hW, hH, hn, -⟩ := validB_yes (cxC_zero hc).1
  have h := hm.look hW hH hn h1 h1
  rw [h2] at h
  exact h
set_option maxHeartbeats 1000000 in
theorem impl_crossingIndex (w : World) (W H : Int) (A : Option Addr) (n c : Nat) (f : Nat → Int) (x y : Int) (hr : Row .i64 w A n c f) :
    Calls Tryd.prog 42 #[.agg #[.int .i64 W, .int .i64 H, .slice A n c], .agg #[.int .i64 x, .int .i64 y]] w (Gives (.tuple #[.int .i64 (ciV W H n f x y), .int .i64 (cxC W H n f x y)]) w) := by
  have HL := Lib.hid (show Below w.heap.size w ((w.alloc (.cells #[.int .i64 W, .int .i64 H, .slice A n c] 35)).alloc (.cells #[.int .i64 x, .int .i64 y] 61)) from ((Below.refl _ _).alloc (Nat.le_refl _) _).alloc (by simp) _)
  have HX := Lib.hid ((Cel.new w [.int .i64 W, .int .i64 H, .slice A n c] 35).below ((Below.refl _ (w.alloc (.cells #[.int .i64 W, .int .i64 H, .slice A n c] 35))).alloc (Nat.le_refl _) (.cells #[.int .i64 x, .int .i64 y] 61)) (by simp))
  have HR := Lib.hid (hr.below HL.out (Nat.le_refl _))
  have HC := Lib.hid (impl_crossingCode _ W H A n c f x y HR.out)
  have D0 := Cel.new (w.alloc (.cells #[.int .i64 W, .int .i64 H, .slice A n c] 35)) [.int .i64 x, .int .i64 y] 61
  simp only [World.size_alloc] at D0
  have HD := Lib.hid D0
  unfold ciV
  have HK := Lib.hid (fun (w9 : World) (b9 : Nat) (hc : cxC W H n f x y = 0) (hm : PtM w9 b9 W f n (zl f n).length) => ci_look hc hm)
  have HV := Lib.hid (fun (hc : cxC W H n f x y = 0) => (cxC_zero hc).1)
  obtain ⟨cp, hcp⟩ : ∃ cp, cxC W H n f x y = cp := ⟨_, rfl⟩
  rw [hcp] at HC HK HV ⊢
  clear D0 hr hcp
  by_cases c0 : cp = 0
  · have HK1 := Lib.hid (fun w9 b9 hm => HK.out w9 b9 c0 hm)
    have HV1 := Lib.hid (HV.out c0)
    clear HK HV
    subst c0
    rw [if_pos rfl]
    obtain ⟨ix, hix⟩ : ∃ ix : Int, ((zl f (numN W x y).toNat).length : Int) = ix := ⟨_, rfl⟩
    rw [hix] at HK1 ⊢
    clear hix
    go_enter Tryd.func42, Tryd.ntmps42
    go_wp2_with fail
    refine HC.out.mono ?_
    rintro e w1 ⟨rfl, b1⟩
    have HX1 := Lib.hid (HX.out.below b1 HX.out.1)
    have HD1 := Lib.hid (HD.out.below b1 HD.out.1)
    have HR1 := Lib.hid (HR.out.below b1 (Nat.le_refl _))
    have HL1 := Lib.hid (HL.out.trans (b1.mono HL.out.size))
    clear b1 HC HX HD HL HR
    have pz := HX1.out.1
    have p0 := HX1.out.2 0 _ rfl
    have p1 := HX1.out.2 1 _ rfl
    have p2 := HX1.out.2 2 _ rfl
    have dz := HD1.out.1
    have d0 := HD1.out.2 0 _ rfl
    have d1 := HD1.out.2 1 _ rfl
    have OL := Lib.hid (Old.mk_ (Below.refl w1.heap.size w1).drew)
    go_wp2
    go_region_held3 (fun w' => (∀ b o, b < (w1).heap.size → w'.cell? ⟨b, o, none⟩ = (w1).cell? ⟨b, o, none⟩) ∧ Below (w1).heap.size (w1) w')
      (first | assumption | exact OL.out | exact Old.trans (by assumption) (by assumption))
      (first | (go_at_call 81; go_must (refine Calls.mono (impl_numbers _ W H A n c f ?_ HV1.out) ?_; exact HR1.out.old (by assumption); (rintro e wa ⟨mb, rfl, hm, bq⟩); (have hlk := HK1.out wa mb hm))))
    rename_i hS
    have hB := Lib.hid hS.2
    clear hS OL
    go_wp2
    go_ret2
    exact ⟨rfl, HL1.out.trans (hB.out.mono HL1.out.size)⟩
  · have hcb : (cp != 0) = true := bne_iff_ne.2 c0
    rw [if_neg c0]
    clear c0
    go_enter Tryd.func42, Tryd.ntmps42
    go_wp2_with fail
    refine HC.out.mono ?_
    rintro e w1 ⟨rfl, b1⟩
    go_wp2
    go_ret2
    exact ⟨rfl, HL.out.trans (b1.mono HL.out.size)⟩
end Go.Proofs.YtbpdjmjkjiddjaaDoor.Base
