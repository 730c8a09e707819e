/-
  PanelText: the specification's.
-/
import Derived.Test.YtocnocchliihhaaDoorPpc
import Derived.Test.YtocnocchliihhaaDoorDcs
import Derived.Test.YtocnocchliihhaaDoorShape
import Derived.ArgAppend
import Derived.Laws.IdiomStrings
import Derived.Deep.AppendLies
namespace Go.Proofs.YtocnocchliihhaaDoor.Base
open Go Go.RowKit
set_option linter.unusedVariables false
set_option linter.unusedSimpArgs false

/-- the text's head, and its signs -/
def txh (W H : Int) : List UInt8 := Lib.itoa W ++ [120] ++ Lib.itoa H ++ [58]
def txs_ (f : Nat → Int) (k : Nat) : List UInt8 := (List.range k).map fun i => sgU (f i)
def txl (W H : Int) (f : Nat → Int) (k : Nat) : List UInt8 := txh W H ++ txs_ f k
def txT (W H : Int) (n : Nat) (f : Nat → Int) : ByteArray := if validB W H n f then ⟨(txl W H f n).toArray⟩ else ⟨#[]⟩
theorem txl_0 (W H : Int) (f : Nat → Int) : txl W H f 0 = txh W H := by simp [txl, txs_]
theorem txl_succ (W H : Int) (f : Nat → Int) (k : Nat) : txl W H f (k + 1) = txl W H f k ++ [sgU (f k)] := by simp [txl, txs_, List.range_succ]
theorem txl_len (W H : Int) (f : Nat → Int) (k : Nat) : (txl W H f k).length = (txh W H).length + k := by simp [txl, txs_]
theorem txh_cat (W H : Int) : (((decS W ++ ⟨#[120]⟩) ++ decS H) ++ ⟨#[58]⟩ : ByteArray) = ⟨(txh W H).toArray⟩ := by
  apply ByteArray.ext
  simp [ByteArray.data_append, decS, txh]
theorem txh_len {W H : Int} (hW : sideB W = true) (hH : sideB H = true) : (txh W H).length ≤ 50 := by
  obtain ⟨a1, a2⟩ := side_mk hW
  obtain ⟨b1, b2⟩ := side_mk hH
  have h1 := Lib.itoa_length_le W (by omega) (by omega)
  have h2 := Lib.itoa_length_le H (by omega) (by omega)
  simp [txh]
  omega
/-- v is a row of bytes that reads as l, in a block from base on, with what may lie behind it free to write -/
def BRow (w : World) (base : Nat) (v : Value) (l : List UInt8) : Prop :=
  ∃ g cap, v = .slice (some ⟨g, 0, none⟩) l.length cap ∧ base ≤ g ∧ g < w.heap.size ∧ (∀ j u, (bys l)[j]? = some u → w.cell? ⟨g, j, none⟩ = some u) ∧ ∀ j, l.length ≤ j → j < cap → (w.cell? ⟨g, j, none⟩).isSome = true ∧ w.frozen? ⟨g, j, none⟩ = false
theorem BRow.below {w w' : World} {base : Nat} {v : Value} {l : List UInt8} (h : BRow w base v l) (hb : Below w.heap.size w w') : BRow w' base v l := by
  obtain ⟨g, cap, e, h1, h2, h3, h4⟩ := h
  exact ⟨g, cap, e, h1, Nat.lt_of_lt_of_le h2 hb.size, fun j u hj => (hb.cell (p := ⟨g, j, none⟩) h2).trans (h3 j u hj), fun j j1 j2 => by
    rw [hb.cell (p := ⟨g, j, none⟩) h2, hb.frozen (p := ⟨g, j, none⟩) h2]
    exact h4 j j1 j2⟩
theorem BRow.mono {w : World} {base base' : Nat} {v : Value} {l : List UInt8} (h : BRow w base v l) (hb : base' ≤ base) : BRow w base' v l := by
  obtain ⟨g, cap, e, h1, h2⟩ := h
  exact ⟨g, cap, e, by omega, h2⟩
theorem BRow.of_owns {w : World} {B base : Nat} {v : Value} {l : List UInt8} (hl : 0 < l.length) (h : w.ownsRow B 5 1 v l.length (bys l)) (hB : base ≤ B) : BRow w base v l := by
  rcases h.2 with ⟨_, h0⟩ | ⟨g, cap, cur, e, hb, hg, h1, h2, h3, h4⟩
  · omega
  · subst e
    refine ⟨g, cap, rfl, by omega, (Array.getElem?_eq_some_iff.1 hg).1, fun j u hj => ?_, fun j j1 j2 => ⟨?_, ?_⟩⟩
    · have hjl : j < (bys l).length := by
        rcases Nat.lt_or_ge j (bys l).length with q | q
        · exact q
        · rw [List.getElem?_eq_none q] at hj; cases hj
      rw [bys_len] at hjl
      rw [h.cellAt j (by omega)]
      exact hj
    · rw [Lib.cell_of_heap hg, Array.getElem?_eq_getElem (by omega)]
      rfl
    · exact h.frozenAt j
theorem bytesRow_is {w : World} (s : ByteArray) (cap : Nat) (fr : Nat × Nat) (hc : s.size ≤ cap) (h0 : fr.1 = (bytesRow s cap).size) (h1 : (bytesRow s cap).size = cap) :
    BRow (w.alloc (.cells (bytesRow s cap) 5 fr)) w.heap.size (.slice (some ⟨w.heap.size, 0, none⟩) s.size cap) s.data.toList := by
  have hg := heap_alloc_new w (.cells (bytesRow s cap) 5 fr)
  have hsl : s.data.toList.length = s.size := by rw [Array.length_toList]; rfl
  refine ⟨w.heap.size, cap, by rw [hsl], Nat.le_refl _, by rw [World.size_alloc]; omega, fun j u hj => ?_, fun j j1 j2 => ⟨?_, ?_⟩⟩
  · rw [Lib.cell_of_heap hg]
    have hjl : j < s.data.size := by
      rcases Nat.lt_or_ge j s.data.size with q | q
      · exact q
      · rw [List.getElem?_eq_none (by rw [bys_len, Array.length_toList]; omega)] at hj; cases hj
    rw [bytesRow_at s cap j hjl]
    obtain ⟨a, ha, rfl⟩ : ∃ a, s.data[j]? = some a ∧ Value.int .u8 (a.toNat : Int) = u := by simpa [bys] using hj
    rw [Array.getElem?_eq_getElem hjl] at ha
    injection ha with ha
    rw [ha]
  · rw [Lib.cell_of_heap hg, Array.getElem?_eq_getElem (by omega)]
    rfl
  · unfold World.frozen?
    rw [hg]
    simp
    omega
theorem upon_bytes {P : Program} {o : Oper} {a : Act} {K : Act → World → Prop} {Q : Exit → Act → World → Prop} {w : World} {s : ByteArray} (hs : P.underlying 9 = some .string) (hd : P.underlying 22 = some (.slice 5)) (he : P.underlying 5 = some (.int .u8))
    (h : ∀ cap w', BRow w' w.heap.size (.slice (some ⟨w.heap.size, 0, none⟩) s.size cap) s.data.toList → Below w.heap.size w w' → K (a.put o.dst (.slice (some ⟨w.heap.size, 0, none⟩) s.size cap)) w') :
    o.upon P a K Q (((convert 9 22 (.string s)).run P w).andThen fun v w' => .ok (.value v) w') := by
  rw [run_bytes_of_string w _ _ _ s hs hd he]
  have hge := grownCap_ge w s.size 0 5
  have hsz : (bytesRow s (grownCap w s.size 0 5)).size = grownCap w s.size 0 5 := by
    have e : s.data.size = s.size := rfl
    unfold bytesRow
    rw [Array.size_append, Array.size_map, Array.size_replicate, e]
    omega
  exact h _ _ (bytesRow_is (w := w.drew) s _ _ hge rfl hsz) (((Below.refl _ _).drew).alloc (Nat.le_refl _) _)
/-- one byte more -/
theorem wpList_append_br {P : Program} {i2 : TypeInfo} (w : World) {ops : Array Oper} {rest : List Oper} {o : Oper} {a : Act} {Q : Exit → Act → World → Prop} (hg : o.guard = none) (s x : Operand) (hop : o.op = Op.call { callee := Callee.builtin Builtin.append, args := #[s, x], argTypes := #[22, 22] })
    (hu : P.underlying 22 = some (.slice 5)) (hi : P.info? 5 = some i2) (hz0 : i2.zero = some (.int .u8 0)) (hz1 : i2.size = 1) (hz2 : i2.bytes = 1)
    (base : Nat) (v : Value) (l : List UInt8) (hs : a.eval s = v) (hb : BRow w base v l) (ad : Addr) (c : UInt8) (cv : Int) (hcv : (c.toNat : Int) = cv) (hx : a.eval x = .slice (some ad) 1 1) (hc : ∀ j u, [Value.int .u8 cv][j]? = some u → w.cell? (ad.add j) = some u) (hl : l.length ≤ 100000) (hbase : base ≤ w.heap.size)
    (hK : ∀ v' w', BRow w' base v' (l ++ [c]) → Below base w w' → wpList P ops Q rest (a.put o.dst v') w') : wpList P ops Q (o :: rest) a w := by
  obtain ⟨g, cap, rfl, h1, h2, h3, h4⟩ := hb
  have hlen : (bys l).length = l.length := bys_len l
  refine wpList_append_arg w hg s x _ hop 5 i2 _ 1 1 hu hi hz0 hz1 hz2 rfl (by decide) g 0 l.length cap (bys l) hs (by omega) (fun j u hj => by rw [Nat.zero_add]; exact h3 j u hj) ad 1 1 [.int .u8 cv] hx rfl hc (fun u hu => by simp at hu; subst hu; rfl) ?_ (by unfold maxLen; omega) (by omega) ?_ ?_
  · intro hr j hj
    obtain rfl : j = 0 := by simpa using hj
    have := h4 l.length (Nat.le_refl _) (by omega)
    simpa using this
  · intro hr
    have h5 := h4 l.length (Nat.le_refl _) (by omega)
    have e1 : w.setCells g (0 + l.length * 1) [.int .u8 cv] = w.setCell ⟨g, l.length, none⟩ (.int .u8 cv) := by
      simp [World.setCells]
    rw [e1]
    refine hK _ _ ⟨g, cap, by simp, h1, by simpa [World.setCell] using h2, fun j u hj => ?_, fun j j1 j2 => ?_⟩ ((Below.refl base w).setCell (p := ⟨g, l.length, none⟩) h1 _)
    · rw [bys_app, hcv] at hj
      by_cases e : j = l.length
      · subst e
        obtain ⟨q, hq⟩ := Option.isSome_iff_exists.1 h5.1
        rw [World.cell?_setCell_same _ _ _ hq]
        rw [List.getElem?_append_right (by omega), hlen, Nat.sub_self] at hj
        exact hj
      · rw [World.cell?_setCell_other _ _ _ _ (fun h => e (by injection h; omega))]
        rcases Nat.lt_or_ge j (bys l).length with q | q
        · rw [List.getElem?_append_left q] at hj
          exact h3 j u hj
        · rw [List.getElem?_eq_none (by simp; omega)] at hj
          cases hj
    · rw [List.length_append, List.length_singleton] at j1
      rw [World.cell?_setCell_other _ _ _ _ (fun h => by injection h; omega), World.frozen?_setCell]
      exact h4 j (by omega) j2
  · intro hgr v' w' hown hgrow
    refine hK _ _ (BRow.of_owns (B := w.heap.size) (by simp) ?_ hbase) ((Below.refl base w).grown hgrow hbase (fun b e => by cases e))
    rw [bys_app, hcv, List.length_append, List.length_singleton]
    exact hown
set_option maxRecDepth 100000 in
set_option maxHeartbeats 4000000 in
theorem spec_text (w : World) (p : Nat) (W H : Int) (A : Option Addr) (n c : Nat) (f : Nat → Int) (hb : Box w p W H A n c) (hr : Row .i64 w A n c f) (hv : validB W H n f = true) :
    Calls Tryd.prog 70 #[.pointer (some ⟨p, 0, none⟩)] w (Gives (.string ⟨(txl W H f n).toArray⟩) w) := by
  obtain ⟨hW, hH, hn, -⟩ := validB_yes hv
  obtain ⟨i2, hi2, hz0, hz1, hz2⟩ := info_parts infoU8
  obtain ⟨a1, a2⟩ := side_mk hW
  obtain ⟨b1, b2⟩ := side_mk hH
  have hl0 := txh_len hW hH
  obtain ⟨q1, q2⟩ := inner_bd' hW hH
  have hn112 : n ≤ 112 := by omega
  have HX := Lib.hid hb
  have HR := Lib.hid hr
  obtain ⟨R, hR⟩ : ∃ R : ByteArray, ⟨(txl W H f n).toArray⟩ = R := ⟨_, rfl⟩
  rw [hR]
  have HRR := Lib.hid hR
  have hnc := hr.1
  have hcm := hr.2.1
  unfold maxLen at hcm
  clear hb hr hR hn hv hW hH
  obtain ⟨pz, k0, k1, k2⟩ := id HX.out
  have OL := Lib.hid (Old.mk_ (Below.refl w.heap.size w).drew)
  have hcat := txh_cat W H
  have hsz : (⟨(txh W H).toArray⟩ : ByteArray).size = (txh W H).length := by simp [ByteArray.size]
  obtain ⟨sW, hsW⟩ : ∃ s, decS W = s := ⟨_, rfl⟩
  obtain ⟨sH, hsH⟩ : ∃ s, decS H = s := ⟨_, rfl⟩
  have hdW : sW.size ≤ 21 := by rw [← hsW]; have := Lib.itoa_length_le W (by omega) (by omega); simpa [decS, ByteArray.size] using this
  have hdH : sH.size ≤ 21 := by rw [← hsH]; have := Lib.itoa_length_le H (by omega) (by omega); simpa [decS, ByteArray.size] using this
  rw [hsW, hsH] at hcat
  have HSW := Lib.hid hsW
  have HSH := Lib.hid hsH
  have HCAT := Lib.hid hcat
  have z1 : (sW ++ (⟨#[120]⟩ : ByteArray)).size = sW.size + 1 := by rw [ByteArray.size_append]; rfl
  have z2 : ((sW ++ (⟨#[120]⟩ : ByteArray)) ++ sH).size = sW.size + 1 + sH.size := by rw [ByteArray.size_append, z1]
  have y1 : ¬ (9223372036854775807 < sW.size + 1) := by omega
  have y2 : ¬ (9223372036854775807 < sW.size + 1 + sH.size) := by omega
  have y3 : ¬ (9223372036854775807 < sW.size + 1 + sH.size + 1) := by omega
  clear hsW hsH hcat
  go_enter Tryd.func70, Tryd.ntmps70
  go_wp2_with fail
  go_region_with (first
      | (go_at_call 108; (with_reducible refine (HSW.out ▸ spec_l01Dec W (by omega) (by omega) _).mono ?_); rintro e wa ⟨rfl, ba⟩; have r1 := cell_be k1 (((Below.refl w.heap.size w).drew).trans ba) pz; have HB1 : Hid (Below w.heap.size w wa) := Lib.hid (((Below.refl w.heap.size w).drew).trans ba))
      | (go_at_call 108; (with_reducible refine (HSH.out ▸ spec_l01Dec H (by omega) (by omega) _).mono ?_); rintro e wb ⟨rfl, bb⟩; have HB2 : Hid (Below w.heap.size w wb) := Lib.hid (HB1.out.trans (bb.mono HB1.out.size)))
      | (refine upon_bytes Tryd.underlying9 Tryd.underlying22 Tryd.underlying5 ?_; intro cap3 w3 hbr b3))
  all_goals
    have HB := Lib.hid (HB2.out.trans (b3.mono HB2.out.size))
    have HRW := Lib.hid (BRow.mono (base' := w.heap.size) hbr HB2.out.size)
    clear OL hbr k0 k1 k2 ba bb b3 z1 z2 hsz r1 HB1 HB2 y1 y2 y3
    have hLen : sW.size + 1 + sH.size + 1 = (txh W H).length := by
      have h := congrArg ByteArray.size HCAT.out
      rw [ByteArray.size_append, ByteArray.size_append, ByteArray.size_append] at h
      have e1 : (⟨#[120]⟩ : ByteArray).size = 1 := rfl
      have e2 : (⟨#[58]⟩ : ByteArray).size = 1 := rfl
      have e3 : (⟨(txh W H).toArray⟩ : ByteArray).size = (txh W H).length := by simp [ByteArray.size]
      omega
    rw [HCAT.out] at HRW
    have HRW2 : Hid (BRow w3 w.heap.size (.slice (some ⟨wb.heap.size, 0, none⟩) (sW.size + 1 + sH.size + 1) cap3) (txl W H f 0)) := Lib.hid (by
      rw [txl_0, hLen]
      have e3 : (⟨(txh W H).toArray⟩ : ByteArray).size = (txh W H).length := by simp [ByteArray.size]
      have h := HRW.out
      rw [e3] at h
      exact h)
    clear HRW hLen
    generalize (Value.slice (some ⟨wb.heap.size, 0, none⟩) (sW.size + 1 + sH.size + 1) cap3) = v0 at *
    clear hdW hdH
    go_wp2
    go_loopw [3, 4] (fun lv kv wr => ∃ k : Nat, k ≤ n ∧ kv = .int .i64 k ∧ Hid (BRow wr w.heap.size lv (txl W H f k)) ∧ Hid (Below w.heap.size w wr)) (fun _ kv _ => n - (intOf kv).toNat)
    case atStart => exact ⟨0, Nat.zero_le _, rfl, HRW2, HB⟩
    case round =>
      clear HRW2 HB
      obtain ⟨k, hk, rfl, HU, HB⟩ := hrel
      have hB := HB.out.size
      obtain ⟨pzr, r0, r1, r2⟩ := id (HX.out.below HB.out pz)
      have hll := txl_len W H f k
      by_cases hlt : k < n
      · obtain ⟨bA, oA, rfl, hbA, hcA⟩ := HR.out.2.2.2 (by omega)
        have s3 : wr.cell? ⟨bA, oA + k, none⟩ = some (.int .i64 (f k)) := cell_be (hcA k hlt) HB.out hbA
        obtain ⟨cv, hcv⟩ : ∃ cv : Int, ((sgU (f k)).toNat : Int) = cv := ⟨_, rfl⟩
        have HCV := Lib.hid hcv
        clear hcA hcv
        have hbAr : bA < wr.heap.size := by omega
        go_wp2_with (first
          | (go_at_call 94; refine (HCV.out ▸ sign_is _ (f k)).mono ?_; rintro e w1 ⟨rfl, rfl⟩)
          | (at_builtin; refine wpList_append_br _ (by rfl) _ _ (by rfl) Tryd.underlying22 hi2 hz0 hz1 hz2 w.heap.size _ (txl W H f k) (by rfl) (HU.out.below ((Below.refl _ _).alloc (Nat.le_refl _) _)) ⟨wr.heap.size, 0, none⟩ (sgU (f k)) cv HCV.out (by rfl) (World.news_of_block (cs := #[.int .u8 cv]) (t := 5) (fr := (0, 0)) (heap_alloc_new wr _)) (by omega) (by simp; omega) ?_; intro v6 w6 hown6 hb6; have HOW := Lib.hid hown6; have HB6 := Lib.hid hb6; clear hown6 hb6))
        go_roundw
        case rel => exact ⟨k + 1, by omega, by go_num, Lib.hid (by rw [txl_succ]; exact HOW.out), Lib.hid ((HB.out.alloc hB _).trans HB6.out)⟩
        case measure => simp [intOf]; omega
      · obtain rfl : k = n := by omega
        obtain ⟨g, cap, rfl, g1, g2, g3, -⟩ := HU.out
        have hcv : (convert 22 9 (.slice (some ⟨g, 0, none⟩) (txl W H f k).length cap)).run Tryd.prog wr = .ok (.string ⟨(txl W H f k).toArray⟩) wr :=
          run_convert_bytes_back _ _ _ 5 _ cap (txl W H f k) Tryd.underlying22 Tryd.underlying5 Tryd.underlying9 (fun j hj => by
            have e0 : ((⟨g, 0, none⟩ : Addr).add j) = ⟨g, j, none⟩ := by simp [Addr.add]; omega
            rw [e0]
            exact g3 j _ (by simp [bys, List.getElem?_eq_getElem hj]))
        rw [HRR.out] at hcv
        clear hll
        generalize (txl W H f k).length = ln at *
        go_wp2
        go_ret
        exact ⟨rfl, HB.out⟩
theorem spec_panelText (w : World) (W H : Int) (A : Option Addr) (n c : Nat) (f : Nat → Int) (hr : Row .i64 w A n c f) :
    Calls Tryd.prog 36 #[.agg #[.int .i64 W, .int .i64 H, .slice A n c]] w (Gives (.string (txT W H n f)) w) := by
  have HL := Lib.hid (show Below w.heap.size w (w.alloc (.cells #[.int .i64 W, .int .i64 H, .slice A n c] 26)) from (Below.refl _ _).alloc (Nat.le_refl _) _)
  have HR := Lib.hid hr
  clear hr
  cases hv : validB W H n f
  · have e1 : txT W H n f = ⟨#[]⟩ := by simp [txT, hv]
    rw [e1]
    have HV := Lib.hid hv
    clear hv e1
    go_enter Tryd.func36, Tryd.ntmps36
    go_wp2_with fail
    refine (specOk_is HV.out (Box.new w _ W H A n c) (HR.out.below HL.out (Nat.le_refl _))).mono ?_
    rintro e w1 ⟨m, rfl, rfl⟩
    go_wp2
    go_ret
    exact ⟨rfl, below_drewN HL.out m⟩
  · have e1 : txT W H n f = ⟨(txl W H f n).toArray⟩ := by simp [txT, hv]
    rw [e1]
    have HV := Lib.hid hv
    clear hv e1
    go_enter Tryd.func36, Tryd.ntmps36
    go_wp2_with fail
    refine (specOk_is HV.out (Box.new w _ W H A n c) (HR.out.below HL.out (Nat.le_refl _))).mono ?_
    rintro e w1 ⟨m, rfl, rfl⟩
    have HX := Lib.hid ((Box.new w 26 W H A n c).below (below_drewN (Below.refl (w.alloc (.cells #[.int .i64 W, .int .i64 H, .slice A n c] 26)).heap.size (w.alloc (.cells #[.int .i64 W, .int .i64 H, .slice A n c] 26))) m) (by simp))
    have HB := Lib.hid (below_drewN HL.out m)
    clear HL
    generalize (w.alloc (.cells #[.int .i64 W, .int .i64 H, .slice A n c] 26)).drewN m = w1 at HX HB ⊢
    have hz1 := HB.out.size
    go_wp2_with fail
    refine (spec_text w1 w.heap.size W H A n c f HX.out (HR.out.below HB.out (Nat.le_refl _)) HV.out).mono ?_
    rintro e w2 ⟨rfl, b2⟩
    go_wp2
    go_ret
    exact ⟨rfl, HB.out.trans (b2.mono hz1)⟩
end Go.Proofs.YtocnocchliihhaaDoor.Base
