/-
  PanelText: the specification's.
-/
import Derived.Test.YtdofeonkgaceeacDoorPpc
import Derived.Test.YtdofeonkgaceeacDoorDcs
import Derived.Test.YtdofeonkgaceeacDoorShape
import Derived.ArgAppend
import Derived.Laws.IdiomStrings
import Derived.Deep.AppendLies
namespace Go.Proofs.YtdofeonkgaceeacDoor.Base
open Go Go.RowKit
set_option linter.unusedVariables false
set_option linter.unusedSimpArgs false

/-- the text's head, and its signs -/
def txh (W H : Int) : List UInt8 := Lib.itoa W ++ [120] ++ Lib.itoa H ++ [58]
def txs_ (f : Nat → Int) (k : Nat) : List UInt8 := (List.range k).map fun i => sgU (f i)
def txl (W H : Int) (f : Nat → Int) (k : Nat) : List UInt8 := txh W H ++ txs_ f k
def txT (W H : Int) (n : Nat) (f : Nat → Int) : ByteArray := if validB W H n f then ⟨(txl W H f n).toArray⟩ else ⟨#[]⟩
theorem txl_0 (W H : Int) (f : Nat → Int) : txl W H f 0 = txh W H := by simp [txl, txs_]
theorem txl_succ (W H : Int) (f : Nat → Int) (k : Nat) : txl W H f (k + 1) = txl W H f k ++ [sgU (f k)] := by simp [txl, txs_, List.range_succ]
theorem txl_len (W H : Int) (f : Nat → Int) (k : Nat) : (txl W H f k).length = (txh W H).length + k := by simp [txl, txs_]
theorem txh_cat (W H : Int) : (((decS W ++ ⟨#[120]⟩) ++ decS H) ++ ⟨#[58]⟩ : ByteArray) = ⟨(txh W H).toArray⟩ := by
  apply ByteArray.ext
  simp [ByteArray.data_append, decS, txh]
theorem txh_len {W H : Int} (hW : sideB W = true) (hH : sideB H = true) : (txh W H).length ≤ 50 := by
  obtain ⟨a1, a2⟩ := side_mk hW
  obtain ⟨b1, b2⟩ := side_mk hH
  have h1 := Lib.itoa_length_le W (by omega) (by omega)
  have h2 := Lib.itoa_length_le H (by omega) (by omega)
  simp [txh]
  omega
/-- v is a row of bytes that reads as l, in a block from base on, with what may lie behind it free to write -/
def BRow (w : World) (base : Nat) (v : Value) (l : List UInt8) : Prop :=
  ∃ g cap, v = .slice (some ⟨g, 0, none⟩) l.length cap ∧ base ≤ g ∧ g < w.heap.size ∧ (∀ j u, (bys l)[j]? = some u → w.cell? ⟨g, j, none⟩ = some u) ∧ ∀ j, l.length ≤ j → j < cap → (w.cell? ⟨g, j, none⟩).isSome = true ∧ w.frozen? ⟨g, j, none⟩ = false
theorem BRow.below {w w' : World} {base : Nat} {v : Value} {l : List UInt8} (h : BRow w base v l) (hb : Below w.heap.size w w') : BRow w' base v l := by
  obtain ⟨g, cap, e, h1, h2, h3, h4⟩ := h
  exact ⟨g, cap, e, h1, Nat.lt_of_lt_of_le h2 hb.size, fun j u hj => (hb.cell (p := ⟨g, j, none⟩) h2).trans (h3 j u hj), fun j j1 j2 => by
    rw [hb.cell (p := ⟨g, j, none⟩) h2, hb.frozen (p := ⟨g, j, none⟩) h2]
    exact h4 j j1 j2⟩
theorem BRow.mono {w : World} {base base' : Nat} {v : Value} {l : List UInt8} (h : BRow w base v l) (hb : base' ≤ base) : BRow w base' v l := by
  obtain ⟨g, cap, e, h1, h2⟩ := h
  exact ⟨g, cap, e, by omega, h2⟩
theorem BRow.of_owns {w : World} {B base : Nat} {v : Value} {l : List UInt8} (hl : 0 < l.length) (h : w.ownsRow B 5 1 v l.length (bys l)) (hB : base ≤ B) : BRow w base v l := by
  rcases h.2 with ⟨_, h0⟩ | ⟨g, cap, cur, e, hb, hg, h1, h2, h3, h4⟩
  · omega
  · subst e
    refine ⟨g, cap, rfl, by omega, (Array.getElem?_eq_some_iff.1 hg).1, fun j u hj => ?_, fun j j1 j2 => ⟨?_, ?_⟩⟩
    · have hjl : j < (bys l).length := by
        rcases Nat.lt_or_ge j (bys l).length with q | q
        · exact q
        · rw [List.getElem?_eq_none q] at hj; cases hj
      rw [bys_len] at hjl
      rw [h.cellAt j (by omega)]
      exact hj
    · rw [Lib.cell_of_heap hg, Array.getElem?_eq_getElem (by omega)]
      rfl
    · exact h.frozenAt j
theorem bytesRow_is {w : World} (s : ByteArray) (cap : Nat) (fr : Nat × Nat) (hc : s.size ≤ cap) (h0 : fr.1 = (bytesRow s cap).size) (h1 : (bytesRow s cap).size = cap) :
    BRow (w.alloc (.cells (bytesRow s cap) 5 fr)) w.heap.size (.slice (some ⟨w.heap.size, 0, none⟩) s.size cap) s.data.toList := by
  have hg := heap_alloc_new w (.cells (bytesRow s cap) 5 fr)
  have hsl : s.data.toList.length = s.size := by rw [Array.length_toList]; rfl
  refine ⟨w.heap.size, cap, by rw [hsl], Nat.le_refl _, by rw [World.size_alloc]; omega, fun j u hj => ?_, fun j j1 j2 => ⟨?_, ?_⟩⟩
  · rw [Lib.cell_of_heap hg]
    have hjl : j < s.data.size := by
      rcases Nat.lt_or_ge j s.data.size with q | q
      · exact q
      · rw [List.getElem?_eq_none (by rw [bys_len, Array.length_toList]; omega)] at hj; cases hj
    rw [bytesRow_at s cap j hjl]
    obtain ⟨a, ha, rfl⟩ : ∃ a, s.data[j]? = some a ∧ Value.int .u8 (a.toNat : Int) = u := by simpa [bys] using hj
    rw [Array.getElem?_eq_getElem hjl] at ha
    injection ha with ha
    rw [ha]
  · rw [Lib.cell_of_heap hg, Array.getElem?_eq_getElem (by omega)]
    rfl
  · unfold World.frozen?
    rw [hg]
    simp
    omega
theorem upon_bytes {P : Program} {o : Oper} {a : Act} {K : Act → World → Prop} {Q : Exit → Act → World → Prop} {w : World} {s : ByteArray} (hs : P.underlying 9 = some .string) (hd : P.underlying 38 = some (.slice 5)) (he : P.underlying 5 = some (.int .u8))
    (h : ∀ cap w', BRow w' w.heap.size (.slice (some ⟨w.heap.size, 0, none⟩) s.size cap) s.data.toList → Below w.heap.size w w' → K (a.put o.dst (.slice (some ⟨w.heap.size, 0, none⟩) s.size cap)) w') :
    o.upon P a K Q (((convert 9 38 (.string s)).run P w).andThen fun v w' => .ok (.value v) w') := by
  rw [run_bytes_of_string w _ _ _ s hs hd he]
  have hge := grownCap_ge w s.size 0 5
  have hsz : (bytesRow s (grownCap w s.size 0 5)).size = grownCap w s.size 0 5 := by
    have e : s.data.size = s.size := rfl
    unfold bytesRow
    rw [Array.size_append, Array.size_map, Array.size_replicate, e]
    omega
  exact h _ _ (bytesRow_is (w := w.drew) s _ _ hge rfl hsz) (((Below.refl _ _).drew).alloc (Nat.le_refl _) _)
/-- one byte more -/
theorem wpList_append_br {P : Program} {i2 : TypeInfo} (w : World) {ops : Array Oper} {rest : List Oper} {o : Oper} {a : Act} {Q : Exit → Act → World → Prop} (hg : o.guard = none) (s x : Operand) (hop : o.op = Op.call { callee := Callee.builtin Builtin.append, args := #[s, x], argTypes := #[38, 38] })
    (hu : P.underlying 38 = some (.slice 5)) (hi : P.info? 5 = some i2) (hz0 : i2.zero = some (.int .u8 0)) (hz1 : i2.size = 1) (hz2 : i2.bytes = 1)
    (base : Nat) (v : Value) (l : List UInt8) (hs : a.eval s = v) (hb : BRow w base v l) (ad : Addr) (c : UInt8) (cv : Int) (hcv : (c.toNat : Int) = cv) (hx : a.eval x = .slice (some ad) 1 1) (hc : ∀ j u, [Value.int .u8 cv][j]? = some u → w.cell? (ad.add j) = some u) (hl : l.length ≤ 100000) (hbase : base ≤ w.heap.size)
    (hK : ∀ v' w', BRow w' base v' (l ++ [c]) → Below base w w' → wpList P ops Q rest (a.put o.dst v') w') : wpList P ops Q (o :: rest) a w := by
  obtain ⟨g, cap, rfl, h1, h2, h3, h4⟩ := hb
  have hlen : (bys l).length = l.length := bys_len l
  refine wpList_append_arg w hg s x _ hop 5 i2 _ 1 1 hu hi hz0 hz1 hz2 rfl (by decide) g 0 l.length cap (bys l) hs (by omega) (fun j u hj => by rw [Nat.zero_add]; exact h3 j u hj) ad 1 1 [.int .u8 cv] hx rfl hc (fun u hu => by simp at hu; subst hu; rfl) ?_ (by unfold maxLen; omega) (by omega) ?_ ?_
  · intro hr j hj
    obtain rfl : j = 0 := by simpa using hj
    have := h4 l.length (Nat.le_refl _) (by omega)
    simpa using this
  · intro hr
    have h5 := h4 l.length (Nat.le_refl _) (by omega)
    have e1 : w.setCells g (0 + l.length * 1) [.int .u8 cv] = w.setCell ⟨g, l.length, none⟩ (.int .u8 cv) := by
      simp [World.setCells]
    rw [e1]
    refine hK _ _ ⟨g, cap, by simp, h1, by simpa [World.setCell] using h2, fun j u hj => ?_, fun j j1 j2 => ?_⟩ ((Below.refl base w).setCell (p := ⟨g, l.length, none⟩) h1 _)
    · rw [bys_app, hcv] at hj
      by_cases e : j = l.length
      · subst e
        obtain ⟨q, hq⟩ := Option.isSome_iff_exists.1 h5.1
        rw [World.cell?_setCell_same _ _ _ hq]
        rw [List.getElem?_append_right (by omega), hlen, Nat.sub_self] at hj
        exact hj
      · rw [World.cell?_setCell_other _ _ _ _ (fun h => e (by injection h; omega))]
        rcases Nat.lt_or_ge j (bys l).length with q | q
        · rw [List.getElem?_append_left q] at hj
          exact h3 j u hj
        · rw [List.getElem?_eq_none (by simp; omega)] at hj
          cases hj
    · rw [List.length_append, List.length_singleton] at j1
      rw [World.cell?_setCell_other _ _ _ _ (fun h => by injection h; omega), World.frozen?_setCell]
      exact h4 j (by omega) j2
  · intro hgr v' w' hown hgrow
    refine hK _ _ (BRow.of_owns (B := w.heap.size) (by simp) ?_ hbase) ((Below.refl base w).grown hgrow hbase (fun b e => by cases e))
    rw [bys_app, hcv, List.length_append, List.length_singleton]
    exact hown
end Go.Proofs.YtdofeonkgaceeacDoor.Base
