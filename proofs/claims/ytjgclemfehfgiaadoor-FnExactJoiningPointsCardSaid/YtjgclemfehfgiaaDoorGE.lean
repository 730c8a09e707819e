/-
  Several texts in one.
-/
import Derived.Test.YtjgclemfehfgiaaDoorGD
import Derived.Test.YtjgclemfehfgiaaDoorGB
import Derived.Test.YtjgclemfehfgiaaDoorSet
import Derived.Test.YtjgclemfehfgiaaDoorCtc
import Derived.Test.YtjgclemfehfgiaaDoorSetC
import Derived.Test.YtjgclemfehfgiaaDoorOwn
import Derived.Test.YtjgclemfehfgiaaDoorGA
import Derived.Test.YtjgclemfehfgiaaDoorRnd
import Derived.Test.YtjgclemfehfgiaaDoorGC
import Derived.Shelf.RegionOpen
namespace Go.Proofs.YtjgclemfehfgiaaDoor.Base
open Go Go.RowKit
set_option linter.unusedVariables false
set_option linter.unusedSimpArgs false

theorem LRd.of_blocks {w w' : World} {A : Option Addr} {n c : Nat} {V : List Value} (h : LRd w A n c V) (hb : ∀ b o, 0 < n → A = some ⟨b, o, none⟩ → w'.heap[b]? = w.heap[b]?) (hs : w.heap.size ≤ w'.heap.size) : LRd w' A n c V :=
  ⟨h.1, h.2.1, h.2.2.1, h.2.2.2.1, h.2.2.2.2.1, fun hn => by
    obtain ⟨b, o, e, h1, h2⟩ := h.2.2.2.2.2 hn
    exact ⟨b, o, e, Nat.lt_of_lt_of_le h1 hs, fun j u hj => (World.cell?_of_block (a := ⟨b, o + j, none⟩) (hb b o hn e)).trans (h2 j u hj)⟩⟩
theorem PrsV.of_blocks {w w' : World} {F E : Nat} {lv lv' : Value} {V : List Value} {ps : List (Nat × Nat)} (h : PrsV w F E lv V ps) (hb : ∀ q : Nat, Value.slice (some ⟨q, 0, none⟩) 2 2 ∈ V → q < w.heap.size → lv.ownBlock ≠ some q → q ≠ F → q ≠ E → w'.heap[q]? = w.heap[q]? ∧ lv'.ownBlock ≠ some q) (hs : w.heap.size ≤ w'.heap.size) : PrsV w' F E lv' V ps :=
  ⟨h.1, fun i x y hi => by
    obtain ⟨q, h1, h2, h3, h4, h5, h6, h7⟩ := h.2 i x y hi
    obtain ⟨k1, k2⟩ := hb q (List.mem_of_getElem? h1) h2 h5 h3 h4
    exact ⟨q, h1, Nat.lt_of_lt_of_le h2 hs, h3, h4, k2, (World.cell?_of_block (a := ⟨q, 0, none⟩) k1).trans h6, (World.cell?_of_block (a := ⟨q, 1, none⟩) k1).trans h7⟩⟩
/-- the pairs of the border's points among L -/
def bdP (W H : Int) (f : Nat → Int) (L : List (Int × Int)) : List (Nat × Nat) := L.flatMap fun P => if edgeB W H P.1 P.2 = true then prA W H (tkOf W H f P.1 P.2) P.1 P.2 else []
theorem bdP_snoc (W H : Int) (f : Nat → Int) (L : List (Int × Int)) (P : Int × Int) : bdP W H f (L ++ [P]) = bdP W H f L ++ (if edgeB W H P.1 P.2 = true then prA W H (tkOf W H f P.1 P.2) P.1 P.2 else []) := by unfold bdP; simp
/-- the pairs of inner point i, once it has been met -/
def ppK (W H : Int) (f : Nat → Int) (k i : Nat) : List (Nat × Nat) := if (ptX W i, ptY W i) ∈ (ptsL W H).take k then prA W H (tkOf W H f (ptX W i) (ptY W i)) (ptX W i) (ptY W i) else []
theorem take_snocT {α : Type} (L : List α) (d : α) {k : Nat} (hk : k < L.length) : L.take (k + 1) = L.take k ++ [L.getD k d] := by
  rw [List.take_add_one, List.getElem?_eq_getElem hk]
  simp [List.getD_eq_getElem?_getD, hk]

structure TrJ (wS : World) (W H : Int) (f : Nat → Int) (n b0 F E M L b5 tb : Nat) (X : List Nat) (k : Nat) (A : World) (lv : Value) (p : Nat → Nat) (m : Nat) (g : Nat → Int) (B : Nat → Option Addr) (C : Nat → Nat) (V : Nat → List Value) : Prop where
  fo : Fo A b0 F E M lv p m g
  gb : ∀ i, i < m → 0 ≤ g i ∧ g i < (M : Int)
  jn : Jns (fun z => z) (bdP W H f ((ptsL W H).take k)) p
  row : A.rowIs tb 44 n (fun i => .slice (B i) (V i).length (C i))
  els : ∀ i, i < n → LRd A (B i) (V i).length (C i) (V i) ∧ PrsV A F E lv (V i) (ppK W H f k i)
  bX : ∀ i, i < n → ∀ b o, 0 < (V i).length → B i = some ⟨b, o, none⟩ → b ∈ X ∧ b ≠ F ∧ b ≠ E ∧ b ≠ tb ∧ lv.ownBlock ≠ some b
  qX : ∀ i, i < n → ∀ q : Nat, Value.slice (some ⟨q, 0, none⟩) 2 2 ∈ V i → q ∈ X ∧ q ≠ tb
  inX : F ∈ X ∧ E ∈ X ∧ tb ∈ X
  lvX : ∀ q, lv.ownBlock = some q → q ∈ X ∧ q ≠ tb
  nes : tb ≠ F ∧ tb ≠ E
  low : ∀ b ∈ X, L < b
  nb5 : b5 ∉ X
  os : A.os = wS.os
  tape : A.tape = wS.tape
  output : A.output = wS.output
  size : wS.heap.size ≤ A.heap.size
  old : ∀ b, b < wS.heap.size → b ∉ X → A.heap[b]? = wS.heap[b]?
section
variable {wS : World} {W H : Int} {f : Nat → Int} {n b0 F E M L b5 tb : Nat} {X : List Nat} {k : Nat} {A A' : World} {lv : Value} {p : Nat → Nat} {m : Nat} {g : Nat → Int} {B : Nat → Option Addr} {C : Nat → Nat} {V : Nat → List Value}
theorem TrJ.stand (h : TrJ wS W H f n b0 F E M L b5 tb X k A lv p m g B C V) (h1 : ∀ b, b ∈ X → b < A.heap.size → A'.heap[b]? = A.heap[b]?) (h2 : ∀ b, b < wS.heap.size → b ∉ X → A'.heap[b]? = A.heap[b]?) (e1 : A'.os = A.os) (e2 : A'.tape = A.tape) (e3 : A'.output = A.output) (hs : A.heap.size ≤ A'.heap.size) :
    TrJ wS W H f n b0 F E M L b5 tb X k A' lv p m g B C V where
  fo := h.fo.of_blocks (h1 F h.inX.1 h.fo.box.lt) (h1 E h.inX.2.1 h.fo.elm.lt) (fun q hq => h1 q (h.lvX q hq).1 (h.fo.log.lt q hq).2)
  gb := h.gb
  jn := h.jn
  row := h.row.of_block (h1 tb h.inX.2.2 h.row.lt)
  els := fun i hi => ⟨(h.els i hi).1.of_blocks (fun b o hn e => h1 b (h.bX i hi b o hn e).1 (by
    obtain ⟨b', o', e', h5, -⟩ := (h.els i hi).1.2.2.2.2.2 hn
    rw [e] at e'
    injection e' with e'
    injection e' with e1 e2
    omega)) hs, (h.els i hi).2.of_blocks (fun q hq hz hl _ _ => ⟨h1 q (h.qX i hi q hq).1 hz, hl⟩) hs⟩
  bX := h.bX
  qX := h.qX
  inX := h.inX
  lvX := h.lvX
  nes := h.nes
  low := h.low
  nb5 := h.nb5
  os := e1.trans h.os
  tape := e2.trans h.tape
  output := e3.trans h.output
  size := Nat.le_trans h.size hs
  old := fun b hb hX => (h2 b hb hX).trans (h.old b hb hX)
end
def TrI (wS : World) (W H : Int) (f : Nat → Int) (n b0 F E M L b5 tb : Nat) (X : List Nat) (k : Nat) (A : World) : Prop := ∃ lv p m g B C V, TrJ wS W H f n b0 F E M L b5 tb X k A lv p m g B C V
theorem holds_tri {wS : World} {W H : Int} {f : Nat → Int} {n b0 F E M L b5 tb B : Nat} (hB : wS.heap.size ≤ B) : HoldsY B (TrI wS W H f n b0 F E M L b5 tb) where
  below := fun X k A A' ⟨lv, p, m, g, B, C, V, h⟩ hb => ⟨lv, p, m, g, B, C, V, h.stand (fun b _ hz => hb.block b hz) (fun b hz _ => hb.block b (Nat.lt_of_lt_of_le hz h.size)) hb.os hb.tape hb.output hb.size⟩
  put := fun X k A l o' ⟨lv, p, m, g, B, C, V, h⟩ hl hX ho => ⟨lv, p, m, g, B, C, V, h.stand (fun b hb _ => World.putObj_heap_other (by rintro rfl; exact hX hb)) (fun b hb _ => World.putObj_heap_other (by omega)) rfl rfl rfl (by simp [World.putObj])⟩
  set := fun X k A b i u ⟨lv, p, m, g, B, C, V, h⟩ hl hX => ⟨lv, p, m, g, B, C, V, h.stand (fun b' hb _ => Below.heap_setCell A ⟨b, i, none⟩ u b' (by show b' ≠ b; rintro rfl; exact hX hb)) (fun b' hb _ => Below.heap_setCell A ⟨b, i, none⟩ u b' (by show b' ≠ b; omega)) rfl rfl rfl (by simp [World.setCell])⟩
theorem ppK_border {W H : Int} {f : Nat → Int} {k i : Nat} (hW : sideB W = true) (hH : sideB H = true) (hk : k < (ptsL W H).length) (hi : (i : Int) < inner W H) (he : edgeB W H ((ptsL W H).getD k (0, 0)).1 ((ptsL W H).getD k (0, 0)).2 = true) : ppK W H f (k + 1) i = ppK W H f k i := by
  unfold ppK
  rw [take_snocT (ptsL W H) (0, 0) hk]
  have hne : (ptX W i, ptY W i) ≠ (ptsL W H).getD k (0, 0) := fun e => by
    obtain ⟨-, h1, -⟩ := pt_is hW hH (k := (i : Int)) (by omega) hi
    rw [← e] at he
    rw [h1] at he
    cases he
  by_cases h : (ptX W i, ptY W i) ∈ (ptsL W H).take k
  · rw [if_pos h, if_pos (List.mem_append_left _ h)]
  · rw [if_neg h, if_neg (fun h1 => by
      rcases List.mem_append.1 h1 with h2 | h2
      · exact h h2
      · exact hne (by simpa using h2))]
def ownL (lv : Value) : List Nat := match lv.ownBlock with | some q => [q] | none => []
theorem ownL_mem {lv : Value} {q : Nat} : q ∈ ownL lv ↔ lv.ownBlock = some q := by
  unfold ownL
  split <;> rename_i h <;> simp [h, eq_comm]
section
variable {wS : World} {W H : Int} {f : Nat → Int} {n b0 F E M L b5 tb : Nat} {X : List Nat} {k : Nat} {A A' : World} {lv : Value} {p : Nat → Nat} {m : Nat} {g : Nat → Int} {B : Nat → Option Addr} {C : Nat → Nat} {V : Nat → List Value}
theorem TrJ.border (h : TrJ wS W H f n b0 F E M L b5 tb X k A lv p m g B C V) (hW : sideB W = true) (hH : sideB H = true) (hk : k < (ptsL W H).length) (hn : (n : Int) = inner W H) (hb5 : b5 < wS.heap.size) {P : Int × Int} (hP : (ptsL W H).getD k (0, 0) = P) (he : edgeB W H P.1 P.2 = true)
    {W1 W' : World} {lv1 : Value} {p1 : Nat → Nat} {m1 : Nat} {g1 : Nat → Int} (b1 : Below A.heap.size A W1) (j1 : Jns p (prA W H (tkOf W H f P.1 P.2) P.1 P.2) p1) (j2 : Lg M p p1 m m1 g g1) (j3 : Fo W' b0 F E M lv1 p1 m1 g1) (j4 : Kf F E lv lv1 W1 W') :
    TrJ wS W H f n b0 F E M L b5 tb (ownL lv1 ++ X) (k + 1) W' lv1 p1 m1 g1 B C V ∧ Ext X A W' ∧ ∀ b ∈ ownL lv1, (b ∈ X ∨ A.heap.size ≤ b) ∧ b < W'.heap.size := by
  have z1 := b1.size
  have z2 := j4.size
  have hFA := h.fo.box.lt
  have kp : ∀ b, b < A.heap.size → b ≠ F → b ≠ E → lv.ownBlock ≠ some b → W'.heap[b]? = A.heap[b]? := fun b hb h1 h2 h3 => (j4.block b (by omega) h1 h2 h3).trans (b1.block b hb)
  have ow : ∀ q, lv1.ownBlock = some q → lv.ownBlock = some q ∨ A.heap.size ≤ q := fun q hq => by
    rcases j4.own q hq with h5 | h5
    · exact .inl h5
    · exact .inr (by omega)
  have no : ∀ b, b < A.heap.size → lv.ownBlock ≠ some b → lv1.ownBlock ≠ some b := fun b hb h1 e => by
    rcases ow b e with h5 | h5
    · exact h1 h5
    · omega
  have bl : ∀ i, i < n → ∀ b o, 0 < (V i).length → B i = some ⟨b, o, none⟩ → b < A.heap.size := fun i hi b o hl e => by
    obtain ⟨b', o', e', h5, -⟩ := (h.els i hi).1.2.2.2.2.2 hl
    rw [e] at e'
    injection e' with e'
    injection e' with e1 e2
    omega
  have hL : L < A.heap.size := Nat.lt_trans (h.low F h.inX.1) hFA
  refine ⟨⟨j3, fun i hi => ?_, ?_, ?_, fun i hi => ⟨?_, ?_⟩, fun i hi b o hl e => ?_, fun i hi q hq => ?_, ⟨List.mem_append_right _ h.inX.1, List.mem_append_right _ h.inX.2.1, List.mem_append_right _ h.inX.2.2⟩, fun q hq => ⟨List.mem_append_left _ (ownL_mem.2 hq), ?_⟩, h.nes, fun b hb => ?_, fun hb => ?_, ?_, ?_, ?_, by have := h.size; omega, fun b hb hX => ?_⟩, ⟨?_, ?_, ?_, by omega, fun b hb hX => ?_⟩, fun b hb => ⟨?_, ?_⟩⟩
  · rcases Nat.lt_or_ge i m with h1 | h1
    · rw [j2.old i h1]; exact h.gb i h1
    · obtain ⟨z, e1, e2, e3⟩ := j2.new i h1 hi
      rw [e1]; omega
  · rw [take_snocT (ptsL W H) (0, 0) hk, hP, bdP_snoc, if_pos he]
    exact h.jn.app j1
  · exact h.row.of_block (kp tb h.row.lt h.nes.1 h.nes.2 (fun e => (h.lvX tb e).2 rfl))
  · exact (h.els i hi).1.of_blocks (fun b o hl e => by
      obtain ⟨c1, c2, c3, c4, c5⟩ := h.bX i hi b o hl e
      exact kp b (bl i hi b o hl e) c2 c3 c5) (by omega)
  · rw [ppK_border hW hH hk (by omega) (by rw [hP]; exact he)]
    exact (h.els i hi).2.of_blocks (fun q hq hz hl h1 h2 => ⟨kp q hz h1 h2 hl, no q hz hl⟩) (by omega)
  · obtain ⟨c1, c2, c3, c4, c5⟩ := h.bX i hi b o hl e
    exact ⟨List.mem_append_right _ c1, c2, c3, c4, no b (bl i hi b o hl e) c5⟩
  · exact ⟨List.mem_append_right _ (h.qX i hi q hq).1, (h.qX i hi q hq).2⟩
  · rcases ow q hq with h5 | h5
    · exact (h.lvX q h5).2
    · have := h.row.lt; omega
  · rcases List.mem_append.1 hb with h1 | h1
    · rcases ow b (ownL_mem.1 h1) with h5 | h5
      · exact h.low b (h.lvX b h5).1
      · omega
    · exact h.low b h1
  · rcases List.mem_append.1 hb with h1 | h1
    · rcases ow b5 (ownL_mem.1 h1) with h5 | h5
      · exact h.nb5 (h.lvX b5 h5).1
      · have := h.size; omega
    · exact h.nb5 h1
  · exact (j4.os.trans b1.os).trans h.os
  · exact (j4.tape.trans b1.tape).trans h.tape
  · exact (j4.output.trans b1.output).trans h.output
  · have hX' : b ∉ X := fun e => hX (List.mem_append_right _ e)
    exact (kp b (by have := h.size; omega) (fun e => hX' (e ▸ h.inX.1)) (fun e => hX' (e ▸ h.inX.2.1)) (fun e => hX' (h.lvX b e).1)).trans (h.old b hb hX')
  · exact j4.os.trans b1.os
  · exact j4.tape.trans b1.tape
  · exact j4.output.trans b1.output
  · exact kp b hb (fun e => hX (e ▸ h.inX.1)) (fun e => hX (e ▸ h.inX.2.1)) (fun e => hX (h.lvX b e).1)
  · rcases ow b (ownL_mem.1 hb) with h5 | h5
    · exact .inl (h.lvX b h5).1
    · exact .inr h5
  · exact (j3.log.lt b (ownL_mem.1 hb)).2
theorem in_goS {W H X Y dx dy : Int} (h1 : 1 ≤ X) (h2 : X + 1 ≤ 2 * W) (h3 : 1 ≤ Y) (h4 : Y + 1 ≤ 2 * H) (h5 : (X + Y) % 2 = 1) (s1 : signB dx = true) (s2 : signB dy = true) : goB W H X Y dx dy = true := by
  have d1 := sign_yes s1
  have d2 := sign_yes s2
  unfold goB
  rw [s1, s2, has_mk (by omega) (by omega) (by omega) (by omega) h5, has_mk (W := W) (H := H) (x := X + dx) (y := Y + dy) (by omega) (by omega) (by omega) (by omega) (by omega)]
  rfl
theorem prA_two {W H X Y t : Int} (h1 : 1 ≤ X) (h2 : X + 1 ≤ 2 * W) (h3 : 1 ≤ Y) (h4 : Y + 1 ≤ 2 * H) (h5 : (X + Y) % 2 = 1) (ht : t = 0 ∨ t = 1 ∨ t = 2) : (prA W H t X Y).length = 2 := by
  unfold prA
  rw [List.length_map, List.filter_eq_self.2 (fun d hd => ?_)]
  · rcases ht with rfl | rfl | rfl <;> rfl
  · have hs : signB d.1.1 = true ∧ signB d.1.2 = true := by
      rcases ht with rfl | rfl | rfl <;> simp [dirL] at hd <;> rcases hd with rfl | rfl <;> exact ⟨rfl, rfl⟩
    exact in_goS h1 h2 h3 h4 h5 hs.1 hs.2
def slcs (qs : List Nat) : List Value := qs.map fun q => Value.slice (some ⟨q, 0, none⟩) 2 2
theorem TrJ.inner (h : TrJ wS W H f n b0 F E M L b5 tb X k A lv p m g B C V) (hW : sideB W = true) (hH : sideB H = true) (hk : k < (ptsL W H).length) (hn : (n : Int) = inner W H) (hb5 : b5 < wS.heap.size) {P : Int × Int} (hP : (ptsL W H).getD k (0, 0) = P) (hh : hasB W H P.1 P.2 = true) (he : edgeB W H P.1 P.2 = false)
    (ht : tkOf W H f P.1 P.2 = 0 ∨ tkOf W H f P.1 P.2 = 1 ∨ tkOf W H f P.1 P.2 = 2) {i0 : Nat} (hi0 : (i0 : Int) = numN W P.1 P.2) {W1 : World} {A5 : Option Addr} {c5 : Nat} {qs : List Nat} (b1 : Below A.heap.size A W1)
    (ro : PrO W1 A.heap.size (.slice A5 (prA W H (tkOf W H f P.1 P.2) P.1 P.2).length c5) (prA W H (tkOf W H f P.1 P.2) P.1 P.2) qs) :
    ∃ gb, TrJ wS W H f n b0 F E M L b5 tb (gb :: qs ++ X) (k + 1) (W1.setCell ⟨tb, i0, none⟩ (.slice A5 (prA W H (tkOf W H f P.1 P.2) P.1 P.2).length c5)) lv p m g (fun i => if i = i0 then A5 else B i) (fun i => if i = i0 then c5 else C i) (fun i => if i = i0 then slcs qs else V i) ∧
      Ext X A (W1.setCell ⟨tb, i0, none⟩ (.slice A5 (prA W H (tkOf W H f P.1 P.2) P.1 P.2).length c5)) ∧ ∀ b ∈ gb :: qs, A.heap.size ≤ b ∧ b < W1.heap.size := by
  obtain ⟨n1, n2⟩ := num_lt hW hH hh he
  obtain ⟨q1, q2⟩ := num_pt hW hH hh he
  have hin := pt_in hW hH (k := (i0 : Int)) (by omega) (by omega)
  rw [hi0, q1, q2] at hin
  obtain ⟨x1, x2, y1, y2, hpar⟩ := hin
  have hi0n : i0 < n := by omega
  have hl2 := prA_two (t := tkOf W H f P.1 P.2) x1 x2 y1 y2 hpar ht
  obtain ⟨ps, hps⟩ : ∃ ps, prA W H (tkOf W H f P.1 P.2) P.1 P.2 = ps := ⟨_, rfl⟩
  have hpk : ppK W H f (k + 1) i0 = ps := by
    unfold ppK
    rw [hi0, q1, q2, take_snocT (ptsL W H) (0, 0) hk, hP, if_pos (List.mem_append_right _ (List.mem_singleton.2 rfl)), hps]
  have hpo : ∀ i, i < n → i ≠ i0 → ppK W H f (k + 1) i = ppK W H f k i := fun i hi hne => by
    unfold ppK
    rw [take_snocT (ptsL W H) (0, 0) hk, hP]
    have hnp : (ptX W i, ptY W i) ≠ P := fun e => by
      obtain ⟨-, -, h3⟩ := pt_is hW hH (k := (i : Int)) (by omega) (by omega)
      rw [← e] at hi0
      simp only at hi0
      rw [h3] at hi0
      omega
    by_cases h : (ptX W i, ptY W i) ∈ (ptsL W H).take k
    · rw [if_pos h, if_pos (List.mem_append_left _ h)]
    · rw [if_neg h, if_neg (fun h1 => by
        rcases List.mem_append.1 h1 with h2 | h2
        · exact h h2
        · exact hnp (by simpa using h2))]
  rw [hps] at hl2 ro ⊢
  have hql := ro.len
  rcases ro.own.2 with ⟨e, e2⟩ | ⟨gb, cap, cur, e, g1, g2, -⟩
  · omega
  injection e with e1 e3 e4
  subst e1
  obtain ⟨hlr, -⟩ := owns_lrd ro.own (fun h0 => by rw [List.length_map] at h0; omega) (fun u hu => by
    obtain ⟨q, -, rfl⟩ := List.mem_map.1 hu
    rfl)
  have z1 := b1.size
  have gz : gb < W1.heap.size := (Array.getElem?_eq_some_iff.1 g2).1
  have hFA := h.fo.box.lt
  have tz := h.row.lt
  have hL : L < A.heap.size := Nat.lt_trans (h.low F h.inX.1) hFA
  have hS := h.size
  obtain ⟨W', hW'⟩ : ∃ W', W1.setCell ⟨tb, i0, none⟩ (.slice (some ⟨gb, 0, none⟩) ps.length c5) = W' := ⟨_, rfl⟩
  have kp : ∀ b, b ≠ tb → W'.heap[b]? = W1.heap[b]? := fun b hb => by rw [← hW']; exact Below.heap_setCell W1 ⟨tb, i0, none⟩ _ b hb
  have kA : ∀ b, b < A.heap.size → b ≠ tb → W'.heap[b]? = A.heap[b]? := fun b hb h1 => (kp b h1).trans (b1.block b hb)
  have zW : W'.heap.size = W1.heap.size := by rw [← hW']; simp [World.setCell]
  have eo : W'.os = W1.os ∧ W'.tape = W1.tape ∧ W'.output = W1.output := by rw [← hW']; exact ⟨rfl, rfl, rfl⟩
  have hrow : W'.rowIs tb 44 n (fun j => if j = i0 then .slice (some ⟨gb, 0, none⟩) ps.length c5 else .slice (B j) (V j).length (C j)) := by rw [← hW']; exact (h.row.of_block (b1.block tb tz)).set i0 _
  rw [hW']
  have ql : ∀ q ∈ qs, A.heap.size ≤ q ∧ q < W1.heap.size := fun q hq => ⟨(ro.lt hq).2, (ro.lt hq).1⟩
  have bl : ∀ i, i < n → ∀ b o, 0 < (V i).length → B i = some ⟨b, o, none⟩ → b < A.heap.size := fun i hi b o hl e => by
    obtain ⟨b', o', e', h5, -⟩ := (h.els i hi).1.2.2.2.2.2 hl
    rw [e] at e'
    injection e' with e'
    injection e' with e1 e2
    omega
  have lo : ∀ b, A.heap.size ≤ b → lv.ownBlock ≠ some b := fun b hb e => by have := (h.fo.log.lt b e).2; omega
  have sl : (slcs qs).length = ps.length := by unfold slcs; rw [List.length_map, hql]
  have nX : ∀ b, b ∉ gb :: qs ++ X → b ∉ X := fun b hb e => hb (List.mem_append_right _ e)
  refine ⟨gb, ⟨h.fo.of_blocks (kA F hFA (fun e => h.nes.1 e.symm)) (kA E h.fo.elm.lt (fun e => h.nes.2 e.symm)) (fun q hq => kA q (h.fo.log.lt q hq).2 (h.lvX q hq).2), h.gb, ?_, ?_, fun i hi => ?_, fun i hi b o hl e => ?_, fun i hi q hq => ?_, ⟨List.mem_append_right _ h.inX.1, List.mem_append_right _ h.inX.2.1, List.mem_append_right _ h.inX.2.2⟩, fun q hq => ⟨List.mem_append_right _ (h.lvX q hq).1, (h.lvX q hq).2⟩, h.nes, fun b hb => ?_, fun hb => ?_, (eo.1.trans b1.os).trans h.os, (eo.2.1.trans b1.tape).trans h.tape, (eo.2.2.trans b1.output).trans h.output, by omega, fun b hb hX => ?_⟩, ⟨eo.1.trans b1.os, eo.2.1.trans b1.tape, eo.2.2.trans b1.output, by omega, fun b hb hX => kA b hb (fun e => hX (e ▸ h.inX.2.2))⟩, fun b hb => ?_⟩
  · rw [take_snocT (ptsL W H) (0, 0) hk, hP, bdP_snoc, if_neg (by rw [he]; decide), List.append_nil]
    exact h.jn
  · exact hrow.congr (fun j hj => by
      by_cases e : j = i0
      · simp only [e, if_true, sl]
      · simp only [e, if_false])
  · by_cases e : i = i0
    · subst e
      simp only [if_true, hpk, sl]
      refine ⟨hlr.of_blocks (fun b o hl e => by
        injection e with e
        injection e with e1 e2
        subst e1
        exact kp gb (by omega)) (by omega), sl, fun j x y hj => ?_⟩
      have hjl : j < ps.length := (List.getElem?_eq_some_iff.1 hj).1
      have hq : j < qs.length := by omega
      obtain ⟨r1, r2⟩ := ro.row j qs[j] x y (List.getElem?_eq_getElem hq) hj
      have r3 := r1.of_block (kp qs[j] (by omega))
      exact ⟨qs[j], by unfold slcs; simp [hq], r3.lt, by omega, by have := h.fo.elm.lt; omega, lo _ r2, r3.cellv (i := 0) rfl, r3.cellv (i := 1) rfl⟩
    · simp only [e, if_false]
      rw [hpo i hi e]
      exact ⟨(h.els i hi).1.of_blocks (fun b o hl e => kA b (bl i hi b o hl e) (h.bX i hi b o hl e).2.2.2.1) (by omega), (h.els i hi).2.of_blocks (fun q hq hz hl h1 h2 => ⟨kA q hz (h.qX i hi q hq).2, hl⟩) (by omega)⟩
  · by_cases e5 : i = i0
    · simp only [e5, if_true] at e
      injection e with e
      injection e with e1 e2
      subst e1
      exact ⟨by simp, by omega, by have := h.fo.elm.lt; omega, by omega, lo _ g1⟩
    · simp only [e5, if_false] at e hl
      obtain ⟨c1, c2, c3, c4, c5⟩ := h.bX i hi b o hl e
      exact ⟨List.mem_append_right _ c1, c2, c3, c4, c5⟩
  · by_cases e5 : i = i0
    · simp only [e5, if_true] at hq
      unfold slcs at hq
      obtain ⟨q', hq', e⟩ := List.mem_map.1 hq
      injection e with e
      injection e with e
      injection e with e1 e2
      subst e1
      exact ⟨by simp [hq'], by have := ql _ hq'; omega⟩
    · simp only [e5, if_false] at hq
      exact ⟨List.mem_append_right _ (h.qX i hi q hq).1, (h.qX i hi q hq).2⟩
  · rcases List.mem_append.1 hb with h1 | h1
    · rcases List.mem_cons.1 h1 with rfl | h2
      · omega
      · have := ql b h2; omega
    · exact h.low b h1
  · rcases List.mem_append.1 hb with h1 | h1
    · rcases List.mem_cons.1 h1 with h3 | h2
      · omega
      · have := ql b5 h2; omega
    · exact h.nb5 h1
  · exact (kA b (by omega) (fun e => nX b hX (e ▸ h.inX.2.2))).trans (h.old b hb (nX b hX))
  · rcases List.mem_cons.1 hb with rfl | h2
    · exact ⟨g1, gz⟩
    · exact ql b h2
end
end Go.Proofs.YtjgclemfehfgiaaDoor.Base
namespace Go.Proofs.YtjgclemfehfgiaaDoor.Base
open Go Go.RowKit
set_option linter.unusedVariables false
set_option linter.unusedSimpArgs false

/-- the pairs of inner point i -/
def ppF (W H : Int) (f : Nat → Int) (i : Nat) : List (Nat × Nat) := prA W H (tkOf W H f (ptX W i) (ptY W i)) (ptX W i) (ptY W i)
theorem ppK_all {W H : Int} {f : Nat → Int} {n i : Nat} (hW : sideB W = true) (hH : sideB H = true) (hn : (n : Int) = inner W H) (hi : i < n) : ppK W H f (ptsL W H).length i = ppF W H f i := by
  unfold ppK ppF
  rw [List.take_length, if_pos (ptsL_has.2 (pt_is hW hH (k := (i : Int)) (by omega) (by omega)).1)]
theorem bdP_has {W H : Int} {f : Nat → Int} {L : List (Int × Int)} {c : Nat × Nat} : c ∈ bdP W H f L ↔ ∃ P ∈ L, edgeB W H P.1 P.2 = true ∧ c ∈ prA W H (tkOf W H f P.1 P.2) P.1 P.2 := by
  unfold bdP
  rw [List.mem_flatMap]
  constructor
  · rintro ⟨P, h1, h2⟩
    by_cases e : edgeB W H P.1 P.2 = true
    · rw [if_pos e] at h2; exact ⟨P, h1, e, h2⟩
    · rw [if_neg e] at h2; cases h2
  · rintro ⟨P, h1, e, h2⟩
    exact ⟨P, h1, by rw [if_pos e]; exact h2⟩
theorem catP_of {pp : Nat → List (Nat × Nat)} {z : Nat × Nat} : ∀ {k i : Nat}, i < k → z ∈ pp i → z ∈ catP pp k
  | 0, i, h, _ => absurd h (Nat.not_lt_zero _)
  | k + 1, i, h, hz => by
    rcases Nat.lt_or_ge i k with h1 | h1
    · exact List.mem_append_left _ (catP_of h1 hz)
    · obtain rfl : i = k := by omega
      exact List.mem_append_right _ hz
theorem allBut_has {pp : Nat → List (Nat × Nat)} {N k : Nat} (hk : k < N) {z : Nat × Nat} : z ∈ allBut pp N k ↔ ∃ i, i < N ∧ i ≠ k ∧ z ∈ pp i := by
  unfold allBut
  rw [List.mem_append]
  constructor
  · rintro (h | h)
    · obtain ⟨i, h1, h2⟩ := catP_mem h
      exact ⟨i, by omega, by omega, h2⟩
    · obtain ⟨i, h1, h2⟩ := catP_mem h
      exact ⟨k + 1 + i, by omega, by omega, h2⟩
  · rintro ⟨i, h1, h2, h3⟩
    rcases Nat.lt_or_ge i k with h | h
    · exact .inl (catP_of h h3)
    · refine .inr (catP_of (i := i - (k + 1)) (by omega) ?_)
      show z ∈ pp (k + 1 + (i - (k + 1)))
      rw [show k + 1 + (i - (k + 1)) = i by omega]
      exact h3
theorem tk_inner {W H : Int} {g : Nat → Int} {x y : Int} (he : edgeB W H x y = false) : tkOf W H g x y = g (numN W x y).toNat := by
  obtain ⟨e1, e2, e3, e4⟩ := edge_no he
  unfold tkOf
  rw [if_neg (by omega), if_neg (by omega)]
theorem tk_edge {W H : Int} {f g : Nat → Int} {x y : Int} (he : edgeB W H x y = true) : tkOf W H g x y = tkOf W H f x y := by
  have h : x = 0 ∨ y = 0 ∨ x = 2 * W ∨ y = 2 * H := of_decide_eq_true he
  unfold tkOf
  by_cases h1 : x = 0 ∨ x = 2 * W
  · rw [if_pos h1, if_pos h1]
  · rw [if_neg h1, if_neg h1, if_pos (by omega), if_pos (by omega)]
theorem put_valid {W H : Int} {n : Nat} {f : Nat → Int} (hv : validB W H n f = true) (k : Nat) {z : Int} (h0 : 0 ≤ z) (h2 : z ≤ 2) : validB W H n (putF f k z) = true := by
  obtain ⟨hW, hH, hn, hK⟩ := validB_yes hv
  refine valid_mk hW hH hn (kinds_iff.2 fun j hj => ?_)
  unfold putF
  split
  · omega
  · exact kinds_iff.1 hK j hj
theorem put_same (f : Nat → Int) (k : Nat) : putF f k (f k) = f := by
  funext i
  unfold putF
  split <;> simp_all
theorem prA_lt {W H : Int} {n M : Nat} {f : Nat → Int} (hv : validB W H n f = true) (hM : (M : Int) = 4 * W * H) {X Y : Int} (hp : hasB W H X Y = true) {z : Nat × Nat} (h : z ∈ prA W H (tkOf W H f X Y) X Y) : z.1 < M ∧ z.2 < M := by
  obtain ⟨u, hu, h⟩ := pra_of hv hp h
  have a := sg_rng hu
  have b := sg_rng (show okW W H n f (stp W H f u) = true from stps_ok hu 1)
  rcases h with rfl | rfl <;> constructor <;> omega
theorem prA_put {W H : Int} {n M : Nat} {f : Nat → Int} (hv : validB W H n f = true) (hM : (M : Int) = 4 * W * H) {k : Nat} (hk : k < n) {kd : Int} (h0 : 0 ≤ kd) (h2 : kd ≤ 2) :
    hasB W H (ptX W k) (ptY W k) = true ∧ tkOf W H (putF f k kd) (ptX W k) (ptY W k) = kd := by
  obtain ⟨hW, hH, hn, -⟩ := validB_yes hv
  obtain ⟨p1, p2, p3⟩ := pt_is hW hH (k := (k : Int)) (by omega) (by omega)
  refine ⟨p1, ?_⟩
  rw [tk_inner p2, p3, Int.toNat_natCast]
  unfold putF
  rw [if_pos rfl]
/-- THE COUNT: the border's pairs, all but those of point k, and those of kind kd at point k: their groups are the curves of the panel with this change -/
theorem trial_count {W H : Int} {n M : Nat} {f : Nat → Int} (hv : validB W H n f = true) (hM : (M : Int) = 4 * W * H) {k : Nat} (hk : k < n) {kd : Int} (h0 : 0 ≤ kd) (h2 : kd ≤ 2) {p q0 q : Nat → Nat}
    (j0 : Jns (fun z => z) (bdP W H f (ptsL W H)) p) (j1 : Jns p (allBut (ppF W H f) n k) q0) (j2 : Jns q0 (prA W H kd (ptX W k) (ptY W k)) q) : nRt M q = cnN W H (putF f k kd) := by
  obtain ⟨hW, hH, hn, -⟩ := validB_yes hv
  have hg := put_valid hv k h0 h2
  have hc := crv_pairs hg hM (L := bdP W H f (ptsL W H) ++ (allBut (ppF W H f) n k ++ prA W H kd (ptX W k) (ptY W k))) (fun c => ?_) (j0.app (j1.app j2))
  · rw [hc]
    unfold cnN
    rw [← hM, Int.toNat_natCast]
  · rw [List.mem_append, List.mem_append]
    constructor
    · rintro (h | h | h)
      · obtain ⟨P, h1, h2, h3⟩ := bdP_has.1 h
        exact ⟨P.1, P.2, ptsL_has.1 h1, by rw [tk_edge (f := f) h2]; exact h3⟩
      · obtain ⟨i, i1, i2, i3⟩ := (allBut_has hk).1 h
        obtain ⟨p1, p2, p3⟩ := pt_is hW hH (k := (i : Int)) (by omega) (by omega)
        refine ⟨ptX W i, ptY W i, p1, ?_⟩
        unfold ppF at i3
        rw [tk_inner p2, p3, Int.toNat_natCast] at i3 ⊢
        unfold putF
        rw [if_neg i2]
        exact i3
      · obtain ⟨q1, q2⟩ := prA_put hv hM hk h0 h2
        exact ⟨ptX W k, ptY W k, q1, by rw [q2]; exact h⟩
    · rintro ⟨X, Y, h1, h2⟩
      cases he : edgeB W H X Y
      · obtain ⟨l1, l2⟩ := num_lt hW hH h1 he
        obtain ⟨q1, q2⟩ := num_pt hW hH h1 he
        obtain ⟨i, hi⟩ : ∃ i : Nat, numN W X Y = (i : Int) := ⟨(numN W X Y).toNat, by omega⟩
        rw [hi] at q1 q2
        rw [tk_inner he, hi, Int.toNat_natCast] at h2
        by_cases e : i = k
        · subst e
          unfold putF at h2
          rw [if_pos rfl, ← q1, ← q2] at h2
          exact .inr (.inr h2)
        · unfold putF at h2
          rw [if_neg e] at h2
          refine .inr (.inl ((allBut_has hk).2 ⟨i, by omega, e, ?_⟩))
          unfold ppF
          rw [q1, q2, tk_inner he, hi, Int.toNat_natCast]
          exact h2
      · rw [tk_edge (f := f) he] at h2
        exact .inl (bdP_has.2 ⟨(X, Y), ptsL_has.2 h1, he, h2⟩)
/-- a trial in memory: its blocks lie between L and T, but that of the log -/
structure Trl (w : World) (W H : Int) (f : Nat → Int) (n b0 F E M L T tb : Nat) (lv : Value) (p : Nat → Nat) (m : Nat) (g : Nat → Int) (B : Nat → Option Addr) (C : Nat → Nat) (V : Nat → List Value) : Prop where
  fo : Fo w b0 F E M lv p m g
  gb : ∀ i, i < m → 0 ≤ g i ∧ g i < (M : Int)
  jn : Jns (fun z => z) (bdP W H f (ptsL W H)) p
  row : w.rowIs tb 44 n (fun i => .slice (B i) (V i).length (C i))
  els : ∀ i, i < n → LRd w (B i) (V i).length (C i) (V i) ∧ PrsV w F E lv (V i) (ppF W H f i)
  bX : ∀ i, i < n → ∀ b o, 0 < (V i).length → B i = some ⟨b, o, none⟩ → b < T ∧ b ≠ F ∧ b ≠ E ∧ lv.ownBlock ≠ some b
  qX : ∀ i, i < n → ∀ q : Nat, Value.slice (some ⟨q, 0, none⟩) 2 2 ∈ V i → q < T
  lvt : lv.ownBlock ≠ some tb
  nes : tb ≠ F ∧ tb ≠ E
  low : L < F ∧ L < E ∧ ∀ q, lv.ownBlock = some q → L < q
  hi : F < T ∧ E < T ∧ tb < T ∧ b0 ≤ T ∧ T ≤ w.heap.size
def TrX (w : World) (W H : Int) (f : Nat → Int) (n F E M L T tb : Nat) (lv : Value) : Prop := ∃ b0 p m g B C V, Trl w W H f n b0 F E M L T tb lv p m g B C V
theorem TrX.keep {w w' : World} {W H : Int} {f : Nat → Int} {n F E M L T tb : Nat} {lv : Value} (h : TrX w W H f n F E M L T tb lv) (h1 : ∀ b, b < T → w'.heap[b]? = w.heap[b]?) (h2 : ∀ q, lv.ownBlock = some q → w'.heap[q]? = w.heap[q]?) (hs : w.heap.size ≤ w'.heap.size) : TrX w' W H f n F E M L T tb lv := by
  obtain ⟨b0, p, m, g, B, C, V, h⟩ := h
  refine ⟨b0, p, m, g, B, C, V, ⟨h.fo.of_blocks (h1 F h.hi.1) (h1 E h.hi.2.1) h2, h.gb, h.jn, h.row.of_block (h1 tb h.hi.2.2.1), fun i hi => ⟨(h.els i hi).1.of_blocks (fun b o hl e => h1 b (h.bX i hi b o hl e).1) hs, (h.els i hi).2.of_blocks (fun q hq hz hl _ _ => ⟨h1 q (h.qX i hi q hq), hl⟩) hs⟩, h.bX, h.qX, h.lvt, h.nes, h.low, ⟨h.hi.1, h.hi.2.1, h.hi.2.2.1, h.hi.2.2.2.1, Nat.le_trans h.hi.2.2.2.2 hs⟩⟩⟩
theorem TrX.lt {w : World} {W H : Int} {f : Nat → Int} {n F E M L T tb : Nat} {lv : Value} (h : TrX w W H f n F E M L T tb lv) : T ≤ w.heap.size := by
  obtain ⟨b0, p, m, g, B, C, V, h⟩ := h
  exact h.hi.2.2.2.2
theorem TrX.lvs {w : World} {W H : Int} {f : Nat → Int} {n F E M L T tb : Nat} {lv : Value} (h : TrX w W H f n F E M L T tb lv) {q : Nat} (hq : lv.ownBlock = some q) : L < q ∧ q < w.heap.size := by
  obtain ⟨b0, p, m, g, B, C, V, h⟩ := h
  exact ⟨h.low.2.2 q hq, (h.fo.log.lt q hq).2⟩
theorem TrX.fe {w : World} {W H : Int} {f : Nat → Int} {n F E M L T tb : Nat} {lv : Value} (h : TrX w W H f n F E M L T tb lv) : (L < F ∧ F < T) ∧ (L < E ∧ E < T) := by
  obtain ⟨b0, p, m, g, B, C, V, h⟩ := h
  exact ⟨⟨h.low.1, h.hi.1⟩, h.low.2.1, h.hi.2.1⟩
theorem TrX.below {w w' : World} {W H : Int} {f : Nat → Int} {n F E M L T tb : Nat} {lv : Value} (h : TrX w W H f n F E M L T tb lv) (b : Below w.heap.size w w') : TrX w' W H f n F E M L T tb lv :=
  h.keep (fun b' hb => b.block b' (Nat.lt_of_lt_of_le hb h.lt)) (fun q hq => b.block q (h.lvs hq).2) b.size
theorem TrX.set {w : World} {W H : Int} {f : Nat → Int} {n F E M L T tb : Nat} {lv : Value} (h : TrX w W H f n F E M L T tb lv) {x : Nat} (hx : T ≤ x) (hl : lv.ownBlock ≠ some x) (i : Nat) (v : Value) : TrX (w.setCell ⟨x, i, none⟩ v) W H f n F E M L T tb lv :=
  h.keep (fun b hb => Below.heap_setCell w ⟨x, i, none⟩ v b (by show b ≠ x; omega)) (fun q hq => Below.heap_setCell w ⟨x, i, none⟩ v q (by show q ≠ x; rintro rfl; exact hl hq)) (by simp [World.setCell])
theorem TrX.out {w w' : World} {W H : Int} {f : Nat → Int} {n b0 F E M L T tb : Nat} {lv lv' : Value} {p : Nat → Nat} {m : Nat} {g : Nat → Int} {B : Nat → Option Addr} {C : Nat → Nat} {V : Nat → List Value} (h : Trl w W H f n b0 F E M L T tb lv p m g B C V) (hf : Fo w' b0 F E M lv' p m g) (hk : Kx [F, E] lv lv' w w') : TrX w' W H f n F E M L T tb lv' := by
  have hF := h.fo.box.lt
  have kp : ∀ b, b < w.heap.size → b ≠ F → b ≠ E → lv.ownBlock ≠ some b → w'.heap[b]? = w.heap[b]? ∧ lv'.ownBlock ≠ some b := fun b hb h1 h2 h3 => ⟨hk.block b hb (by simp; exact ⟨h1, h2⟩) h3, hk.ne hb h3⟩
  have tz := h.row.lt
  have bl : ∀ i, i < n → ∀ b o, 0 < (V i).length → B i = some ⟨b, o, none⟩ → b < w.heap.size := fun i hi b o hl e => Nat.lt_of_lt_of_le (h.bX i hi b o hl e).1 h.hi.2.2.2.2
  refine ⟨b0, p, m, g, B, C, V, hf, h.gb, h.jn, h.row.of_block (kp tb tz h.nes.1 h.nes.2 h.lvt).1, fun i hi => ⟨?_, ?_⟩, fun i hi b o hl e => ?_, h.qX, (kp tb tz h.nes.1 h.nes.2 h.lvt).2, h.nes, ⟨h.low.1, h.low.2.1, fun q hq => ?_⟩, ⟨h.hi.1, h.hi.2.1, h.hi.2.2.1, h.hi.2.2.2.1, Nat.le_trans h.hi.2.2.2.2 hk.size⟩⟩
  · exact (h.els i hi).1.of_blocks (fun b o hl e => (kp b (bl i hi b o hl e) (h.bX i hi b o hl e).2.1 (h.bX i hi b o hl e).2.2.1 (h.bX i hi b o hl e).2.2.2).1) hk.size
  · exact (h.els i hi).2.of_blocks (fun q hq hz hl h1 h2 => kp q hz h1 h2 hl) hk.size
  · obtain ⟨c1, c2, c3, c4⟩ := h.bX i hi b o hl e
    exact ⟨c1, c2, c3, (kp b (bl i hi b o hl e) c2 c3 c4).2⟩
  · rcases hk.own q hq with h5 | h5
    · exact h.low.2.2 q h5
    · have := h.low.1; omega
/-- the invariant at its end is a trial -/
theorem trj_trx {wS : World} {W H : Int} {f : Nat → Int} {n b0 F E M L b5 tb : Nat} {X : List Nat} {A : World} {lv : Value} {p : Nat → Nat} {m : Nat} {g : Nat → Int} {B : Nat → Option Addr} {C : Nat → Nat} {V : Nat → List Value} (h : TrJ wS W H f n b0 F E M L b5 tb X (ptsL W H).length A lv p m g B C V) (hW : sideB W = true) (hH : sideB H = true) (hn : (n : Int) = inner W H) (hb0 : b0 ≤ A.heap.size) (hX : ∀ b ∈ X, b < A.heap.size) :
    TrX A W H f n F E M L A.heap.size tb lv :=
  ⟨b0, p, m, g, B, C, V, h.fo, h.gb, by have := h.jn; rwa [List.take_length] at this, h.row, fun i hi => ⟨(h.els i hi).1, by have := (h.els i hi).2; rwa [ppK_all hW hH hn hi] at this⟩, fun i hi b o hl e => by
    obtain ⟨c1, c2, c3, c4, c5⟩ := h.bX i hi b o hl e
    exact ⟨hX b c1, c2, c3, c5⟩, fun i hi q hq => hX q (h.qX i hi q hq).1, fun e => (h.lvX tb e).2 rfl, h.nes, ⟨h.low F h.inX.1, h.low E h.inX.2.1, fun q hq => h.low q (h.lvX q hq).1⟩, ⟨h.fo.box.lt, h.fo.elm.lt, h.row.lt, hb0, Nat.le_refl _⟩⟩
/-- the invariant at its end, in a world where all its blocks stand, is a trial -/
theorem trj_trx2 {wS : World} {W H : Int} {f : Nat → Int} {n b0 F E M L b5 tb : Nat} {X : List Nat} {A A' : World} {lv : Value} {p : Nat → Nat} {m : Nat} {g : Nat → Int} {B : Nat → Option Addr} {C : Nat → Nat} {V : Nat → List Value} (h : TrJ wS W H f n b0 F E M L b5 tb X (ptsL W H).length A lv p m g B C V) (hW : sideB W = true) (hH : sideB H = true) (hn : (n : Int) = inner W H) (hb0 : b0 ≤ A'.heap.size) (hX : ∀ b ∈ X, b < A'.heap.size) (hk : ∀ b ∈ X, A'.heap[b]? = A.heap[b]?) (hs : A.heap.size ≤ A'.heap.size) {L' : Nat} (hL : L' ≤ L) :
    TrX A' W H f n F E M L' A'.heap.size tb lv := by
  have fo := h.fo.of_blocks (hk F h.inX.1) (hk E h.inX.2.1) (fun q hq => hk q (h.lvX q hq).1)
  have rw' := h.row.of_block (hk tb h.inX.2.2)
  refine ⟨b0, p, m, g, B, C, V, fo, h.gb, by have := h.jn; rwa [List.take_length] at this, rw', fun i hi => ⟨(h.els i hi).1.of_blocks (fun b o hl e => hk b (h.bX i hi b o hl e).1) hs, ?_⟩, fun i hi b o hl e => by
    obtain ⟨c1, c2, c3, c4, c5⟩ := h.bX i hi b o hl e
    exact ⟨hX b c1, c2, c3, c5⟩, fun i hi q hq => hX q (h.qX i hi q hq).1, fun e => (h.lvX tb e).2 rfl, h.nes, ⟨Nat.lt_of_le_of_lt hL (h.low F h.inX.1), Nat.lt_of_le_of_lt hL (h.low E h.inX.2.1), fun q hq => Nat.lt_of_le_of_lt hL (h.low q (h.lvX q hq).1)⟩, ⟨fo.box.lt, fo.elm.lt, rw'.lt, hb0, Nat.le_refl _⟩⟩
  have h1 := (h.els i hi).2.of_blocks (w' := A') (lv' := lv) (fun q hq hz hl _ _ => ⟨hk q (h.qX i hi q hq).1, hl⟩) hs
  rwa [ppK_all hW hH hn hi] at h1
theorem prA_len2 (W H t X Y : Int) : (prA W H t X Y).length ≤ 2 := by
  unfold prA
  rw [List.length_map]
  refine Nat.le_trans (List.length_filter_le _ _) ?_
  unfold dirL
  split <;> (try split) <;> simp
/-- what trialOf leaves -/
def TrO (W H : Int) (f : Nat → Int) (n M : Nat) (w : World) (e : Ending) (w' : World) : Prop :=
  ∃ F E tb lv, e = .returned (.agg #[.int .i64 W, .int .i64 H, .pointer (some ⟨F, 0, none⟩), .slice (some ⟨tb, 0, none⟩) n n]) ∧ TrX w' W H f n F E M w.heap.size w'.heap.size tb lv ∧ Below w.heap.size w w'
/-- the numbers of curves with each kind of break at inner point k -/
noncomputable def outK (W H : Int) (f : Nat → Int) (k : Nat) : Nat → Int := fun kd => (cnN W H (putF f k (kd : Int)) : Int)
set_option maxHeartbeats 1000000 in
theorem trx_outcomes (w : World) (W H : Int) (f : Nat → Int) (n F E M L T tb k : Nat) (lv : Value) (hv : validB W H n f = true) (hM : (M : Int) = 4 * W * H) (ht : TrX w W H f n F E M L T tb lv) (hD : Cel w 1 [.int .i64 (-1), .int .i64 (-1), .int .i64 1, .int .i64 (-1), .int .i64 (-1), .int .i64 1, .int .i64 1, .int .i64 1]) (hJ : Cel w 0 [.int .i64 0, .int .i64 3, .int .i64 1, .int .i64 2, .int .i64 0, .int .i64 2, .int .i64 1, .int .i64 3, .int .i64 0, .int .i64 1, .int .i64 2, .int .i64 3]) (hk : k < n) (hDL : 1 ≤ L) (hJL : 0 ≤ L) :
    Calls Tryd.prog 64 #[.agg #[.int .i64 W, .int .i64 H, .pointer (some ⟨F, 0, none⟩), .slice (some ⟨tb, 0, none⟩) n n], .int .i64 (k : Int)] w (fun e w' => e = .returned (.agg (nrA (outK W H f k) 3)) ∧ ∃ lv', TrX w' W H f n F E M L T tb lv' ∧ Kx [F, E] lv lv' w w') := by
  obtain ⟨b0, p, m, g, B, C, V, h⟩ := ht
  obtain ⟨hW, hH, hn, -⟩ := validB_yes hv
  have hlt := h.hi.2.2.2.2
  have hb0 := h.hi.2.2.2.1
  have hlo := h.low
  refine (trial_out w b0 F E M m n n k W H (some ⟨tb, 0, none⟩) B (fun i => (V i).length) C V (ppF W H f) lv p g (outK W H f k) h.fo hD hJ hW hH hn hk ⟨Nat.le_refl _, by unfold maxLen; have := (inner_bd hW hH).2; omega, fun h0 => ⟨tb, 0, rfl, h.row.lt, fun i hi => by rw [Nat.zero_add]; exact h.row.cell hi⟩⟩ (fun i hi => (h.els i hi).1) (fun i hi => (h.els i hi).2) (fun i hi => by
      rw [(h.els i hi).2.1]
      exact prA_len2 _ _ _ _ _) (fun kd hkd q0 q j1 j2 => by
      rw [trial_count hv hM hk (by omega) (by omega) h.jn j1 j2]
      rfl) (fun kd hkd z hz => by
      obtain ⟨q1, q2⟩ := prA_put hv hM hk (kd := (kd : Int)) (by omega) (by omega)
      rw [← q2] at hz
      exact prA_lt (put_valid hv k (by omega) (by omega)) hM q1 hz) (fun i hi z hz => by
      obtain ⟨p1, -, -⟩ := pt_is hW hH (k := (i : Int)) (by omega) (by omega)
      exact prA_lt hv hM p1 hz) h.gb (by omega) ⟨by omega, by omega, fun e => by have := hlo.2.2 _ e; omega⟩ ⟨by omega, by omega, fun e => by have := hlo.2.2 _ e; omega⟩).mono ?_
  rintro e w' ⟨rfl, lv', h1, h2⟩
  exact ⟨rfl, lv', TrX.out h h1 h2, h2⟩
end Go.Proofs.YtjgclemfehfgiaaDoor.Base
namespace Go.Proofs.YtjgclemfehfgiaaDoor.Base
open Go Go.RowKit
set_option linter.unusedVariables false
set_option linter.unusedSimpArgs false

section
variable (w : World) (p : Nat) (W H : Int) (A : Option Addr) (n c : Nat) (f : Nat → Int)
set_option maxHeartbeats 1000000 in
theorem spec_with (k : Nat) (kd : Int) (hb : Box w p W H A n c) (hr : Row .i64 w A n c f) (hv : validB W H n f = true) (hk : k < n) (h0 : 0 ≤ kd) (h2 : kd ≤ 2) :
    Calls Tryd.prog 56 #[.pointer (some ⟨p, 0, none⟩), .int .i64 (k : Int), .int .i64 kd] w (Gives (.int .i64 (cnN W H (putF f k kd) : Int)) w) := by
  have hn2 : n ≤ 112 := by
    obtain ⟨hW, hH, hn, -⟩ := validB_yes hv
    have := (inner_bd hW hH).2
    omega
  have HV := Lib.hid (put_valid hv k h0 h2)
  have hwz : (Lit.int .i64 kd).wf = true := WalkArith.wf_i64 (by omega)
  have HC := Lib.hid (spec_l02Own w p W H A n c f hb hr (by omega) (by omega))
  have HWZ := Lib.hid hwz
  clear hb hr hv hwz
  go_enter Tryd.func56, Tryd.ntmps56
  go_wp2_with fail
  refine HC.out.mono ?_
  rintro e w1 ⟨A', c', rfl, hO, b1⟩
  obtain ⟨b, o, rfl, hb1, hb2, hcell⟩ := hO.2.2.2 (by omega)
  have hnc := hO.1
  have hcm := hO.2.1
  unfold maxLen at hcm
  have HO := Lib.hid (hO.put hk kd HWZ.out)
  have HB := Lib.hid (b1.setCell (p := ⟨b, o + k, none⟩) hb1 (.int .i64 kd))
  have HY : Hid (Box ((w1.setCell ⟨b, o + k, none⟩ (.int .i64 kd)).alloc (.cells #[.int .i64 W, .int .i64 H, .slice (some ⟨b, o, none⟩) n c'] 30)) w1.heap.size W H (some ⟨b, o, none⟩) n c') := Lib.hid (by
    have h := Box.new (w1.setCell ⟨b, o + k, none⟩ (.int .i64 kd)) 30 W H (some ⟨b, o, none⟩) n c'
    rwa [show (w1.setCell ⟨b, o + k, none⟩ (.int .i64 kd)).heap.size = w1.heap.size by simp [World.setCell]] at h)
  have bN := (Below.refl (w1.setCell ⟨b, o + k, none⟩ (.int .i64 kd)).heap.size (w1.setCell ⟨b, o + k, none⟩ (.int .i64 kd))).alloc (Nat.le_refl _) (.cells #[.int .i64 W, .int .i64 H, .slice (some ⟨b, o, none⟩) n c'] 30)
  have HO7 := Lib.hid (HO.out.below bN (Nat.le_refl _))
  have HB7 := Lib.hid (HB.out.trans (bN.mono HB.out.size))
  obtain ⟨hck, hfk⟩ := hcell k hk
  have hkn : (k : Int) < (n : Int) := by omega
  have hk0 : (0 : Int) ≤ (k : Int) := by omega
  have hbz : b ≠ w1.heap.size := by omega
  clear hcell hO b1 bN HC HO HB
  go_wp2_with fail
  clear hck hfk
  generalize (w1.setCell ⟨b, o + k, none⟩ (.int .i64 kd)).alloc (.cells #[.int .i64 W, .int .i64 H, .slice (some ⟨b, o, none⟩) n c'] 30) = w7 at *
  generalize w1.heap.size = z at *
  refine (spec_l04Count w7 z HY.out HO7.out.row HV.out).mono ?_
  rintro e w8 ⟨rfl, b8⟩
  have HB8 := Lib.hid (HB7.out.trans (b8.mono HB7.out.size))
  clear b8
  go_wp2
  go_ret
  exact ⟨rfl, HB8.out⟩
variable (x y z : Int)
set_option maxHeartbeats 1000000 in
theorem spec_code10 (hb : Box w p W H A n c) (hr : Row .i64 w A n c f) :
    Calls Tryd.prog 55 #[.pointer (some ⟨p, 0, none⟩), .agg #[.int .i64 x, .int .i64 y], .int .i64 z] w (Gives (.int .i64 (setC W H n f x y z)) w) := by
  have HR := Lib.hid hr
  have hbel : Below w.heap.size w (w.alloc (.cells #[.int .i64 x, .int .i64 y] 32)) := (Below.refl _ _).alloc (Nat.le_refl _) _
  have HB0 := Lib.hid (hb.below hbel hb.1)
  have HL := Lib.hid hbel
  have HD := Lib.hid (Dot.new w 32 x y)
  have pz := hb.1
  clear hr hb hbel
  cases hv : validB W H n f
  · have e : setC W H n f x y z = codeP W H n f x y := by simp [setC, hv]
    rw [e]
    have HV := Lib.hid hv
    clear e hv
    go_enter Tryd.func55, Tryd.ntmps55
    go_wp2_with fail
    refine (specOk_is HV.out HB0.out (HR.out.below HL.out (Nat.le_refl _))).mono ?_
    rintro e w1 ⟨m, rfl, rfl⟩
    have HB1 := Lib.hid (HB0.out.below (below_of_drew (m := m) rfl) HB0.out.1)
    have HL1 := Lib.hid (below_drewN HL.out m)
    obtain ⟨hdz, d0, d1⟩ := HD.out.below (below_of_drew (m := m) rfl) HD.out.1
    go_wp2_with fail
    clear hdz d0 d1
    refine (spec_code _ p W H A n c f x y HB1.out (HR.out.below HL1.out (Nat.le_refl _))).mono ?_
    rintro e w2 ⟨rfl, b2⟩
    have HL2 := Lib.hid (HL1.out.trans (b2.mono HL1.out.size))
    clear b2
    go_wp2
    go_ret
    exact ⟨rfl, HL2.out⟩
  · obtain ⟨hW, hH, -, -⟩ := validB_yes hv
    have HV := Lib.hid hv
    cases hh : hasB W H x y
    · have e : setC W H n f x y z = codeP W H n f x y := by simp [setC, hv, hh]
      rw [e]
      have HH := Lib.hid hh
      clear e hv hh
      go_enter Tryd.func55, Tryd.ntmps55
      go_wp2_with fail
      refine (specOk_is HV.out HB0.out (HR.out.below HL.out (Nat.le_refl _))).mono ?_
      rintro e w1 ⟨m, rfl, rfl⟩
      have HB1 := Lib.hid (HB0.out.below (below_of_drew (m := m) rfl) HB0.out.1)
      have HL1 := Lib.hid (below_drewN HL.out m)
      have HD1 := Lib.hid (HD.out.below (below_of_drew (m := m) rfl) HD.out.1)
      obtain ⟨hdz, d0, d1⟩ := id HD1.out
      go_wp2_with fail
      clear hdz d0 d1
      refine (specHas_is HH.out HB1.out hW hH).mono ?_
      rintro e w2 ⟨rfl, b2⟩
      have HB2 := Lib.hid (HB1.out.below b2 HB1.out.1)
      have HL2 := Lib.hid (HL1.out.trans (b2.mono HL1.out.size))
      obtain ⟨hdz, d0, d1⟩ := HD1.out.below b2 HD1.out.1
      clear b2
      go_wp2_with fail
      clear hdz d0 d1
      refine (spec_code _ p W H A n c f x y HB2.out (HR.out.below HL2.out (Nat.le_refl _))).mono ?_
      rintro e w3 ⟨rfl, b3⟩
      have HL3 := Lib.hid (HL2.out.trans (b3.mono HL2.out.size))
      clear b3
      go_wp2
      go_ret
      exact ⟨rfl, HL3.out⟩
    · have HH := Lib.hid hh
      cases hk : inB z 0 2
      · have e : setC W H n f x y z = 2 := by simp [setC, hv, hh, hk]
        rw [e]
        have HK := Lib.hid hk
        clear e hv hh hk
        go_enter Tryd.func55, Tryd.ntmps55
        go_wp2_with fail
        refine (specOk_is HV.out HB0.out (HR.out.below HL.out (Nat.le_refl _))).mono ?_
        rintro e w1 ⟨m, rfl, rfl⟩
        have HB1 := Lib.hid (HB0.out.below (below_of_drew (m := m) rfl) HB0.out.1)
        have HL1 := Lib.hid (below_drewN HL.out m)
        obtain ⟨hdz, d0, d1⟩ := HD.out.below (below_of_drew (m := m) rfl) HD.out.1
        go_wp2_with fail
        clear hdz d0 d1
        refine (specHas_is HH.out HB1.out hW hH).mono ?_
        rintro e w2 ⟨rfl, b2⟩
        have HL2 := Lib.hid (HL1.out.trans (b2.mono HL1.out.size))
        clear b2
        go_wp2_with fail
        refine (kind_is HK.out _).mono ?_
        rintro e w3 ⟨rfl, rfl⟩
        go_wp2
        go_ret
        exact ⟨rfl, HL2.out⟩
      · have e : setC W H n f x y z = codeP W H n f x y := by simp [setC, hv, hh, hk]
        rw [e]
        have HK := Lib.hid hk
        clear e hv hh hk
        go_enter Tryd.func55, Tryd.ntmps55
        go_wp2_with fail
        refine (specOk_is HV.out HB0.out (HR.out.below HL.out (Nat.le_refl _))).mono ?_
        rintro e w1 ⟨m, rfl, rfl⟩
        have HB1 := Lib.hid (HB0.out.below (below_of_drew (m := m) rfl) HB0.out.1)
        have HL1 := Lib.hid (below_drewN HL.out m)
        have HD1 := Lib.hid (HD.out.below (below_of_drew (m := m) rfl) HD.out.1)
        obtain ⟨hdz, d0, d1⟩ := id HD1.out
        go_wp2_with fail
        clear hdz d0 d1
        refine (specHas_is HH.out HB1.out hW hH).mono ?_
        rintro e w2 ⟨rfl, b2⟩
        have HB2 := Lib.hid (HB1.out.below b2 HB1.out.1)
        have HL2 := Lib.hid (HL1.out.trans (b2.mono HL1.out.size))
        have HD2 := Lib.hid (HD1.out.below b2 HD1.out.1)
        clear b2
        go_wp2_with fail
        refine (kind_is HK.out _).mono ?_
        rintro e w3 ⟨rfl, rfl⟩
        obtain ⟨hdz, d0, d1⟩ := id HD2.out
        go_wp2_with fail
        clear hdz d0 d1
        refine (spec_code _ p W H A n c f x y HB2.out (HR.out.below HL2.out (Nat.le_refl _))).mono ?_
        rintro e w3 ⟨rfl, b3⟩
        have HL3 := Lib.hid (HL2.out.trans (b3.mono HL2.out.size))
        clear b3
        go_wp2
        go_ret
        exact ⟨rfl, HL3.out⟩
/-- by how much a change of a break changes the number of curves -/
noncomputable def efV (W H : Int) (n : Nat) (f : Nat → Int) (x y z : Int) : Int := if setC W H n f x y z = 0 then (cnN W H (putF f (numN W x y).toNat z) : Int) - (cnN W H f : Int) else 0
set_option maxHeartbeats 1000000 in
theorem spec_effectOf (hr : Row .i64 w A n c f) : Calls Tryd.prog 12 #[.agg #[.int .i64 W, .int .i64 H, .slice A n c], .agg #[.int .i64 x, .int .i64 y], .int .i64 z] w (Gives (.tuple #[.int .i64 (efV W H n f x y z), .int .i64 (setC W H n f x y z)]) w) := by
  have hbel : Below w.heap.size w ((w.alloc (.cells #[.int .i64 W, .int .i64 H, .slice A n c] 30)).alloc (.cells #[.int .i64 x, .int .i64 y] 32)) := ((Below.refl _ _).alloc (Nat.le_refl _) _).alloc (by simp) _
  have hX := two_boxes w 30 32 W H A n c x y
  have hd := Dot.new (w.alloc (.cells #[.int .i64 W, .int .i64 H, .slice A n c] 30)) 32 x y
  simp only [World.size_alloc] at hd
  have HR := Lib.hid (hr.below hbel (Nat.le_refl _))
  have HL := Lib.hid hbel
  have HX := Lib.hid hX
  have HD := Lib.hid hd
  clear hr hbel hX hd
  by_cases hc : setC W H n f x y z = 0
  · obtain ⟨hv, hh, he, hk, -⟩ := setC_zero hc
    have hev : efV W H n f x y z = (cnN W H (putF f (numN W x y).toNat z) : Int) - (cnN W H f : Int) := by unfold efV; rw [if_pos hc]
    obtain ⟨hW, hH, hn, -⟩ := validB_yes hv
    obtain ⟨x1, x2, y1, y2⟩ := inside hW hH hh he
    obtain ⟨l1, l2⟩ := num_lt hW hH hh he
    obtain ⟨k, hkk⟩ : ∃ k : Nat, numN W x y = (k : Int) := ⟨(numN W x y).toNat, by omega⟩
    have hkn : k < n := by omega
    have hz := in_yes hk
    have c1 : cnN W H (putF f k z) ≤ 256 := cnN_le (put_valid hv k (by omega) (by omega))
    have c2 : cnN W H f ≤ 256 := cnN_le hv
    have HV := Lib.hid hv
    have HN := Lib.hid (fun (w' : World) (hb : Box w' w.heap.size W H A n c) => specNumber w' w.heap.size W H A n c x y hb hW x1 x2 y1 y2)
    have HW10 := Lib.hid (fun (w' : World) (hb : Box w' w.heap.size W H A n c) (hr : Row .i64 w' A n c f) => spec_with w' w.heap.size W H A n c f k z hb hr hv hkn (by omega) (by omega))
    rw [hev, hc]
    rw [hkk] at HN ⊢
    rw [Int.toNat_natCast]
    obtain ⟨q1, hq1⟩ : ∃ q, cnN W H (putF f k z) = q := ⟨_, rfl⟩
    have HQ1 := Lib.hid hq1
    rw [hq1] at c1 HW10 ⊢
    have HL04 := Lib.hid (fun (w' : World) (hb : Box w' w.heap.size W H A n c) (hr : Row .i64 w' A n c f) => spec_l04Count w' w.heap.size hb hr hv)
    obtain ⟨q2, hq2⟩ : ∃ q, cnN W H f = q := ⟨_, rfl⟩
    rw [hq2] at c2 HL04 ⊢
    have HC := Lib.hid (fun (w' : World) (hb : Box w' w.heap.size W H A n c) (hr : Row .i64 w' A n c f) => spec_code10 w' w.heap.size W H A n c f x y z hb hr)
    rw [hc] at HC
    clear hv hh he hk hev hn x1 x2 y1 y2 l1 l2 hkk hq1 hq2 hc hW hH hkn
    obtain ⟨dz, d0, d1⟩ := id HD.out
    go_enter Tryd.func12, Tryd.ntmps12
    go_wp2_with fail
    clear dz d0 d1
    refine (HC.out _ HX.out HR.out).mono ?_
    rintro e w1 ⟨rfl, b1⟩
    have HX1 := Lib.hid (HX.out.below b1 HX.out.1)
    have HR1 := Lib.hid (HR.out.below b1 (Nat.le_refl _))
    have HL1 := Lib.hid (HL.out.trans (b1.mono HL.out.size))
    obtain ⟨dz, d0, d1⟩ := HD.out.below b1 HD.out.1
    clear b1
    go_wp2_with fail
    clear dz d0 d1
    refine (HN.out _ HX1.out).mono ?_
    rintro e w2 ⟨rfl, b2⟩
    have HX2 := Lib.hid (HX1.out.below b2 HX1.out.1)
    have HR2 := Lib.hid (HR1.out.below b2 (Nat.le_refl _))
    have HL2 := Lib.hid (HL1.out.trans (b2.mono HL1.out.size))
    clear b2
    go_wp2_with fail
    refine (HW10.out _ HX2.out HR2.out).mono ?_
    rintro e w3 ⟨rfl, b3⟩
    have HX3 := Lib.hid (HX2.out.below b3 HX2.out.1)
    have HR3 := Lib.hid (HR2.out.below b3 (Nat.le_refl _))
    have HL3 := Lib.hid (HL2.out.trans (b3.mono HL2.out.size))
    clear b3
    go_wp2_with fail
    refine (HL04.out _ HX3.out HR3.out).mono ?_
    rintro e w4 ⟨rfl, b4⟩
    have HL4 := Lib.hid (HL3.out.trans (b4.mono HL3.out.size))
    clear b4
    go_wp2
    go_ret2
    exact ⟨rfl, HL4.out⟩
  · have hev : efV W H n f x y z = 0 := by unfold efV; rw [if_neg hc]
    rw [hev]
    have HC := Lib.hid (fun (w' : World) (hb : Box w' w.heap.size W H A n c) (hr : Row .i64 w' A n c f) => spec_code10 w' w.heap.size W H A n c f x y z hb hr)
    obtain ⟨q, hq⟩ : ∃ q, setC W H n f x y z = q := ⟨_, rfl⟩
    rw [hq] at HC hc ⊢
    clear hq hev
    obtain ⟨dz, d0, d1⟩ := id HD.out
    go_enter Tryd.func12, Tryd.ntmps12
    go_wp2_with fail
    clear dz d0 d1
    refine (HC.out _ HX.out HR.out).mono ?_
    rintro e w1 ⟨rfl, b1⟩
    have HL1 := Lib.hid (HL.out.trans (b1.mono HL.out.size))
    clear b1
    go_wp2
    go_ret2
    exact ⟨rfl, HL1.out⟩
end
end Go.Proofs.YtjgclemfehfgiaaDoor.Base
namespace Go.Proofs.YtjgclemfehfgiaaDoor.Base
open Go Go.RowKit
set_option linter.unusedVariables false
set_option linter.unusedSimpArgs false

/-- the operations that x waits for -/
def depsOf (x : Oper) : List Nat := (x.after.toList.filter fun e => Region.binds .any e).map (·.on)
theorem ready_iff {ops : Array Oper} {listed : Array Bool} {i : Nat} : i ∈ Region.ready .any ops listed ↔ ∃ x, ops[i]? = some x ∧ listed.getD i true = false ∧ ∀ j ∈ depsOf x, listed.getD j false = true := by
  unfold Region.ready
  simp only [List.mem_filter, List.mem_range, Bool.and_eq_true, Bool.not_eq_true']
  constructor
  · rintro ⟨h1, h2, h3⟩
    refine ⟨ops[i], Array.getElem?_eq_getElem h1, h2, fun j hj => ?_⟩
    rw [Array.getElem?_eq_getElem h1] at h3
    simp only [Option.map_some, Option.getD_some, Array.all_eq_true_iff_forall_mem] at h3
    unfold depsOf at hj
    obtain ⟨e, he, rfl⟩ := List.mem_map.1 hj
    obtain ⟨he1, he2⟩ := List.mem_filter.1 he
    have := h3 e (Array.mem_toList_iff.1 he1)
    rw [he2] at this
    simpa using this
  · rintro ⟨x, hx, h2, h3⟩
    refine ⟨(Array.getElem?_eq_some_iff.1 hx).1, h2, ?_⟩
    rw [hx]
    simp only [Option.map_some, Option.getD_some, Array.all_eq_true_iff_forall_mem]
    intro e he
    cases hb : Region.binds .any e
    · rfl
    · have := h3 e.on (List.mem_map.2 ⟨e, List.mem_filter.2 ⟨Array.mem_toList_iff.2 he, hb⟩, rfl⟩)
      rw [this]
      rfl
/-- what is listed is closed under waiting -/
def DC (l : List Oper) (listed : Array Bool) : Prop := ∀ (i : Nat) (x : Oper), l[i]? = some x → listed.getD i false = true → ∀ j ∈ depsOf x, listed.getD j false = true
def clos (l : List Oper) : Nat → List Nat → List Nat
  | 0, c => c
  | k + 1, c => clos l k (c ++ c.flatMap fun i => match l[i]? with | some x => depsOf x | none => [])
theorem clos_listed {l : List Oper} {listed : Array Bool} (hd : DC l listed) : ∀ (k : Nat) (c : List Nat), (∀ j ∈ c, listed.getD j false = true) → ∀ j ∈ clos l k c, listed.getD j false = true
  | 0, c, h => h
  | k + 1, c, h => clos_listed hd k _ (fun j hj => by
      rcases List.mem_append.1 hj with h1 | h1
      · exact h j h1
      · obtain ⟨i, hi, hj2⟩ := List.mem_flatMap.1 h1
        cases hx : l[i]? with
        | none => rw [hx] at hj2; cases hj2
        | some x => rw [hx] at hj2; exact hd i x hx (h i hi) j hj2)
/-- the check: no guards, every operation waits for earlier ones alone, the last for all, by way of others -/
def lastB (l : List Oper) (o : Oper) : Bool :=
  (l.all fun x => x.guard.isNone) && o.guard.isNone && ((List.range l.length).all fun i => match l[i]? with | some x => (depsOf x).all (· < i) | none => true) && ((depsOf o).all (· < l.length)) && ((List.range l.length).all fun i => (clos l 3 (depsOf o)).contains i)
def lastQ (P : Program) (o : Oper) (Q : Exit → Act → World → Prop) : Exit → Act → World → Prop
  | .normal, a, w => o.wp P a w (fun a w => Q .normal a w) Q
  | e, a, w => Q e a w
theorem wp_lastQ {P : Program} {o x : Oper} {Q : Exit → Act → World → Prop} {a : Act} {w : World} {K : Act → World → Prop} (h : x.wp P a w K (lastQ P o Q)) : x.wp P a w K Q := by
  unfold Oper.wp at *
  generalize (execOp a.eval x).run P w = r at *
  cases r with
  | ok n w' =>
    cases n <;> simp only [Oper.upon] at h ⊢ <;>
      first
        | exact h
        | exact Calls.mono h (fun e w'' he => by cases e <;> first | exact he | exact he)
        | exact Rows.mono h (fun _ _ he => he)
  | halt x w' => cases x <;> simp only [Oper.upon] at h ⊢ <;> exact h
theorem set_push {listed : Array Bool} {i : Nat} (hi : i < listed.size) : (listed.push false).setIfInBounds i true = (listed.setIfInBounds i true).push false := by
  refine Array.ext_getElem? (fun j => ?_)
  rw [Array.getElem?_setIfInBounds, Array.getElem?_push, Array.getElem?_push, Array.getElem?_setIfInBounds]
  simp only [Array.size_push, Array.size_setIfInBounds]
  by_cases e : i = j
  · subst e
    simp [hi, Nat.ne_of_lt hi, Nat.lt_succ_of_lt hi]
  · simp [e]
theorem push_getD {listed : Array Bool} {i : Nat} {d : Bool} (hi : i < listed.size) : (listed.push false).getD i d = listed.getD i d := by
  simp [Array.getD, hi, Nat.lt_succ_of_lt hi, Array.getElem_push]
theorem last_getD {listed : Array Bool} {i n : Nat} {d : Bool} (hi : i < listed.size) (hn : listed.size = n) : ((listed.push false).setIfInBounds n true).getD i d = listed.getD i d := by
  subst hn
  have hne : ¬ listed.size = i := by omega
  simp [Array.getD, hi, Nat.lt_succ_of_lt hi, Array.getElem_setIfInBounds, Array.getElem_push, hne]
section
variable {P : Program} {l : List Oper} {o : Oper} {Q : Exit → Act → World → Prop}
theorem all_listed (hB : lastB l o = true) {listed : Array Bool} (hsz : listed.size = l.length) (hr : Region.ready .any l.toArray listed = []) : ∀ j, j < l.length → listed.getD j false = true := by
  simp only [lastB, Bool.and_eq_true] at hB
  obtain ⟨⟨⟨⟨hg, ho⟩, hord⟩, hoL⟩, hcl⟩ := hB
  intro j
  induction j using Nat.strongRecOn with
  | ind j ih =>
    intro hj
    cases e : listed.getD j false with
    | true => rfl
    | false =>
      have hn : j ∉ Region.ready .any l.toArray listed := by rw [hr]; simp
      refine absurd ?_ hn
      rw [ready_iff]
      refine ⟨l[j], by simp [hj], by simpa [Array.getD, hsz, hj] using e, fun i hi => ?_⟩
      have h1 := List.all_eq_true.1 hord j (List.mem_range.2 hj)
      rw [List.getElem?_eq_getElem hj] at h1
      have hlt : i < j := by simpa using List.all_eq_true.1 h1 i hi
      exact ih i hlt (by omega)
theorem wpAnyS_last (hB : lastB l o = true) : ∀ (fuel : Nat) (listed : Array Bool) (a : Act) (w : World), listed.size = l.length → DC l listed →
    wpAnyS P .any l.toArray (lastQ P o Q) fuel listed a w → wpAnyS P .any (l ++ [o]).toArray Q (fuel + 1) (listed.push false) a w := by
  have hA := fun {listed : Array Bool} => all_listed (listed := listed) hB
  simp only [lastB, Bool.and_eq_true] at hB
  obtain ⟨⟨⟨⟨hg, ho⟩, hord⟩, hoL⟩, hcl⟩ := hB
  have ho : o.guard = none := by simpa using ho
  have hg : ∀ x ∈ l, x.guard = none := fun x hx => by simpa using List.all_eq_true.1 hg x hx
  have hoL : ∀ j ∈ depsOf o, j < l.length := fun j hj => by simpa using List.all_eq_true.1 hoL j hj
  have oL : (l ++ [o]).toArray[l.length]? = some o := by simp
  have oI : ∀ i, i < l.length → (l ++ [o]).toArray[i]? = l[i]? := fun i hi => by simp [List.getElem?_append_left hi]
  -- the last operation's turn: all others are listed
  have hlast : ∀ (listed : Array Bool), listed.size = l.length → DC l listed → l.length ∈ Region.ready .any (l ++ [o]).toArray (listed.push false) → ∀ j, j < l.length → listed.getD j false = true := by
    intro listed hsz hdc hi j hj
    obtain ⟨x, hx, -, h3⟩ := ready_iff.1 hi
    rw [oL] at hx
    cases hx
    have := List.all_eq_true.1 hcl j (List.mem_range.2 hj)
    exact clos_listed hdc _ _ (fun i hi => by rw [← push_getD (by rw [hsz]; exact hoL i hi)]; exact h3 i hi) j (by simpa using this)
  have hready : ∀ (listed : Array Bool), listed.size = l.length → (∀ j, j < l.length → listed.getD j false = true) → l.length ∈ Region.ready .any (l ++ [o]).toArray (listed.push false) := by
    intro listed hsz hall
    refine ready_iff.2 ⟨o, oL, by simp [Array.getD, hsz, Array.getElem_push], fun j hj => ?_⟩
    rw [push_getD (by rw [hsz]; exact hoL j hj)]
    exact hall j (hoL j hj)
  have hsub : ∀ (listed : Array Bool) (i : Nat), listed.size = l.length → i < l.length → (i ∈ Region.ready .any (l ++ [o]).toArray (listed.push false) ↔ i ∈ Region.ready .any l.toArray listed) := by
    intro listed i hsz hi
    have hdl : ∀ x, l[i]? = some x → ∀ j ∈ depsOf x, j < l.length := fun x hx j hj => by
      have h1 := List.all_eq_true.1 hord i (List.mem_range.2 hi)
      rw [hx] at h1
      have : j < i := by simpa using List.all_eq_true.1 h1 j hj
      omega
    rw [ready_iff, ready_iff]
    constructor
    · rintro ⟨x, h1, h2, h3⟩
      rw [oI i hi] at h1
      exact ⟨x, by simpa using h1, by rwa [push_getD (by omega)] at h2, fun j hj => by rw [← push_getD (by rw [hsz]; exact hdl x h1 j hj)]; exact h3 j hj⟩
    · rintro ⟨x, h1, h2, h3⟩
      have h1' : l[i]? = some x := by simpa using h1
      exact ⟨x, (oI i hi).trans h1', by rwa [push_getD (by omega)], fun j hj => by rw [push_getD (by rw [hsz]; exact hdl x h1' j hj)]; exact h3 j hj⟩
  have hfin : ∀ (fuel : Nat) (listed : Array Bool) (a : Act) (w : World), listed.size = l.length → (∀ j, j < l.length → listed.getD j false = true) → Q .normal a w → wpAnyS P .any (l ++ [o]).toArray Q fuel ((listed.push false).setIfInBounds l.length true) a w := by
    intro fuel listed a w hsz hall hQ
    have hr : Region.ready .any (l ++ [o]).toArray ((listed.push false).setIfInBounds l.length true) = [] := by
      refine List.eq_nil_iff_forall_not_mem.2 fun i hi => ?_
      obtain ⟨x, h1, h2, -⟩ := ready_iff.1 hi
      have hlt := (Array.getElem?_eq_some_iff.1 h1).1
      simp at hlt
      rcases Nat.lt_or_ge i l.length with h | h
      · have h5 := hall i h
        rw [last_getD (by omega) hsz] at h2
        simp [Array.getD, hsz, h] at h2 h5
        rw [h2] at h5
        cases h5
      · obtain rfl : i = l.length := by omega
        simp [Array.getD, hsz, Array.getElem_setIfInBounds] at h2
    cases fuel with
    | zero => exact ⟨hr, hQ⟩
    | succ k => exact ⟨fun _ => hQ, fun i hi => by rw [hr] at hi; cases hi⟩
  have hgo : ∀ (fuel : Nat) (listed : Array Bool) (a : Act) (w : World), listed.size = l.length → (∀ j, j < l.length → listed.getD j false = true) → lastQ P o Q .normal a w → wpOpS P (l ++ [o]).toArray Q l.length (wpAnyS P .any (l ++ [o]).toArray Q fuel ((listed.push false).setIfInBounds l.length true)) a w := by
    intro fuel listed a w hsz hall hq
    unfold wpOpS
    rw [oL]
    simp only [Region.wanted, ho, if_true]
    exact Oper.wp_mono (fun a w h => hfin fuel listed a w hsz hall h) hq
  intro fuel
  induction fuel with
  | zero =>
    rintro listed a w hsz hdc ⟨hr, hq⟩
    have hall := hA hsz hr
    refine ⟨fun h => absurd (hready listed hsz hall) (by rw [h]; simp), fun i hi => ?_⟩
    rcases Nat.lt_or_ge i l.length with h | h
    · have := (hsub listed i hsz h).1 hi
      rw [hr] at this
      cases this
    · have hlt : i < (l ++ [o]).toArray.size := by obtain ⟨x, h1, -⟩ := ready_iff.1 hi; exact (Array.getElem?_eq_some_iff.1 h1).1
      simp at hlt
      obtain rfl : i = l.length := by omega
      exact hgo 0 listed a w hsz hall hq
  | succ fuel ih =>
    rintro listed a w hsz hdc ⟨hr, hop⟩
    refine ⟨fun h => ?_, fun i hi => ?_⟩
    · have hrl : Region.ready .any l.toArray listed = [] := List.eq_nil_iff_forall_not_mem.2 fun i hi => by
        have hlt : i < l.length := by obtain ⟨x, h1, -⟩ := ready_iff.1 hi; have := (Array.getElem?_eq_some_iff.1 h1).1; simpa using this
        have := (hsub listed i hsz hlt).2 hi
        rw [h] at this
        cases this
      exact absurd (hready listed hsz (hA hsz hrl)) (by rw [h]; simp)
    · rcases Nat.lt_or_ge i l.length with h | h
      · have hil := (hsub listed i hsz h).1 hi
        have h1 := hop i hil
        obtain ⟨x, hx, h2, h3⟩ := ready_iff.1 hil
        have hx' : l[i]? = some x := by simpa using hx
        have hgx := hg x (List.mem_of_getElem? hx')
        unfold wpOpS at h1 ⊢
        rw [hx] at h1
        rw [oI i h, hx']
        simp only [Region.wanted, hgx, if_true] at h1 ⊢
        refine Oper.wp_mono (fun a w hw => ?_) (wp_lastQ h1)
        rw [set_push (by omega)]
        refine ih _ a w (by simpa using hsz) (fun i' x' hx2 hl2 j hj => ?_) hw
        have hset : ∀ q, listed.getD q false = true → (listed.setIfInBounds i true).getD q false = true := fun q hq => by
          have hqz : q < listed.size := by
            rcases Nat.lt_or_ge q listed.size with h | h
            · exact h
            · simp [Array.getD, Nat.not_lt.2 h] at hq
          simp [Array.getD, hqz, Array.getElem_setIfInBounds] at hq ⊢
          exact .inr hq
        by_cases e : i' = i
        · subst e
          rw [hx'] at hx2
          cases hx2
          exact hset j (h3 j hj)
        · refine hset j (hdc i' x' hx2 ?_ j hj)
          have hqz : i' < listed.size := by rw [hsz]; exact (List.getElem?_eq_some_iff.1 hx2).1
          simp [Array.getD, hqz, Array.getElem_setIfInBounds] at hl2 ⊢
          rcases hl2 with h | h
          · exact absurd h.symm e
          · exact h
      · have hlt : i < (l ++ [o]).toArray.size := by obtain ⟨x, h1, -⟩ := ready_iff.1 hi; exact (Array.getElem?_eq_some_iff.1 h1).1
        simp at hlt
        obtain rfl : i = l.length := by omega
        have hall := hlast listed hsz hdc hi
        have hrl : Region.ready .any l.toArray listed = [] := List.eq_nil_iff_forall_not_mem.2 fun i hi => by
          obtain ⟨x, h1, h2, -⟩ := ready_iff.1 hi
          have hlt : i < l.length := by have := (Array.getElem?_eq_some_iff.1 h1).1; simpa using this
          have h5 := hall i hlt
          simp [Array.getD, hsz, hlt] at h2 h5
          rw [h2] at h5
          cases h5
        exact hgo (fuel + 1) listed a w hsz hall (hr hrl)
/-- THE RULE: all but the last as in wpIn_region_stab, then the last -/
theorem wpIn_region_stab_last {l' : Nat} {nF : Nat} {id : Nat} {a0 : Act} {w0 : World} (dl : List (Option Nat)) (ds X : List Nat) (Bx : List (Nat × Nat)) (Φ : List Fact) (As Ds : List (List Nat)) (hd : ∀ x ∈ l ++ [o], ∀ c, x.op ≠ .defer c) (hm : P.follows .mixedOrders = true) (hB : stabB l dl ds Bx As Ds = true) (hL : lastB l o = true) (hX : ∀ k ∈ X, k < w0.drew.heap.size)
    (hst : StableAll w0.drew.heap.size X Φ) (hop : OblAll P l (lastQ P o Q) a0 dl ds X Bx Φ Ds w0.drew 0 l As)
    (hend : ∀ (vs : Nat → Value) (iv : Nat → Nat × Nat) (w : World), Ext X w0.drew w → Apart Bx iv l.length → AllFacts Φ Bx Ds w0.drew.heap.size vs iv w 0 dl → o.wp P (setA a0 ds vs) w (fun a w => Q .normal a w) Q) :
    (Code.region id (l ++ [o]).toArray true).wpIn (Fence.wide.inRound l') nF P Q a0 w0 := by
  refine wpIn_region_any hm ?_
  refine wpAnyS_in hd _ _ _ _ ?_
  have hno : ∀ j, (Array.replicate l.toArray.size false).getD j false = false := fun j => by simp [Array.getD]
  have h := wpAnyS_stab hB hX hst hop hend l.toArray.size (Array.replicate l.toArray.size false) (fun d => a0.tmps.getD d undef) (fun _ => (0, 0)) w0.drew (by simp)
    ⟨by simp, fun j oj hj => (by rw [hno] at hj; cases hj), fun j oj hj => (by rw [hno] at hj; cases hj), fun j hj => (by rw [hno] at hj; cases hj), fun i j hi => (by rw [hno] at hi; cases hi), Ext.refl _ _⟩
  rw [setA_self] at h
  have h2 := wpAnyS_last hL _ _ _ _ (by simp) (fun i x hx hl j hj => by rw [hno] at hl; cases hl) h
  have e1 : (Array.replicate l.toArray.size false).push false = Array.replicate (l ++ [o]).toArray.size false := by
    refine Array.ext_getElem? (fun j => ?_)
    rw [Array.getElem?_push]
    simp only [List.size_toArray, List.length_append, List.length_cons, List.length_nil, Array.getElem?_replicate, Array.size_replicate]
    by_cases e : j = l.length
    · simp [e]
    · rw [if_neg e]
      by_cases f : j < l.length
      · rw [if_pos f, if_pos (by omega)]
      · rw [if_neg f, if_neg (by omega)]
  rw [e1] at h2
  simpa using h2
end
theorem allFacts_get {Φ : List Fact} {Ds : List (List Nat)} {B : Nat} {vs : Nat → Value} {iv : Nat → Nat × Nat} {w : World} : ∀ {dl : List (Option Nat)} {i0 : Nat}, AllFacts Φ [] Ds B vs iv w i0 dl → ∀ (j : Nat) (d : Option Nat), dl[j]? = some d →
    (Φ.getD (i0 + j) noFact) ((Ds.getD (i0 + j) []).map vs) (ivOf [] iv (i0 + j)).1 (ivOf [] iv (i0 + j)).2 (dval vs d) w ∧ IvIn B w (ivOf [] iv (i0 + j))
  | [], i0, h, j, d, hd => by simp at hd
  | d' :: dl, i0, ⟨h1, h2⟩, 0, d, hd => by
    simp only [List.getElem?_cons_zero, Option.some.injEq] at hd
    subst hd
    simpa using h1
  | d' :: dl, i0, ⟨h1, h2⟩, j + 1, d, hd => by
    have := allFacts_get h2 j d (by simpa using hd)
    rw [show i0 + (j + 1) = i0 + 1 + j by omega]
    exact this
theorem stab_last6 {P : Program} {x0 x1 x2 x3 x4 o : Oper} {Q : Exit → Act → World → Prop} {l' : Nat} {nF : Nat} {id : Nat} {a0 : Act} {w0 : World} (dl : List (Option Nat)) (ds X : List Nat) (Bx : List (Nat × Nat)) (Φ : List Fact) (As Ds : List (List Nat)) (hd : ∀ x ∈ [x0, x1, x2, x3, x4] ++ [o], ∀ c, x.op ≠ .defer c) (hm : P.follows .mixedOrders = true) (hB : stabB [x0, x1, x2, x3, x4] dl ds Bx As Ds = true) (hL : lastB [x0, x1, x2, x3, x4] o = true) (hX : ∀ k ∈ X, k < w0.drew.heap.size)
    (hst : StableAll w0.drew.heap.size X Φ) (hop : OblAll P [x0, x1, x2, x3, x4] (lastQ P o Q) a0 dl ds X Bx Φ Ds w0.drew 0 [x0, x1, x2, x3, x4] As)
    (hend : ∀ (vs : Nat → Value) (iv : Nat → Nat × Nat) (w : World), Ext X w0.drew w → Apart Bx iv 5 → AllFacts Φ Bx Ds w0.drew.heap.size vs iv w 0 dl → o.wp P (setA a0 ds vs) w (fun a w => Q .normal a w) Q) :
    (Code.region id #[x0, x1, x2, x3, x4, o] true).wpIn (Fence.wide.inRound l') nF P Q a0 w0 := wpIn_region_stab_last (l := [x0, x1, x2, x3, x4]) dl ds X Bx Φ As Ds hd hm hB hL hX hst hop hend
theorem stab_last10 {P : Program} {x0 x1 x2 x3 x4 x5 x6 x7 x8 o : Oper} {Q : Exit → Act → World → Prop} {l' : Nat} {nF : Nat} {id : Nat} {a0 : Act} {w0 : World} (dl : List (Option Nat)) (ds X : List Nat) (Bx : List (Nat × Nat)) (Φ : List Fact) (As Ds : List (List Nat)) (hd : ∀ x ∈ [x0, x1, x2, x3, x4, x5, x6, x7, x8] ++ [o], ∀ c, x.op ≠ .defer c) (hm : P.follows .mixedOrders = true) (hB : stabB [x0, x1, x2, x3, x4, x5, x6, x7, x8] dl ds Bx As Ds = true) (hL : lastB [x0, x1, x2, x3, x4, x5, x6, x7, x8] o = true) (hX : ∀ k ∈ X, k < w0.drew.heap.size)
    (hst : StableAll w0.drew.heap.size X Φ) (hop : OblAll P [x0, x1, x2, x3, x4, x5, x6, x7, x8] (lastQ P o Q) a0 dl ds X Bx Φ Ds w0.drew 0 [x0, x1, x2, x3, x4, x5, x6, x7, x8] As)
    (hend : ∀ (vs : Nat → Value) (iv : Nat → Nat × Nat) (w : World), Ext X w0.drew w → Apart Bx iv 9 → AllFacts Φ Bx Ds w0.drew.heap.size vs iv w 0 dl → o.wp P (setA a0 ds vs) w (fun a w => Q .normal a w) Q) :
    (Code.region id #[x0, x1, x2, x3, x4, x5, x6, x7, x8, o] true).wpIn (Fence.wide.inRound l') nF P Q a0 w0 := wpIn_region_stab_last (l := [x0, x1, x2, x3, x4, x5, x6, x7, x8]) dl ds X Bx Φ As Ds hd hm hB hL hX hst hop hend
/-- a goal that no tactic looks into -/
structure Shut (p : Prop) : Prop where
  out : p
theorem stab_last10h {P : Program} {x0 x1 x2 x3 x4 x5 x6 x7 x8 o : Oper} {Q : Exit → Act → World → Prop} {l' : Nat} {nF : Nat} {id : Nat} {a0 : Act} {w0 : World} (dl : List (Option Nat)) (ds X : List Nat) (Bx : List (Nat × Nat)) (Φ : List Fact) (As Ds : List (List Nat)) (hd : ∀ x ∈ [x0, x1, x2, x3, x4, x5, x6, x7, x8] ++ [o], ∀ c, x.op ≠ .defer c) (hm : P.follows .mixedOrders = true) (hB : stabB [x0, x1, x2, x3, x4, x5, x6, x7, x8] dl ds Bx As Ds = true) (hL : lastB [x0, x1, x2, x3, x4, x5, x6, x7, x8] o = true) (hX : ∀ k ∈ X, k < w0.drew.heap.size)
    (hst : StableAll w0.drew.heap.size X Φ) (hop : OblAll P [x0, x1, x2, x3, x4, x5, x6, x7, x8] (lastQ P o Q) a0 dl ds X Bx Φ Ds w0.drew 0 [x0, x1, x2, x3, x4, x5, x6, x7, x8] As)
    (hend : ∀ (vs : Nat → Value) (iv : Nat → Nat × Nat) (w : World), Ext X w0.drew w → Apart Bx iv 9 → AllFacts Φ Bx Ds w0.drew.heap.size vs iv w 0 dl → Shut (o.wp P (setA a0 ds vs) w (fun a w => Q .normal a w) Q)) :
    (Code.region id #[x0, x1, x2, x3, x4, x5, x6, x7, x8, o] true).wpIn (Fence.wide.inRound l') nF P Q a0 w0 := wpIn_region_stab_last (l := [x0, x1, x2, x3, x4, x5, x6, x7, x8]) dl ds X Bx Φ As Ds hd hm hB hL hX hst hop (fun vs iv w h1 h2 h3 => (hend vs iv w h1 h2 h3).out)
end Go.Proofs.YtjgclemfehfgiaaDoor.Base
namespace Go.Proofs.YtjgclemfehfgiaaDoor.Base
open Go Go.RowKit
set_option linter.unusedVariables false
set_option linter.unusedSimpArgs false
attribute [local go_sem] Oper.semAt_some

def PrI (w : World) (lo hi : Nat) (v : Value) (ps : List (Nat × Nat)) : Prop := ∃ A c qs, v = .slice A ps.length c ∧ PrO w lo v ps qs ∧ (∀ q, v.ownBlock = some q → lo ≤ q ∧ q < hi) ∧ ∀ q ∈ qs, q < hi
theorem PrI.same {B : Nat} {X : List Nat} {lo hi : Nat} {w w' : World} {v : Value} {ps : List (Nat × Nat)} (h : PrI w lo hi v ps) (e : Same B X lo hi w w') : PrI w' lo hi v ps := by
  obtain ⟨A, c, qs, h1, h2, h3, h4⟩ := h
  refine ⟨A, c, qs, h1, ⟨h2.len, owns_block h2.own (fun q hq => e.block q (h2.own.lt q hq).2 (.inr (h3 q hq))), fun i q x y hi1 hi2 => ?_, h2.sep⟩, h3, h4⟩
  obtain ⟨r1, r2⟩ := h2.row i q x y hi1 hi2
  exact ⟨r1.of_block (e.block q r1.lt (.inr ⟨r2, h4 q (List.mem_of_getElem? hi1)⟩)), r2⟩
theorem prA_len (W H t X Y : Int) : (prA W H t X Y).length ≤ 2 := by
  unfold prA
  rw [List.length_map]
  refine Nat.le_trans (List.length_filter_le _ _) ?_
  unfold dirL
  split <;> (try split) <;> simp
theorem PrO.low {W : World} {base b : Nat} {u : Value} {ps : List (Nat × Nat)} {qs : List Nat} (h : PrO W base u ps qs) (hb : b ≤ base) : PrO W b u ps qs :=
  ⟨h.len, ⟨h.own.1, by
    rcases h.own.2 with e | ⟨g, cap, cur, e, g1, g2⟩
    · exact .inl e
    · exact .inr ⟨g, cap, cur, e, Nat.le_trans hb g1, g2⟩⟩, fun i q x y h1 h2 => ⟨(h.row i q x y h1 h2).1, Nat.le_trans hb (h.row i q x y h1 h2).2⟩, h.sep⟩
theorem infoTt : (Tryd.prog.info? 44).map (fun i => (i.zero, i.size, i.bytes)) = some (some (.slice none 0 0), 1, 24) := by kernel_rfl
theorem implInnerM (w : World) (W H : Int) (n : Nat) (hW : sideB W = true) (hH : sideB H = true) (hn : (n : Int) = inner W H) : Calls Tryd.prog 108 #[.agg #[.int .i64 W, .int .i64 H]] w (Gives (.int .i64 (n : Int)) w) := by
  rw [hn]
  exact innerPts_any W H hW hH w
set_option maxRecDepth 100000 in
set_option maxHeartbeats 4000000 in
theorem impl_trialOf (w : World) (W H : Int) (A : Option Addr) (n c : Nat) (f : Nat → Int) (hr : Row .i64 w A n c f) (hD : Cel w 1 [.int .i64 (-1), .int .i64 (-1), .int .i64 1, .int .i64 (-1), .int .i64 (-1), .int .i64 1, .int .i64 1, .int .i64 1]) (hJ : Cel w 0 [.int .i64 0, .int .i64 3, .int .i64 1, .int .i64 2, .int .i64 0, .int .i64 2, .int .i64 1, .int .i64 3, .int .i64 0, .int .i64 1, .int .i64 2, .int .i64 3]) (hv : validB W H n f = true) :
    Calls Tryd.prog 63 #[.agg #[.int .i64 W, .int .i64 H, .slice A n c]] w (TrO W H f n (4 * W * H).toNat w) := by
  have HL := Lib.hid (show Below w.heap.size w ((w.alloc (.cells #[.int .i64 W, .int .i64 H, .slice A n c] 30)).alloc (.cells #[.int .i64 0, .int .i64 0, .pointer none, .slice none 0 0] 89)) from ((Below.refl _ _).alloc (Nat.le_refl _) _).alloc (by simp) _)
  obtain ⟨hW, hH, hn, -⟩ := validB_yes hv
  obtain ⟨m0, m1⟩ := segs_bd hW hH
  obtain ⟨a1, a2⟩ := side_mk hW
  obtain ⟨b1, b2⟩ := side_mk hH
  obtain ⟨M, hM⟩ : ∃ M : Nat, 4 * W * H = (M : Int) := ⟨(4 * W * H).toNat, by omega⟩
  have hM1 : M ≤ 256 := by omega
  have hM0 : 1 ≤ M := by have hp : 0 < 4 * W * H := Int.mul_pos (by omega) (by omega); omega
  have hN1 : n ≤ 112 := by have := (inner_bd hW hH).2; omega
  have HM := Lib.hid hM
  have hMT : (4 * W * H).toNat = M := by omega
  rw [hMT]
  clear hMT
  have HNI := Lib.hid hn
  have HR := Lib.hid hr
  have HD := Lib.hid hD
  have HJ := Lib.hid hJ
  have HV := Lib.hid hv
  have HLT : Hid (∀ P : Int × Int, hasB W H P.1 P.2 = true → ∀ z ∈ prA W H (tkOf W H f P.1 P.2) P.1 P.2, (z.1 : Int) < 4 * W * H ∧ (z.2 : Int) < 4 * W * H) := Lib.hid (fun P hP z hz => by have := prA_lt hv hM.symm hP hz; omega)
  clear hr hD hJ hv hM hn
  refine (callsIn_wide (n := 6)).1 ?_
  refine callsIn_of_wp_marks Tryd.func63 rfl trivial ?_ rfl
  simp only [Tryd.ntmps63, List.size_toArray, List.length_cons, List.length_nil, Nat.reduceAdd, Nat.reduceSub, Array.replicate_succ, Array.replicate_zero, List.push_toArray, List.append_toArray, List.nil_append, List.cons_append]
  gi_wp2_with fail
  have HP1 := Lib.hid (((At.new w #[.int .i64 W, .int .i64 H, .slice A n c] 30).below ((Below.refl _ _).alloc (Nat.le_refl _) (.cells #[.int .i64 0, .int .i64 0, .pointer none, .slice none 0 0] 89)) (by simp)))
  have HZ1 := Lib.hid (show At ((w.alloc (.cells #[.int .i64 W, .int .i64 H, .slice A n c] 30)).alloc (.cells #[.int .i64 0, .int .i64 0, .pointer none, .slice none 0 0] 89)) (w.heap.size + 1) #[.int .i64 0, .int .i64 0, .pointer none, .slice none 0 0] 89 from At.newAt (by simp))
  refine ⟨trivial, (callsIn_wide.2 (sizeOf_any _ W H A n c)).mono ?_⟩
  rintro e w2 ⟨rfl, b2⟩
  have HP2 := Lib.hid (HP1.out.below b2 HP1.out.lt)
  have HZ2 := Lib.hid (HZ1.out.below b2 HZ1.out.lt)
  have HB2 := Lib.hid (HL.out.trans (b2.mono HL.out.size))
  have hz2 := b2.size
  simp at hz2
  clear b2 HP1 HZ1 HL
  gi_wp2_with fail
  have b3 := (Below.refl w2.heap.size w2).alloc (Nat.le_refl _) (.cells #[.int .i64 W, .int .i64 H] 82)
  have HP3 := Lib.hid (HP2.out.below b3 HP2.out.lt)
  have HZ3 := Lib.hid (HZ2.out.below b3 HZ2.out.lt)
  have HB3 := Lib.hid (HB2.out.trans (b3.mono HB2.out.size))
  have HS3 := Lib.hid (At.new w2 #[.int .i64 W, .int .i64 H] 82)
  obtain ⟨b4, hb4⟩ : ∃ b4, w2.heap.size = b4 := ⟨_, rfl⟩
  have z3 : (w2.alloc (.cells #[.int .i64 W, .int .i64 H] 82)).heap.size = b4 + 1 := by simp [hb4]
  have hb41 : w.heap.size + 1 < b4 := by omega
  rw [hb4] at HS3 ⊢
  clear b3 hb4 HP2 HZ2 HB2 hz2
  generalize w2.alloc (.cells #[.int .i64 W, .int .i64 H] 82) = w3 at HP3 HZ3 HB3 HS3 z3 ⊢
  have s0 : w3.cell? ⟨b4, 0, none⟩ = some (.int .i64 W) := HS3.out.cellv (i := 0) rfl
  have s1 : w3.cell? ⟨b4, 1, none⟩ = some (.int .i64 H) := HS3.out.cellv (i := 1) rfl
  have l4 : b4 < w3.heap.size := by omega
  have hmk := run_make_row' (P := Tryd.prog) 87 44 (.slice none 0 0) 24 Tryd.underlying87 infoTt rfl .i64 .i64 n (by omega) (by omega)
  have HMK := Lib.hid hmk
  clear hmk
  gi_cut [4] from 8 (fun s4 wx => ∃ b5 F E lv b0 tb, s4 = .pointer (some ⟨b5, 0, none⟩) ∧ At wx b5 #[.int .i64 W, .int .i64 H, .pointer (some ⟨F, 0, none⟩), .slice (some ⟨tb, 0, none⟩) n n] 89 ∧ wx.rowIs tb 44 n (fun _ => .slice none 0 0) ∧ Fo wx b0 F E M lv (fun z => z) 0 (fun _ => 0) ∧ (b4 < b0 ∧ b4 < F ∧ b4 < E ∧ b4 < tb ∧ b4 < b5 ∧ b0 ≤ wx.heap.size) ∧ (tb ≠ F ∧ tb ≠ E ∧ b5 ≠ F ∧ b5 ≠ E ∧ b5 ≠ tb) ∧ (∀ q, lv.ownBlock = some q → b4 < q ∧ q ≠ tb ∧ q ≠ b5) ∧ Below w3.heap.size w3 wx)
  case first =>
    refine wpIn_wide.2 ?_
    refine wp_region_stab [some 8, some 9, some 10, some 11, some 12, some 13, some 14, some 15, some 16, some 4, none] [8, 9, 10, 11, 12, 13, 14, 15, 16, 4] [] [(10, 9)]
      [(fun a lo hi v w' => v = .agg #[.int .i64 W, .int .i64 H]),
        (fun a lo hi v w' => v = .agg #[.int .i64 W, .int .i64 H]),
        (fun a lo hi v w' => v = .int .i64 (M : Int)),
        (fun a lo hi v w' => ∃ A1 c1 B1 d1, v = .agg #[.slice A1 M c1, .slice B1 0 d1] ∧ RowI w' lo hi A1 M c1 idF ∧ RowI w' lo hi B1 0 d1 (fun _ => 0)),
        (fun a lo hi v w' => FoI w' lo hi M v),
        (fun a lo hi v w' => v = .agg #[.int .i64 W, .int .i64 H]),
        (fun a lo hi v w' => v = .int .i64 (n : Int)),
        (fun a lo hi v w' => v = .slice (some ⟨lo, 0, none⟩) n n ∧ hi = lo + 1 ∧ w'.rowIs lo 44 n (fun _ => .slice none 0 0)),
        (fun a lo hi v w' => v = .agg #[.int .i64 W, .int .i64 H, a.getD 0 undef, a.getD 1 undef] ∧ ∃ F b, a.getD 0 undef = .pointer (some ⟨F, 0, none⟩) ∧ a.getD 1 undef = .slice (some ⟨b, 0, none⟩) n n),
        (fun a lo hi v w' => v = .pointer (some ⟨lo, 0, none⟩) ∧ hi = lo + 1 ∧ At w' lo #[.int .i64 0, .int .i64 0, .pointer none, .slice none 0 0] 89),
        (fun a lo hi v w' => a.getD 0 undef = .pointer (some ⟨lo, 0, none⟩) ∧ lo < hi ∧ ∃ X Y, a.getD 1 undef = .agg #[.int .i64 W, .int .i64 H, X, Y] ∧ At w' lo #[.int .i64 W, .int .i64 H, X, Y] 89)]
      [[], [], [1], [2], [3], [], [5], [6], [0, 4, 7], [], [9, 8]] [[], [], [], [], [], [], [], [], [12, 15], [], [4, 16]] (by kernel_rfl) (by kernel_rfl) (fun k hk => absurd hk List.not_mem_nil) ?gS ?gO ?gR
    case gS => exact ⟨fun _ _ _ _ _ _ h _ => h, fun _ _ _ _ _ _ h _ => h, fun _ _ _ _ _ _ h _ => h, fun _ _ _ _ _ _ ⟨A1, c1, B1, d1, h1, h2, h3⟩ e => ⟨A1, c1, B1, d1, h1, h2.same e, h3.same e⟩, fun _ _ _ _ _ _ h e => h.same e, fun _ _ _ _ _ _ h _ => h, fun _ _ _ _ _ _ h _ => h, fun _ _ _ _ _ _ ⟨h1, h2, h3⟩ e => ⟨h1, h2, h3.of_block (e.block _ h3.lt (.inr ⟨Nat.le_refl _, by omega⟩))⟩, fun _ _ _ _ _ _ h _ => h, fun _ _ _ _ _ _ ⟨h1, h2, h3⟩ e => ⟨h1, h2, h3.same e (.inr ⟨Nat.le_refl _, by omega⟩)⟩, fun _ _ _ _ _ _ ⟨h1, h2, h3⟩ e => ⟨h1, h2, let ⟨X, Y, q1, q2⟩ := h3; ⟨X, Y, q1, q2.same e (.inr ⟨Nat.le_refl _, h2⟩)⟩⟩, trivial⟩
    case gO =>
      refine ⟨?o0, ?o1, ?o2, ?o3, ?o4, ?o5, ?o6, ?o7, ?o8, ?o9, ?o10, trivial⟩
      case o0 =>
        intro vs iv wk hx hf
        have ezz : b4 < wk.heap.size := Nat.lt_of_lt_of_le l4 hx.size
        have e0 : wk.cell? ⟨b4, 0, none⟩ = some (.int .i64 W) := hx.cell s0 (by simp)
        have e1 : wk.cell? ⟨b4, 1, none⟩ = some (.int .i64 H) := hx.cell s1 (by simp)
        intro K' hK
        simp only [setA, setT, List.setIfInBounds_toArray, List.set_cons_zero, List.set_cons_succ]
        go_simp
        refine hK.out _ (.agg #[.int .i64 W, .int .i64 H]) _ ?_ ?_
        · simp only [setA, setT, List.setIfInBounds_toArray, List.set_cons_zero, List.set_cons_succ, Act.put]
        · exact ⟨Ext.refl _ _, rfl⟩
      case o1 =>
        intro vs iv wk hx hf
        have ezz : b4 < wk.heap.size := Nat.lt_of_lt_of_le l4 hx.size
        have e0 : wk.cell? ⟨b4, 0, none⟩ = some (.int .i64 W) := hx.cell s0 (by simp)
        have e1 : wk.cell? ⟨b4, 1, none⟩ = some (.int .i64 H) := hx.cell s1 (by simp)
        intro K' hK
        simp only [setA, setT, List.setIfInBounds_toArray, List.set_cons_zero, List.set_cons_succ]
        go_simp
        refine hK.out _ (.agg #[.int .i64 W, .int .i64 H]) _ ?_ ?_
        · simp only [setA, setT, List.setIfInBounds_toArray, List.set_cons_zero, List.set_cons_succ, Act.put]
        · exact ⟨Ext.refl _ _, rfl⟩
      case o2 =>
        intro vs iv wk hx hf
        obtain ⟨⟨hq1, -⟩, -⟩ := hf
        have hq1 : vs 9 = .agg #[.int .i64 W, .int .i64 H] := hq1
        intro K' hK
        simp only [setA, setT, List.setIfInBounds_toArray, List.set_cons_zero, List.set_cons_succ]
        go_simp
        refine (implSegsM _ hW hH HM.out).mono ?_
        rintro e w2 ⟨rfl, b2⟩
        dsimp only
        refine hK.out _ (.int .i64 (M : Int)) _ ?_ ?_
        · simp only [setA, setT, List.setIfInBounds_toArray, List.set_cons_zero, List.set_cons_succ, Act.put, hq1]
        · exact ⟨Ext.of_below b2, rfl⟩
      case o3 =>
        intro vs iv wk hx hf
        obtain ⟨⟨hq2, -⟩, -⟩ := hf
        have hq2 : vs 10 = .int .i64 (M : Int) := hq2
        intro K' hK
        simp only [setA, setT, List.setIfInBounds_toArray, List.set_cons_zero, List.set_cons_succ]
        go_simp
        refine (impl_alone _ M hM0 hM1).mono ?_
        rintro e w2 ⟨A1, c1, B1, d1, rfl, ⟨r1, r2, r3⟩, b2⟩
        dsimp only
        refine hK.out _ (.agg #[.slice A1 M c1, .slice B1 0 d1]) _ ?_ ?_
        · simp only [setA, setT, List.setIfInBounds_toArray, List.set_cons_zero, List.set_cons_succ, Act.put, hq2]
        · exact ⟨Ext.of_below b2, A1, c1, B1, d1, rfl, RowI.of r1, RowI.of r2⟩
      case o4 =>
        intro vs iv wk hx hf
        obtain ⟨⟨⟨A1, c1, B1, d1, hq3, r1, r2⟩, -⟩, -⟩ := hf
        have hq3 : vs 11 = .agg #[.slice A1 M c1, .slice B1 0 d1] := hq3
        have HR1 := Lib.hid r1.1.row
        have HR2 := Lib.hid r2.1.row
        clear r1 r2
        intro K' hK
        simp only [setA, setT, List.setIfInBounds_toArray, List.set_cons_zero, List.set_cons_succ]
        go_simp
        refine (planted_alone _ A1 M c1 B1 d1 _ HR1.out HR2.out hM0 hM1).mono ?_
        rintro e w2 ⟨v, rfl, hF, b2⟩
        dsimp only
        refine hK.out _ (v) _ ?_ ?_
        · simp only [setA, setT, List.setIfInBounds_toArray, List.set_cons_zero, List.set_cons_succ, Act.put, hq3]
        · exact ⟨Ext.of_below b2, hF⟩
      case o5 =>
        intro vs iv wk hx hf
        have ezz : b4 < wk.heap.size := Nat.lt_of_lt_of_le l4 hx.size
        have e0 : wk.cell? ⟨b4, 0, none⟩ = some (.int .i64 W) := hx.cell s0 (by simp)
        have e1 : wk.cell? ⟨b4, 1, none⟩ = some (.int .i64 H) := hx.cell s1 (by simp)
        intro K' hK
        simp only [setA, setT, List.setIfInBounds_toArray, List.set_cons_zero, List.set_cons_succ]
        go_simp
        refine hK.out _ (.agg #[.int .i64 W, .int .i64 H]) _ ?_ ?_
        · simp only [setA, setT, List.setIfInBounds_toArray, List.set_cons_zero, List.set_cons_succ, Act.put]
        · exact ⟨Ext.refl _ _, rfl⟩
      case o6 =>
        intro vs iv wk hx hf
        obtain ⟨⟨hq5, -⟩, -⟩ := hf
        have hq5 : vs 13 = .agg #[.int .i64 W, .int .i64 H] := hq5
        intro K' hK
        simp only [setA, setT, List.setIfInBounds_toArray, List.set_cons_zero, List.set_cons_succ]
        go_simp
        refine (implInnerM _ W H n hW hH HNI.out).mono ?_
        rintro e w2 ⟨rfl, b2⟩
        dsimp only
        refine hK.out _ (.int .i64 (n : Int)) _ ?_ ?_
        · simp only [setA, setT, List.setIfInBounds_toArray, List.set_cons_zero, List.set_cons_succ, Act.put, hq5]
        · exact ⟨Ext.of_below b2, rfl⟩
      case o7 =>
        intro vs iv wk hx hf
        obtain ⟨⟨hq6, -⟩, -⟩ := hf
        have hq6 : vs 14 = .int .i64 (n : Int) := hq6
        have hmk := HMK.out
        intro K' hK
        simp only [setA, setT, List.setIfInBounds_toArray, List.set_cons_zero, List.set_cons_succ]
        go_simp
        refine hK.out _ (.slice (some ⟨wk.heap.size, 0, none⟩) n n) _ ?_ ?_
        · simp only [setA, setT, List.setIfInBounds_toArray, List.set_cons_zero, List.set_cons_succ, Act.put, hq6]
        · exact ⟨Ext.alloc _ _, rfl, by simp, World.rowIs_made _ _ _ _⟩
      case o8 =>
        intro vs iv wk hx hf
        obtain ⟨⟨hq0, -⟩, ⟨⟨F0, E0, lv0, hq4, -⟩, -⟩, ⟨⟨hq7, -, -⟩, -⟩, -⟩ := hf
        have hq0 : vs 8 = .agg #[.int .i64 W, .int .i64 H] := hq0
        have hq4 : vs 12 = .pointer (some ⟨F0, 0, none⟩) := hq4
        have hq7 : vs 15 = .slice (some ⟨(iv 7).1, 0, none⟩) n n := hq7
        intro K' hK
        simp only [setA, setT, List.setIfInBounds_toArray, List.set_cons_zero, List.set_cons_succ]
        go_simp
        refine hK.out _ (.agg #[.int .i64 W, .int .i64 H, vs 12, vs 15]) _ ?_ ?_
        · simp only [setA, setT, List.setIfInBounds_toArray, List.set_cons_zero, List.set_cons_succ, Act.put, hq0, hq4, hq7]
        · exact ⟨Ext.refl _ _, rfl, F0, _, hq4, hq7⟩
      case o9 =>
        intro vs iv wk hx hf
        intro K' hK
        simp only [setA, setT, List.setIfInBounds_toArray, List.set_cons_zero, List.set_cons_succ]
        go_simp
        refine hK.out _ (.pointer (some ⟨wk.heap.size, 0, none⟩)) _ ?_ ?_
        · simp only [setA, setT, List.setIfInBounds_toArray, List.set_cons_zero, List.set_cons_succ, Act.put]
        · exact ⟨Ext.alloc _ _, rfl, by simp, At.new _ _ _⟩
      case o10 =>
        intro vs iv wk hx hf
        obtain ⟨⟨⟨h5, hhi, hA5⟩, -⟩, ⟨⟨hq8, F0, bq, hf0, hbq⟩, -⟩, -⟩ := hf
        have h5 : vs 4 = .pointer (some ⟨(iv 9).1, 0, none⟩) := h5
        have hf0 : vs 12 = .pointer (some ⟨F0, 0, none⟩) := hf0
        have hbq : vs 15 = .slice (some ⟨bq, 0, none⟩) n n := hbq
        have hq8 : vs 16 = .agg #[.int .i64 W, .int .i64 H, vs 12, vs 15] := hq8
        rw [hf0, hbq] at hq8
        have hA5 : At wk (iv 9).1 #[.int .i64 0, .int .i64 0, .pointer none, .slice none 0 0] 89 := hA5
        have hhi : (iv 9).2 = (iv 9).1 + 1 := hhi
        have q0 := hA5.cell 0
        have f0 := hA5.frozen 0
        have q1 := hA5.cell 1
        have f1 := hA5.frozen 1
        have q2 := hA5.cell 2
        have f2 := hA5.frozen 2
        have q3 := hA5.cell 3
        have f3 := hA5.frozen 3
        simp only [List.getElem?_toArray, List.getElem?_cons_zero, List.getElem?_cons_succ] at q0 q1 q2 q3
        have hlt5 : (iv 9).1 < (iv 9).2 := by omega
        have HA5 := Lib.hid hA5
        clear hA5 hhi
        have HLT := Lib.hid hlt5
        clear hlt5
        intro K' hK
        simp only [setA, setT, List.setIfInBounds_toArray, List.set_cons_zero, List.set_cons_succ]
        go_simp
        refine hK.out _ (undef) _ ?_ ?_
        · simp only [setA, setT, List.setIfInBounds_toArray, List.set_cons_zero, List.set_cons_succ, Act.put, h5, hq8, hf0, hbq]
        · exact ⟨HLT.out, (((Ext.set _ _ _ (by simp)).trans (Ext.set _ _ _ (by simp))).trans (Ext.set _ _ _ (by simp))).trans (Ext.set _ _ _ (by simp)), h5, HLT.out, _, _, hq8, ((((HA5.out.set 0 _).set 1 _).set 2 _).set 3 _)⟩
    case gR =>
      intro vs iv w5x hx hap hf
      obtain ⟨-, -, -, -, ⟨⟨F, E, lv, hv4, hFo, hF, hE, hl⟩, hz4⟩, -, -, ⟨⟨hv7, hi7, hR7⟩, hz7⟩, ⟨⟨hv8, -⟩, -⟩, -, ⟨⟨h5, hl5, X5, Y5, hX5, hA5⟩, hz5⟩, -⟩ := hf
      have hv4 : vs 12 = .pointer (some ⟨F, 0, none⟩) := hv4
      have hv7 : vs 15 = .slice (some ⟨(iv 7).1, 0, none⟩) n n := hv7
      have h5 : vs 4 = .pointer (some ⟨(iv 9).1, 0, none⟩) := h5
      have hv8 : vs 16 = .agg #[.int .i64 W, .int .i64 H, vs 12, vs 15] := hv8
      have hX5 : vs 16 = .agg #[.int .i64 W, .int .i64 H, X5, Y5] := hX5
      have eX : X5 = vs 12 ∧ Y5 = vs 15 := by rw [hX5] at hv8; simpa using hv8
      have hA5 : At w5x (iv 9).1 #[.int .i64 W, .int .i64 H, X5, Y5] 89 := hA5
      rw [eX.1, eX.2, hv4, hv7] at hA5
      have hR7 : w5x.rowIs (iv 7).1 44 n (fun _ => .slice none 0 0) := hR7
      have ha1 := hap 4 7 (by decide) (by decide) (by decide) rfl rfl
      have ha2 := hap 4 9 (by decide) (by decide) (by decide) rfl rfl
      have ha3 := hap 7 9 (by decide) (by decide) (by decide) rfl rfl
      have hz4' : w3.heap.size ≤ (iv 4).1 := hz4.1
      have hz7' : w3.heap.size ≤ (iv 7).1 := hz7.1
      have hz5' : w3.heap.size ≤ (iv 9).1 := hz5.1
      have hi7' : (iv 7).2 = (iv 7).1 + 1 := hi7
      have hl5' : (iv 9).1 < (iv 9).2 := hl5
      have hFo' : Fo w5x (iv 4).1 F E M lv (fun z => z) 0 (fun _ => 0) := hFo
      have hF' : (iv 4).1 ≤ F ∧ F < (iv 4).2 := hF
      have hE' : (iv 4).1 ≤ E ∧ E < (iv 4).2 := hE
      have hl' : ∀ q, lv.ownBlock = some q → (iv 4).1 ≤ q ∧ q < (iv 4).2 := hl
      have hFz := hFo'.box.lt
      simp only [setA, setT, List.setIfInBounds_toArray, List.set_cons_zero, List.set_cons_succ, hv4, hv7, h5]
      refine ‹∀ a' w', Met _ a' w' → _› _ _ ?_
      refine Met.intro ?_
      refine ‹∀ a' w', _ → _› _ _ ?_
      (repeat apply Exists.intro)
      refine ⟨?_, rfl⟩
      exact ⟨(iv 9).1, F, E, lv, (iv 4).1, (iv 7).1, rfl, hA5, hR7, hFo', ⟨by omega, by omega, by omega, by omega, by omega, by omega⟩, ⟨by omega, by omega, by omega, by omega, by omega⟩, fun q hq => by have := hl' q hq; exact ⟨by omega, by omega, by omega⟩, ((Ext.drew _).trans hx).nil⟩
  case rest =>
    obtain ⟨b5, F, E, lv, b0, tb, rfl, h5, hR5, hFo, ⟨o1, o2, o3, o4, o5, o6⟩, ⟨d1, d2, d3, d4, d5⟩, hl, hB5⟩ := hcut
    have H5c := Lib.hid h5
    have HRc := Lib.hid hR5
    have HFc := Lib.hid hFo
    have HLc := Lib.hid hl
    have HPc := Lib.hid (HP3.out.below hB5 HP3.out.lt)
    have HZc := Lib.hid (HZ3.out.below hB5 HZ3.out.lt)
    have HSc := Lib.hid (HS3.out.below hB5 HS3.out.lt)
    have HBc := Lib.hid (HB3.out.trans (hB5.mono HB3.out.size))
    clear h5 hR5 hFo hl hB5 s0 s1 l4 z3 HP3 HZ3 HB3 HS3 HMK
    have s0 : wc.cell? ⟨b4, 0, none⟩ = some (.int .i64 W) := HSc.out.cellv (i := 0) rfl
    have s1 : wc.cell? ⟨b4, 1, none⟩ = some (.int .i64 H) := HSc.out.cellv (i := 1) rfl
    have l4 := HSc.out.lt
    gi_wp2_with fail
    refine ⟨trivial, (callsIn_wide.2 (impl_points wc W H)).mono ?_⟩
    rintro e wd ⟨rfl, hcel, bd, zd⟩
    have HCd := Lib.hid hcel
    have H5d := Lib.hid (H5c.out.below bd H5c.out.lt)
    have HRd := Lib.hid (rowIs_below HRc.out bd HRc.out.lt)
    have HFd := Lib.hid (HFc.out.bel bd)
    have HPd := Lib.hid (HPc.out.below bd HPc.out.lt)
    have HZd := Lib.hid (HZc.out.below bd HZc.out.lt)
    have HSd := Lib.hid (HSc.out.below bd HSc.out.lt)
    have HBd := Lib.hid (HBc.out.trans (bd.mono HBc.out.size))
    have t1 := HFc.out.box.lt
    have t2 := HFc.out.elm.lt
    have t3 := HRc.out.lt
    have t4 := H5c.out.lt
    have HLd : Hid (∀ q, lv.ownBlock = some q → b4 < q ∧ q ≠ tb ∧ q ≠ b5 ∧ q < wc.heap.size) := Lib.hid (fun q hq => ⟨(HLc.out q hq).1, (HLc.out q hq).2.1, (HLc.out q hq).2.2, (HFc.out.log.lt q hq).2⟩)
    clear hcel bd s0 s1 l4 H5c HRc HFc HLc HPc HZc HSc HBc
    obtain ⟨pb, hpb⟩ : ∃ pb, wc.heap.size = pb := ⟨_, rfl⟩
    rw [hpb] at HCd zd t1 t2 t3 t4 o6 HLd ⊢
    clear hpb
    gi_wp2
    have hit : IterY Fence.wide 5 Tryd.prog 126 #[.pointer (some ⟨pb, 0, none⟩)] (fun k => ptE W H k) (ptsL W H).length 0 [pb] wd := pts_iter 5 (by omega) wd pb W H HCd.out hW hH
    refine wpIn_rangeY rfl (by omega) (gf := 126) (lb := #[.pointer (some ⟨pb, 0, none⟩)]) rfl trivial (enters_of Tryd.func126 (by kernel_rfl) rfl) hit (Nat.zero_le _) (by simp; omega) (Below.refl _ _) (fun _ => rfl)
      (TrI wd W H f n b0 F E M b4 b5 tb) (fun _ _ _ => False) (holds_tri (Nat.le_refl _)) (fun _ => holds_noY _) (ownL lv ++ [F, E, tb]) ?hX0 ?h0
      (fun k a' X => ∃ p3, a' = { tmps := #[.agg #[.int .i64 W, .int .i64 H, .slice A n c], .pointer (some ⟨w.heap.size, 0, none⟩), .pointer (some ⟨w.heap.size + 1, 0, none⟩), .pointer (some ⟨b4, 0, none⟩), .pointer (some ⟨b5, 0, none⟩), .pointer (some ⟨p3, 0, none⟩), .agg #[.int .i64 W, .int .i64 H, .slice A n c], .agg #[.int .i64 W, .int .i64 H], u8, u9, u10, u11, u12, u13, u14, u15, u16, .agg #[.int .i64 W, .int .i64 H], .func (.func 126) #[] #[.pointer (some ⟨pb, 0, none⟩)], .agg #[.int .i64 ((ptsL W H).getD k (0, 0)).1, .int .i64 ((ptsL W H).getD k (0, 0)).2], u20, u21, u22, u23, u24, u25, u26, u27, u28, u29, u30, u31, u32, u33, u34, u35, u36, u37, u38], defers := [] } ∧ At X p3 #[.int .i64 ((ptsL W H).getD k (0, 0)).1, .int .i64 ((ptsL W H).getD k (0, 0)).2] 32)
      (fun k a' X l o' h ho => by obtain ⟨p3, e, ha⟩ := h; exact ⟨p3, e, at_putR ha ho⟩) ?assign ?body ?done ?stop
    case hX0 =>
      intro b hb
      rcases List.mem_append.1 hb with h | h
      · have := HLd.out b (ownL_mem.1 h)
        simp; omega
      · simp at h ⊢
        omega
    case h0 =>
      refine ⟨lv, fun z => z, 0, fun _ => 0, fun _ => none, fun _ => 0, fun _ => [], HFd.out, fun i hi => absurd hi (Nat.not_lt_zero _), (by simpa [bdP] using Jns.nil), HRd.out, fun i hi => ⟨⟨rfl, fun _ => rfl, Nat.le_refl _, Nat.zero_le _, fun u hu => (by cases hu), fun h => absurd h (Nat.lt_irrefl _)⟩, (by simpa [ppK] using PrsV.nil _ _ _ _)⟩, fun i hi b o h _ => absurd h (Nat.lt_irrefl _), fun i hi q hq => (by cases hq), (by simp), fun q hq => ⟨List.mem_append_left _ (ownL_mem.2 hq), (HLd.out q hq).2.1⟩, ⟨d1, d2⟩, fun b hb => ?_, fun hb => ?_, rfl, rfl, rfl, Nat.le_refl _, fun _ _ _ => rfl⟩
      · rcases List.mem_append.1 hb with h | h
        · exact (HLd.out b (ownL_mem.1 h)).1
        · simp at h; omega
      · rcases List.mem_append.1 hb with h | h
        · exact (HLd.out b5 (ownL_mem.1 h)).2.2.1 rfl
        · simp at h; omega
    case assign =>
      intro l j X Aw K hj hX hi hK
      clear hit
      dsimp only [ptE]
      obtain ⟨P, hP⟩ : ∃ P, (ptsL W H).getD j (0, 0) = P := ⟨_, rfl⟩
      rw [hP] at hK ⊢
      clear hP
      gi_wp2
      exact hK _ _ ((Below.refl _ _).alloc (Nat.le_refl _) _) ⟨_, rfl, At.new _ _ _⟩
    case body =>
      rintro l k X a' Aw hk hX hXb ⟨lv1, p1, m1, g1, B1, C1, V1, hT⟩ ⟨p3, rfl, h3⟩
      clear hit
      obtain ⟨P, hP⟩ : ∃ P, (ptsL W H).getD k (0, 0) = P := ⟨_, rfl⟩
      rw [hP] at h3 ⊢
      have hmem : P ∈ ptsL W H := by rw [← hP]; simp [List.getD_eq_getElem?_getD, hk]
      have HHH := Lib.hid (ptsL_has.1 hmem)
      have nX : ∀ b, b ≤ b4 → b ∉ X := fun b hb e => by have := hT.low b e; omega
      have HPa := Lib.hid (HPd.out.of_block (hT.old _ HPd.out.lt (nX _ (by omega))))
      have HSa := Lib.hid (HSd.out.of_block (hT.old _ HSd.out.lt (nX _ (by omega))))
      have H5a := Lib.hid (H5d.out.of_block (hT.old _ H5d.out.lt hT.nb5))
      have HBa := Lib.hid (show Below w.heap.size w Aw from ⟨hT.os.trans HBd.out.os, hT.tape.trans HBd.out.tape, hT.output.trans HBd.out.output, Nat.le_trans HBd.out.size hT.size, fun b hb => (hT.old b (Nat.lt_of_lt_of_le hb HBd.out.size) (nX b (by omega))).trans (HBd.out.block b hb)⟩)
      have HTJ := Lib.hid hT
      have H3 := Lib.hid h3
      have HPP := Lib.hid hP
      have HXB := Lib.hid hXb
      clear hmem hT h3 hP hXb nX
      have s0 : Aw.cell? ⟨b4, 0, none⟩ = some (.int .i64 W) := HSa.out.cellv (i := 0) rfl
      have s1 : Aw.cell? ⟨b4, 1, none⟩ = some (.int .i64 H) := HSa.out.cellv (i := 1) rfl
      have q0 : Aw.cell? ⟨p3, 0, none⟩ = some (.int .i64 P.1) := H3.out.cellv (i := 0) rfl
      have q1 : Aw.cell? ⟨p3, 1, none⟩ = some (.int .i64 P.2) := H3.out.cellv (i := 1) rfl
      have l3' := H3.out.lt
      have l4' := HSa.out.lt
      gi_wp2_with fail
      refine ⟨trivial, (CallsIn.inRound l (callsIn_wide.2 (onBorder_any Aw W H P.1 P.2 hW hH))).mono ?_⟩
      rintro e A1 ⟨rfl, c1⟩
      clear s0 s1 q0 q1 l3' l4'
      have HC1 := Lib.hid c1
      have HP1 := Lib.hid (HPa.out.below c1 HPa.out.lt)
      have HS1 := Lib.hid (HSa.out.below c1 HSa.out.lt)
      have H51 := Lib.hid (H5a.out.below c1 H5a.out.lt)
      have H31 := Lib.hid (H3.out.below c1 H3.out.lt)
      replace HBa := Lib.hid (HBa.out.trans (c1.mono HBa.out.size))
      clear c1 HPa HSa H5a H3
      have c0 : A1.cell? ⟨w.heap.size, 0, none⟩ = some (.int .i64 W) := HP1.out.cellv (i := 0) rfl
      have c1 : A1.cell? ⟨w.heap.size, 1, none⟩ = some (.int .i64 H) := HP1.out.cellv (i := 1) rfl
      have c2 : A1.cell? ⟨w.heap.size, 2, none⟩ = some (.slice A n c) := HP1.out.cellv (i := 2) rfl
      have l1 := HP1.out.lt
      have q0 : A1.cell? ⟨p3, 0, none⟩ = some (.int .i64 P.1) := H31.out.cellv (i := 0) rfl
      have q1 : A1.cell? ⟨p3, 1, none⟩ = some (.int .i64 P.2) := H31.out.cellv (i := 1) rfl
      have l3 := H31.out.lt
      have t20 : A1.cell? ⟨b5, 2, none⟩ = some (.pointer (some ⟨F, 0, none⟩)) := H51.out.cellv (i := 2) rfl
      have t30 : A1.cell? ⟨b5, 3, none⟩ = some (.slice (some ⟨tb, 0, none⟩) n n) := H51.out.cellv (i := 3) rfl
      have l5 := H51.out.lt
      cases he : edgeB W H P.1 P.2
      · obtain ⟨x1, x2, y1, y2, hpar⟩ := has_yes HHH.out
        obtain ⟨e1, e2, e3, e4⟩ := edge_no he
        obtain ⟨n1, n2⟩ := num_lt hW hH HHH.out he
        obtain ⟨i0, hi0⟩ : ∃ i0 : Nat, numN W P.1 P.2 = (i0 : Int) := ⟨(numN W P.1 P.2).toNat, by omega⟩
        have HI0 := Lib.hid hi0
        have hi1 : (0 : Int) ≤ (i0 : Int) := by omega
        have hi2 : (i0 : Int) < (n : Int) := by have := HNI.out; omega
        have y0 : A1.cell? ⟨b4, 0, none⟩ = some (.int .i64 W) := HS1.out.cellv (i := 0) rfl
        have y1' : A1.cell? ⟨b4, 1, none⟩ = some (.int .i64 H) := HS1.out.cellv (i := 1) rfl
        have l4 := HS1.out.lt
        have HNB := Lib.hid (fun w' : World => numberOf_any w' W H P.1 P.2 hW (by omega) (by omega) (by omega) (by omega))
        rw [hi0] at HNB
        clear hi0 n1 n2 x1 x2 y1 y2 hpar e1 e2 e3 e4
        gi_wp2_with fail
        refine stab_last10h [some 29, some 30, some 31, some 32, some 33, some 34, some 35, some 36, some 37] [29, 30, 31, 32, 33, 34, 35, 36, 37] [] []
          [(fun a lo hi v w' => v = .pointer (some ⟨b5, 3, none⟩)), (fun a lo hi v w' => v = .slice (some ⟨tb, 0, none⟩) n n), (fun a lo hi v w' => v = .agg #[.int .i64 W, .int .i64 H]), (fun a lo hi v w' => v = .agg #[.int .i64 P.1, .int .i64 P.2]), (fun a lo hi v w' => v = .int .i64 (i0 : Int)), (fun a lo hi v w' => v = .agg #[.int .i64 W, .int .i64 H, .slice A n c]), (fun a lo hi v w' => v = .agg #[.int .i64 P.1, .int .i64 P.2]), (fun a lo hi v w' => PrI w' lo hi v (prA W H (tkOf W H f P.1 P.2) P.1 P.2)), (fun a lo hi v w' => v = .pointer (some ⟨tb, i0, none⟩))]
          [[], [0], [], [], [2, 3], [], [], [5, 6], [1, 4]] [[], [], [], [], [], [], [], [], []] (by intro x hx c; simp only [List.cons_append, List.nil_append, List.mem_cons, List.not_mem_nil, or_false] at hx; rcases hx with rfl | rfl | rfl | rfl | rfl | rfl | rfl | rfl | rfl | rfl <;> (intro h; cases h)) (by kernel_rfl) (by kernel_rfl) (by kernel_rfl) (fun k hk => absurd hk List.not_mem_nil) ?gS ?gO ?gR
        case gS => exact ⟨fun _ _ _ _ _ _ h _ => h, fun _ _ _ _ _ _ h _ => h, fun _ _ _ _ _ _ h _ => h, fun _ _ _ _ _ _ h _ => h, fun _ _ _ _ _ _ h _ => h, fun _ _ _ _ _ _ h _ => h, fun _ _ _ _ _ _ h _ => h, fun _ _ _ _ _ _ h e => h.same e, fun _ _ _ _ _ _ h _ => h, trivial⟩
        case gO =>
          refine ⟨?o0, ?o1, ?o2, ?o3, ?o4, ?o5, ?o6, ?o7, ?o8, trivial⟩
          case o0 =>
            intro vs iv wk hx hf
            intro K' hK
            simp only [setA, setT, List.setIfInBounds_toArray, List.set_cons_zero, List.set_cons_succ]
            go_simp
            refine hK.out _ (.pointer (some ⟨b5, 3, none⟩)) _ ?_ ?_
            · simp only [setA, setT, List.setIfInBounds_toArray, List.set_cons_zero, List.set_cons_succ, Act.put]
            · exact ⟨Ext.refl _ _, rfl⟩
          case o1 =>
            intro vs iv wk hx hf
            obtain ⟨⟨hq0, -⟩, -⟩ := hf
            have hq0 : vs 29 = .pointer (some ⟨b5, 3, none⟩) := hq0
            have ezz : b5 < wk.heap.size := Nat.lt_of_lt_of_le l5 hx.size
            have e0 : wk.cell? ⟨b5, 3, none⟩ = some (.slice (some ⟨tb, 0, none⟩) n n) := hx.cell t30 (by simp)
            intro K' hK
            simp only [setA, setT, List.setIfInBounds_toArray, List.set_cons_zero, List.set_cons_succ]
            go_simp
            refine hK.out _ (.slice (some ⟨tb, 0, none⟩) n n) _ ?_ ?_
            · simp only [setA, setT, List.setIfInBounds_toArray, List.set_cons_zero, List.set_cons_succ, Act.put, hq0]
            · exact ⟨Ext.refl _ _, rfl⟩
          case o2 =>
            intro vs iv wk hx hf
            have ezz : b4 < wk.heap.size := Nat.lt_of_lt_of_le l4 hx.size
            have e0 : wk.cell? ⟨b4, 0, none⟩ = some (.int .i64 W) := hx.cell y0 (by simp)
            have e1 : wk.cell? ⟨b4, 1, none⟩ = some (.int .i64 H) := hx.cell y1' (by simp)
            intro K' hK
            simp only [setA, setT, List.setIfInBounds_toArray, List.set_cons_zero, List.set_cons_succ]
            go_simp
            refine hK.out _ (.agg #[.int .i64 W, .int .i64 H]) _ ?_ ?_
            · simp only [setA, setT, List.setIfInBounds_toArray, List.set_cons_zero, List.set_cons_succ, Act.put]
            · exact ⟨Ext.refl _ _, rfl⟩
          case o3 =>
            intro vs iv wk hx hf
            have ezz : p3 < wk.heap.size := Nat.lt_of_lt_of_le l3 hx.size
            have e0 : wk.cell? ⟨p3, 0, none⟩ = some (.int .i64 P.1) := hx.cell q0 (by simp)
            have e1 : wk.cell? ⟨p3, 1, none⟩ = some (.int .i64 P.2) := hx.cell q1 (by simp)
            intro K' hK
            simp only [setA, setT, List.setIfInBounds_toArray, List.set_cons_zero, List.set_cons_succ]
            go_simp
            refine hK.out _ (.agg #[.int .i64 P.1, .int .i64 P.2]) _ ?_ ?_
            · simp only [setA, setT, List.setIfInBounds_toArray, List.set_cons_zero, List.set_cons_succ, Act.put]
            · exact ⟨Ext.refl _ _, rfl⟩
          case o4 =>
            intro vs iv wk hx hf
            obtain ⟨⟨hq1, -⟩, ⟨hq2, -⟩, -⟩ := hf
            have hq1 : vs 31 = .agg #[.int .i64 W, .int .i64 H] := hq1
            have hq2 : vs 32 = .agg #[.int .i64 P.1, .int .i64 P.2] := hq2
            intro K' hK
            simp only [setA, setT, List.setIfInBounds_toArray, List.set_cons_zero, List.set_cons_succ]
            go_simp
            refine (HNB.out _).mono ?_
            rintro e w2 ⟨rfl, b2⟩
            dsimp only
            refine hK.out _ (.int .i64 (i0 : Int)) _ ?_ ?_
            · simp only [setA, setT, List.setIfInBounds_toArray, List.set_cons_zero, List.set_cons_succ, Act.put, hq1, hq2]
            · refine ⟨Ext.of_below b2, ?_⟩
              simp only [List.getD_cons_succ, List.getD_cons_zero, dstVal]
          case o5 =>
            intro vs iv wk hx hf
            have ezz : w.heap.size < wk.heap.size := Nat.lt_of_lt_of_le l1 hx.size
            have e0 : wk.cell? ⟨w.heap.size, 0, none⟩ = some (.int .i64 W) := hx.cell c0 (by simp)
            have e1 : wk.cell? ⟨w.heap.size, 1, none⟩ = some (.int .i64 H) := hx.cell c1 (by simp)
            have e2 : wk.cell? ⟨w.heap.size, 2, none⟩ = some (.slice A n c) := hx.cell c2 (by simp)
            intro K' hK
            simp only [setA, setT, List.setIfInBounds_toArray, List.set_cons_zero, List.set_cons_succ]
            go_simp
            refine hK.out _ (.agg #[.int .i64 W, .int .i64 H, .slice A n c]) _ ?_ ?_
            · simp only [setA, setT, List.setIfInBounds_toArray, List.set_cons_zero, List.set_cons_succ, Act.put]
            · exact ⟨Ext.refl _ _, rfl⟩
          case o6 =>
            intro vs iv wk hx hf
            have ezz : p3 < wk.heap.size := Nat.lt_of_lt_of_le l3 hx.size
            have e0 : wk.cell? ⟨p3, 0, none⟩ = some (.int .i64 P.1) := hx.cell q0 (by simp)
            have e1 : wk.cell? ⟨p3, 1, none⟩ = some (.int .i64 P.2) := hx.cell q1 (by simp)
            intro K' hK
            simp only [setA, setT, List.setIfInBounds_toArray, List.set_cons_zero, List.set_cons_succ]
            go_simp
            refine hK.out _ (.agg #[.int .i64 P.1, .int .i64 P.2]) _ ?_ ?_
            · simp only [setA, setT, List.setIfInBounds_toArray, List.set_cons_zero, List.set_cons_succ, Act.put]
            · exact ⟨Ext.refl _ _, rfl⟩
          case o7 =>
            intro vs iv wk hx hf
            obtain ⟨⟨hq1, -⟩, ⟨hq2, -⟩, -⟩ := hf
            have hq1 : vs 34 = .agg #[.int .i64 W, .int .i64 H, .slice A n c] := hq1
            have hq2 : vs 35 = .agg #[.int .i64 P.1, .int .i64 P.2] := hq2
            have bk : Below w.heap.size w wk := HBa.out.trans ((((Ext.drew _).trans hx).nil).mono HBa.out.size)
            intro K' hK
            simp only [setA, setT, List.setIfInBounds_toArray, List.set_cons_zero, List.set_cons_succ]
            go_simp
            refine (impl_ppairsAt _ W H A n c f P.1 P.2 HV.out (HR.out.below bk (Nat.le_refl _)) HHH.out (HD.out.below bk HD.out.1) (HJ.out.below bk HJ.out.1)).mono ?_
            rintro e w2 ⟨A5, c5, qs, rfl, ro, b2⟩
            dsimp only
            refine hK.out _ (.slice A5 (prA W H (tkOf W H f P.1 P.2) P.1 P.2).length c5) _ ?_ ?_
            · simp only [setA, setT, List.setIfInBounds_toArray, List.set_cons_zero, List.set_cons_succ, Act.put, hq1, hq2]
            · exact ⟨Ext.of_below b2, A5, c5, qs, rfl, ro, fun q hq => ro.own.lt q hq, fun q hq => (ro.lt hq).1⟩
          case o8 =>
            intro vs iv wk hx hf
            obtain ⟨⟨hq1, -⟩, ⟨hq4, -⟩, -⟩ := hf
            have hq1 : vs 30 = .slice (some ⟨tb, 0, none⟩) n n := hq1
            have hq4 : vs 33 = .int .i64 (i0 : Int) := hq4
            intro K' hK
            simp only [setA, setT, List.setIfInBounds_toArray, List.set_cons_zero, List.set_cons_succ]
            go_simp
            refine hK.out _ (.pointer (some ⟨tb, i0, none⟩)) _ ?_ ?_
            · simp only [setA, setT, List.setIfInBounds_toArray, List.set_cons_zero, List.set_cons_succ, Act.put, hq1, hq4]
            · exact ⟨Ext.refl _ _, rfl⟩
        case gR =>
          intro vs iv wx hx hap hf
          have hg7 := allFacts_get hf 7 (some 36) rfl
          have hg8 := allFacts_get hf 8 (some 37) rfl
          clear hf
          have hz7 : A1.heap.size ≤ (iv 7).1 := hg7.2.1
          have hh7 : PrI wx (iv 7).1 (iv 7).2 (vs 36) (prA W H (tkOf W H f P.1 P.2) P.1 P.2) := hg7.1
          have hv8 : vs 37 = .pointer (some ⟨tb, i0, none⟩) := hg8.1
          clear hg7 hg8
          obtain ⟨A5, c5, qs, hv7, ro, -, -⟩ := hh7
          have hv7 : vs 36 = .slice A5 (prA W H (tkOf W H f P.1 P.2) P.1 P.2).length c5 := hv7
          have ro : PrO wx (iv 7).1 (vs 36) (prA W H (tkOf W H f P.1 P.2) P.1 P.2) qs := ro
          rw [hv7] at ro
          have bx : Below A1.heap.size A1 wx := ((Ext.drew _).trans hx).nil
          have HBX := Lib.hid (HC1.out.trans (bx.mono HC1.out.size))
          have HRO := Lib.hid (ro.low (b := Aw.heap.size) (by have := HC1.out.size; omega))
          have hrow := rowIs_below HTJ.out.row HBX.out HTJ.out.row.lt
          have k0 : wx.cell? ⟨tb, i0, none⟩ = some (.slice (B1 i0) (V1 i0).length (C1 i0)) := hrow.cell (i := i0) (by omega)
          have kf : wx.frozen? ⟨tb, i0, none⟩ = false := hrow.frozen i0
          have kz := hrow.lt
          obtain ⟨kk0, kk1⟩ := tk_kindP HV.out HHH.out
          obtain ⟨gb, t1, t2, t3⟩ := HTJ.out.inner hW hH hk HNI.out H5d.out.lt HPP.out HHH.out he (by omega) HI0.out.symm HBX.out HRO.out
          have HT1 := Lib.hid t1
          have HT2 := Lib.hid t2
          have HT3 := Lib.hid t3
          generalize (prA W H (tkOf W H f P.1 P.2) P.1 P.2).length = np at hv7 HT1 HT2 ⊢
          clear bx ro hz7 hx hap hrow kk0 kk1 t1 t2 t3 c0 c1 c2 l1 q0 q1 l3 t20 t30 l5 y0 y1' l4 hi1 hi2 he hk HRO
          refine ⟨?_⟩
          simp only [setA, setT, List.setIfInBounds_toArray, List.set_cons_zero, List.set_cons_succ, hv7, hv8]
          clear hv7 hv8
          go_simp
          refine ⟨gb :: qs ++ X, ⟨lv1, p1, m1, g1, _, _, _, HT1.out⟩, HT2.out, fun b hb' => ?_⟩
          rcases List.mem_append.1 hb' with h | h
          · exact ⟨.inr (HT3.out b h).1, by have := (HT3.out b h).2; simpa [World.setCell] using this⟩
          · exact ⟨.inl h, Nat.lt_of_lt_of_le (HXB.out b h).2.1 HT2.out.size⟩
      · gi_wp2_with fail
        refine stab_last6 [some 23, some 24, some 25, some 26, some 27] [23, 24, 25, 26, 27] [] []
          [(fun a lo hi v w' => v = .pointer (some ⟨b5, 2, none⟩)), (fun a lo hi v w' => v = .pointer (some ⟨F, 0, none⟩)), (fun a lo hi v w' => v = .agg #[.int .i64 W, .int .i64 H, .slice A n c]), (fun a lo hi v w' => v = .agg #[.int .i64 P.1, .int .i64 P.2]), (fun a lo hi v w' => PrI w' lo hi v (prA W H (tkOf W H f P.1 P.2) P.1 P.2))]
          [[], [0], [], [], [2, 3]] [[], [], [], [], []] (by intro x hx c; simp only [List.cons_append, List.nil_append, List.mem_cons, List.not_mem_nil, or_false] at hx; rcases hx with rfl | rfl | rfl | rfl | rfl | rfl <;> (intro h; cases h)) (by kernel_rfl) (by kernel_rfl) (by kernel_rfl) (fun k hk => absurd hk List.not_mem_nil) ?gS ?gO ?gR
        case gS => exact ⟨fun _ _ _ _ _ _ h _ => h, fun _ _ _ _ _ _ h _ => h, fun _ _ _ _ _ _ h _ => h, fun _ _ _ _ _ _ h _ => h, fun _ _ _ _ _ _ h e => h.same e, trivial⟩
        case gO =>
          refine ⟨?o0, ?o1, ?o2, ?o3, ?o4, trivial⟩
          case o0 =>
            intro vs iv wk hx hf
            intro K' hK
            simp only [setA, setT, List.setIfInBounds_toArray, List.set_cons_zero, List.set_cons_succ]
            go_simp
            refine hK.out _ (.pointer (some ⟨b5, 2, none⟩)) _ ?_ ?_
            · simp only [setA, setT, List.setIfInBounds_toArray, List.set_cons_zero, List.set_cons_succ, Act.put]
            · exact ⟨Ext.refl _ _, rfl⟩
          case o1 =>
            intro vs iv wk hx hf
            obtain ⟨⟨hq0, -⟩, -⟩ := hf
            have hq0 : vs 23 = .pointer (some ⟨b5, 2, none⟩) := hq0
            have ezz : b5 < wk.heap.size := Nat.lt_of_lt_of_le l5 hx.size
            have e0 : wk.cell? ⟨b5, 2, none⟩ = some (.pointer (some ⟨F, 0, none⟩)) := hx.cell t20 (by simp)
            intro K' hK
            simp only [setA, setT, List.setIfInBounds_toArray, List.set_cons_zero, List.set_cons_succ]
            go_simp
            refine hK.out _ (.pointer (some ⟨F, 0, none⟩)) _ ?_ ?_
            · simp only [setA, setT, List.setIfInBounds_toArray, List.set_cons_zero, List.set_cons_succ, Act.put, hq0]
            · exact ⟨Ext.refl _ _, rfl⟩
          case o2 =>
            intro vs iv wk hx hf
            have ezz : w.heap.size < wk.heap.size := Nat.lt_of_lt_of_le l1 hx.size
            have e0 : wk.cell? ⟨w.heap.size, 0, none⟩ = some (.int .i64 W) := hx.cell c0 (by simp)
            have e1 : wk.cell? ⟨w.heap.size, 1, none⟩ = some (.int .i64 H) := hx.cell c1 (by simp)
            have e2 : wk.cell? ⟨w.heap.size, 2, none⟩ = some (.slice A n c) := hx.cell c2 (by simp)
            intro K' hK
            simp only [setA, setT, List.setIfInBounds_toArray, List.set_cons_zero, List.set_cons_succ]
            go_simp
            refine hK.out _ (.agg #[.int .i64 W, .int .i64 H, .slice A n c]) _ ?_ ?_
            · simp only [setA, setT, List.setIfInBounds_toArray, List.set_cons_zero, List.set_cons_succ, Act.put]
            · exact ⟨Ext.refl _ _, rfl⟩
          case o3 =>
            intro vs iv wk hx hf
            have ezz : p3 < wk.heap.size := Nat.lt_of_lt_of_le l3 hx.size
            have e0 : wk.cell? ⟨p3, 0, none⟩ = some (.int .i64 P.1) := hx.cell q0 (by simp)
            have e1 : wk.cell? ⟨p3, 1, none⟩ = some (.int .i64 P.2) := hx.cell q1 (by simp)
            intro K' hK
            simp only [setA, setT, List.setIfInBounds_toArray, List.set_cons_zero, List.set_cons_succ]
            go_simp
            refine hK.out _ (.agg #[.int .i64 P.1, .int .i64 P.2]) _ ?_ ?_
            · simp only [setA, setT, List.setIfInBounds_toArray, List.set_cons_zero, List.set_cons_succ, Act.put]
            · exact ⟨Ext.refl _ _, rfl⟩
          case o4 =>
            intro vs iv wk hx hf
            obtain ⟨⟨hq1, -⟩, ⟨hq2, -⟩, -⟩ := hf
            have hq1 : vs 25 = .agg #[.int .i64 W, .int .i64 H, .slice A n c] := hq1
            have hq2 : vs 26 = .agg #[.int .i64 P.1, .int .i64 P.2] := hq2
            have bk : Below w.heap.size w wk := HBa.out.trans ((((Ext.drew _).trans hx).nil).mono HBa.out.size)
            intro K' hK
            simp only [setA, setT, List.setIfInBounds_toArray, List.set_cons_zero, List.set_cons_succ]
            go_simp
            refine (impl_ppairsAt _ W H A n c f P.1 P.2 HV.out (HR.out.below bk (Nat.le_refl _)) HHH.out (HD.out.below bk HD.out.1) (HJ.out.below bk HJ.out.1)).mono ?_
            rintro e w2 ⟨A5, c5, qs, rfl, ro, b2⟩
            dsimp only
            refine hK.out _ (.slice A5 (prA W H (tkOf W H f P.1 P.2) P.1 P.2).length c5) _ ?_ ?_
            · simp only [setA, setT, List.setIfInBounds_toArray, List.set_cons_zero, List.set_cons_succ, Act.put, hq1, hq2]
            · exact ⟨Ext.of_below b2, A5, c5, qs, rfl, ro, fun q hq => ro.own.lt q hq, fun q hq => (ro.lt hq).1⟩
        case gR =>
          intro vs iv wx hx hap hf
          obtain ⟨-, ⟨hv1, -⟩, -, -, ⟨⟨A5, c5, qs, hv4, ro, -, -⟩, hz4⟩, -⟩ := hf
          have hv1 : vs 24 = .pointer (some ⟨F, 0, none⟩) := hv1
          have hv4 : vs 27 = .slice A5 (prA W H (tkOf W H f P.1 P.2) P.1 P.2).length c5 := hv4
          have ro : PrO wx (iv 4).1 (vs 27) (prA W H (tkOf W H f P.1 P.2) P.1 P.2) qs := ro
          rw [hv4] at ro
          have hz4' : A1.heap.size ≤ (iv 4).1 := hz4.1
          have bx : Below A1.heap.size A1 wx := ((Ext.drew _).trans hx).nil
          have bA := HC1.out.trans (bx.mono HC1.out.size)
          have FO := HTJ.out.fo.bel bA
          have zA := HC1.out.size
          have zS := HTJ.out.size
          have fz := HTJ.out.fo.box.lt
          have ez := HTJ.out.fo.elm.lt
          have lz : ∀ q, lv1.ownBlock = some q → q < (iv 4).1 := fun q hq => by have := (HTJ.out.fo.log.lt q hq).2; omega
          have HJN := Lib.hid (impl_joinN wx b0 F E M lv1 p1 m1 g1 A5 c5 _ FO (ro.prl rfl (by omega) (by omega) lz) (fun z hz => by have := HLT.out P HHH.out z hz; have := HM.out; omega) (by have := prA_len W H (tkOf W H f P.1 P.2) P.1 P.2; omega) (by have := bx.size; omega))
          have HBX := Lib.hid bA
          clear FO bA bx ro lz hz4 hx hap
          simp only [setA, setT, List.setIfInBounds_toArray, List.set_cons_zero, List.set_cons_succ, hv1, hv4]
          go_simp
          refine HJN.out.mono ?_
          rintro e W' ⟨⟨v, rfl⟩, lv2, p2, m2, g2, j1, j2, j3, j4⟩
          dsimp only
          have hb := HTJ.out.border hW hH hk HNI.out H5d.out.lt HPP.out he HBX.out j1 j2 j3 j4
          refine ⟨ownL lv2 ++ X, ⟨lv2, p2, m2, g2, B1, C1, V1, hb.1⟩, hb.2.1, fun b hb' => ?_⟩
          rcases List.mem_append.1 hb' with h | h
          · exact hb.2.2 b h
          · exact ⟨.inl h, Nat.lt_of_lt_of_le (HXB.out b h).2.1 hb.2.1.size⟩
    case done =>
      rintro D X A9 hD hX ⟨lv1, p1, m1, g1, B1, C1, V1, hT⟩ hdef
      clear hit
      have nX : ∀ b, b ≤ b4 → b ∉ X := fun b hb e => by have := hT.low b e; omega
      have H59 := Lib.hid (H5d.out.of_block (hT.old _ H5d.out.lt hT.nb5))
      have HZ9 := Lib.hid (HZd.out.of_block (hT.old _ HZd.out.lt (nX _ (by omega))))
      have HB9 := Lib.hid (show Below w.heap.size w A9 from ⟨hT.os.trans HBd.out.os, hT.tape.trans HBd.out.tape, hT.output.trans HBd.out.output, Nat.le_trans HBd.out.size hT.size, fun b hb => (hT.old b (Nat.lt_of_lt_of_le hb HBd.out.size) (nX b (by omega))).trans (HBd.out.block b hb)⟩)
      have HTJ := Lib.hid hT
      have HXB := Lib.hid hX
      have HNX := Lib.hid nX
      have HKD := Lib.hid hdef
      clear nX hT hX hdef
      have t0 : A9.cell? ⟨b5, 0, none⟩ = some (.int .i64 W) := H59.out.cellv (i := 0) rfl
      have t1' : A9.cell? ⟨b5, 1, none⟩ = some (.int .i64 H) := H59.out.cellv (i := 1) rfl
      have t20 : A9.cell? ⟨b5, 2, none⟩ = some (.pointer (some ⟨F, 0, none⟩)) := H59.out.cellv (i := 2) rfl
      have t30 : A9.cell? ⟨b5, 3, none⟩ = some (.slice (some ⟨tb, 0, none⟩) n n) := H59.out.cellv (i := 3) rfl
      have t5 := H59.out.lt
      have l0 : A9.cell? ⟨w.heap.size + 1, 0, none⟩ = some (.int .i64 0) := HZ9.out.cellv (i := 0) rfl
      have l1 : A9.cell? ⟨w.heap.size + 1, 1, none⟩ = some (.int .i64 0) := HZ9.out.cellv (i := 1) rfl
      have l2 : A9.cell? ⟨w.heap.size + 1, 2, none⟩ = some (.pointer none) := HZ9.out.cellv (i := 2) rfl
      have l3 : A9.cell? ⟨w.heap.size + 1, 3, none⟩ = some (.slice none 0 0) := HZ9.out.cellv (i := 3) rfl
      have f0 := HZ9.out.frozen 0
      have f1 := HZ9.out.frozen 1
      have f2 := HZ9.out.frozen 2
      have f3 := HZ9.out.frozen 3
      have zL := HZ9.out.lt
      have hD2 : w.heap.size + 1 ≠ D := by omega
      gi_wp2
      have HA := Lib.hid ((((HZ9.out.set 0 (.int .i64 W)).set 1 (.int .i64 H)).set 2 (.pointer (some ⟨F, 0, none⟩))).set 3 (.slice (some ⟨tb, 0, none⟩) n n))
      have HBX := Lib.hid ((((HB9.out.setCell (p := ⟨w.heap.size + 1, 0, none⟩) (show w.heap.size ≤ w.heap.size + 1 by omega) (.int .i64 W)).setCell (p := ⟨w.heap.size + 1, 1, none⟩) (show w.heap.size ≤ w.heap.size + 1 by omega) (.int .i64 H)).setCell (p := ⟨w.heap.size + 1, 2, none⟩) (show w.heap.size ≤ w.heap.size + 1 by omega) (.pointer (some ⟨F, 0, none⟩))).setCell (p := ⟨w.heap.size + 1, 3, none⟩) (show w.heap.size ≤ w.heap.size + 1 by omega) (.slice (some ⟨tb, 0, none⟩) n n))
      have HQ : Hid (∀ b, b ≠ w.heap.size + 1 → ((((A9.setCell ⟨w.heap.size + 1, 0, none⟩ (.int .i64 W)).setCell ⟨w.heap.size + 1, 1, none⟩ (.int .i64 H)).setCell ⟨w.heap.size + 1, 2, none⟩ (.pointer (some ⟨F, 0, none⟩))).setCell ⟨w.heap.size + 1, 3, none⟩ (.slice (some ⟨tb, 0, none⟩) n n)).heap[b]? = A9.heap[b]?) := Lib.hid (fun b hb => by
        rw [Below.heap_setCell _ _ _ _ (by simpa using hb), Below.heap_setCell _ _ _ _ (by simpa using hb), Below.heap_setCell _ _ _ _ (by simpa using hb), Below.heap_setCell _ _ _ _ (by simpa using hb)])
      have HSZ : Hid (((((A9.setCell ⟨w.heap.size + 1, 0, none⟩ (.int .i64 W)).setCell ⟨w.heap.size + 1, 1, none⟩ (.int .i64 H)).setCell ⟨w.heap.size + 1, 2, none⟩ (.pointer (some ⟨F, 0, none⟩))).setCell ⟨w.heap.size + 1, 3, none⟩ (.slice (some ⟨tb, 0, none⟩) n n)).heap.size = A9.heap.size) := Lib.hid (by simp [World.setCell])
      clear t0 t1' t20 t30 t5 l0 l1 l2 l3 f0 f1 f2 f3 zL
      generalize (((A9.setCell ⟨w.heap.size + 1, 0, none⟩ (.int .i64 W)).setCell ⟨w.heap.size + 1, 1, none⟩ (.int .i64 H)).setCell ⟨w.heap.size + 1, 2, none⟩ (.pointer (some ⟨F, 0, none⟩))).setCell ⟨w.heap.size + 1, 3, none⟩ (.slice (some ⟨tb, 0, none⟩) n n) = Y at HA HBX HQ HSZ ⊢
      have HKX : Hid (Y.heap[D]? = some (.deferred (some []))) := Lib.hid ((HQ.out D (by omega)).trans HKD.out)
      refine ⟨by simp, .inl ⟨_, _, rfl, run_takeDeferred HKX.out, ?_⟩⟩
      have HA2 := Lib.hid (at_put (o' := .deferred none) HA.out ⟨_, HKX.out, rfl⟩)
      have HB2 := Lib.hid (HBX.out.grown (grownBy_putObj' Y D (.deferred none)) HBX.out.size (fun j e => by cases e; have := HBd.out.size; omega))
      have HX2 : Hid (∀ b ∈ X, (Y.putObj D (.deferred none)).heap[b]? = A9.heap[b]?) := Lib.hid (fun b hb => (World.putObj_heap_other (HXB.out b hb).2.2).trans (HQ.out b (fun e => HNX.out b (by omega) hb)))
      have HS2 : Hid ((Y.putObj D (.deferred none)).heap.size = A9.heap.size) := Lib.hid (by simp; exact HSZ.out)
      clear HA HBX HKX HQ HSZ
      generalize Y.putObj D (.deferred none) = Z at HA2 HB2 HX2 HS2 ⊢
      have q0 : Z.cell? ⟨w.heap.size + 1, 0, none⟩ = some (.int .i64 W) := HA2.out.cellv (i := 0) rfl
      have q1 : Z.cell? ⟨w.heap.size + 1, 1, none⟩ = some (.int .i64 H) := HA2.out.cellv (i := 1) rfl
      have q2 : Z.cell? ⟨w.heap.size + 1, 2, none⟩ = some (.pointer (some ⟨F, 0, none⟩)) := HA2.out.cellv (i := 2) rfl
      have q3 : Z.cell? ⟨w.heap.size + 1, 3, none⟩ = some (.slice (some ⟨tb, 0, none⟩) n n) := HA2.out.cellv (i := 3) rfl
      refine ⟨.agg #[.int .i64 W, .int .i64 H, .pointer (some ⟨F, 0, none⟩), .slice (some ⟨tb, 0, none⟩) n n], ?_, F, E, tb, lv1, rfl, ?_, HB2.out⟩
      · simp [results, Tryd.results63, go_sem, q0, q1, q2, q3]
      · exact trj_trx2 HTJ.out hW hH HNI.out (by have h1 := HS2.out; have h2 := HTJ.out.size; omega) (fun b hb => by rw [HS2.out]; exact (HXB.out b hb).2.1) HX2.out (Nat.le_of_eq HS2.out.symm) (by omega)
    case stop => rintro D t k X hD hk h _; exact h.elim
end Go.Proofs.YtjgclemfehfgiaaDoor.Base
