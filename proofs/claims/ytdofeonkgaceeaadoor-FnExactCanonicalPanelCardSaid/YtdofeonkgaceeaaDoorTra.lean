/-
  Tracing: spec's list of all curves, and the index of each segment's curve.
-/
import Derived.Test.YtdofeonkgaceeaaDoorTrs
import Derived.BigQuiet
import Derived.Deep.QuietTactic
namespace Go.Proofs.YtdofeonkgaceeaaDoor.Base
open Go.RowKit
set_option linter.unusedVariables false
set_option linter.unusedSimpArgs false

theorem infoPts : (Tryd.prog.info? 40).map (fun i => (i.zero, i.size, i.bytes)) = some (some (.slice none 0 0), 1, 24) := by kernel_rfl
theorem ptl_length (W H : Int) (f : Nat → Int) (v : W4) : ∀ j, (ptl W H f v j).length = 2 * j
  | 0 => rfl
  | j + 1 => by simp [ptl, ptl_length W H f v j]; omega
theorem sgl_length (W H : Int) (f : Nat → Int) (v : W4) : ∀ j, (sgl W H f v j).length = j
  | 0 => rfl
  | j + 1 => by simp [sgl, sgl_length W H f v j]
theorem sgl_get (W H : Int) (f : Nat → Int) (v : W4) : ∀ (j i : Nat), i < j → (ivs (sgl W H f v j))[i]? = some (.int .i64 (sg H (stps W H f i v)))
  | 0, i, h => absurd h (by omega)
  | j + 1, i, h => by
    have hl : (ivs (sgl W H f v j)).length = j := by simp [ivs, sgl_length]
    rw [show ivs (sgl W H f v (j + 1)) = ivs (sgl W H f v j) ++ ivs [sg H (stps W H f j v)] from ivs_app _ _]
    rcases Nat.lt_or_ge i j with h' | h'
    · rw [List.getElem?_append_left (by omega)]
      exact sgl_get W H f v j i h'
    · rw [List.getElem?_append_right (by omega), hl, show i - j = 0 by omega]
      rw [show j = i by omega]
      rfl

/-- the curve of index i is told by the value v: the points of its walk, in a row from block B on, apart from u's -/
def CurveIs (W H : Int) (f : Nat → Int) (B : Nat) (st : Nat) (u : Value) (w : World) (v : Value) : Prop :=
  ∃ P c, v = .slice P (per W H f (wkr H st)) c ∧ w.ownsRow B 43 2 v (per W H f (wkr H st)) (ivs (ptl W H f (wkr H st) (per W H f (wkr H st)))) ∧ ApartB v u
/-- the curves found when k segments are passed -/
structure AllAt (W H : Int) (f : Nat → Int) (B M ob : Nat) (w0 : World) (k : Nat) (u : Value) (L : List Value) (w : World) : Prop where
  out : w.ownsRow (ob + 1) 40 1 u (trs W H f k).cnt L
  of : w.rowIs ob 2 M (fun s => .int .i64 ((trs W H f k).of s))
  cur : ∀ i v, L[i]? = some v → CurveIs W H f (ob + 1) ((trs W H f k).st i) u w v
  below : Below B w0 w
  hB : B ≤ ob
theorem CurveIs.b {W H : Int} {f : Nat → Int} {B st : Nat} {u v : Value} {w w' : World} (h : CurveIs W H f B st u w v) (hb : Below w.heap.size w w') : CurveIs W H f B st u w' v := by
  obtain ⟨P, c, e, h1, h2⟩ := h
  exact ⟨P, c, e, owns_belowS h1 hb, h2⟩
theorem CurveIs.set {W H : Int} {f : Nat → Int} {B st : Nat} {u v : Value} {w : World} (h : CurveIs W H f B st u w v) {a : Addr} (ha : a.block < B) (x : Value) : CurveIs W H f B st u (w.setCell a x) v := by
  obtain ⟨P, c, e, h1, h2⟩ := h
  exact ⟨P, c, e, owns_set h1 (fun e' => by have := (h1.lt _ e').1; omega) x, h2⟩
section
variable {W H : Int} {f : Nat → Int} {B M ob : Nat} {w0 : World} {k : Nat} {u : Value} {L : List Value} {w w' : World}
theorem AllAt.b (h : AllAt W H f B M ob w0 k u L w) (hb : Below w.heap.size w w') : AllAt W H f B M ob w0 k u L w' :=
  ⟨owns_belowS h.out hb, rowIs_below h.of hb h.of.lt, fun i v hv => (h.cur i v hv).b hb, h.below.trans (hb.mono (by have := h.of.lt; have := h.hB; omega)), h.hB⟩
end
theorem owns_ext {w w' : World} {base n s : Nat} {e : TypeId} {v : Value} {xs : List Value} {X : List Nat} (h : w.ownsRow base e s v n xs) (he : Ext X w w') (hx : ∀ b ∈ X, b < base) : w'.ownsRow base e s v n xs := by
  refine ⟨h.1, ?_⟩
  rcases h.2 with h0 | ⟨g, cap, cur, rfl, hb, hg, h4⟩
  · exact .inl h0
  · have hlt := (h.lt g rfl).2
    exact .inr ⟨g, cap, cur, rfl, hb, (he.block g hlt (fun hm => by have := hx g hm; omega)).trans hg, h4⟩
theorem CurveIs.ext {W H : Int} {f : Nat → Int} {B st : Nat} {u v : Value} {w w' : World} {X : List Nat} (h : CurveIs W H f B st u w v) (he : Ext X w w') (hx : ∀ b ∈ X, b < B) : CurveIs W H f B st u w' v := by
  obtain ⟨P, c, e, h1, h2⟩ := h
  exact ⟨P, c, e, owns_ext h1 he hx, h2⟩
theorem ApartB.new {u v : Value} {n cap g Hh : Nat} (h : ApartB v u) (hat : u.ownBlock = some g ∨ g = Hh) (hlt : ∀ b, v.ownBlock = some b → b < Hh) : ApartB v (.slice (some ⟨g, 0, none⟩) n cap) := fun b e1 e2 => by
  have e : g = b := by simpa [Value.ownBlock] using e2
  subst e
  rcases hat with hat | hat
  · exact h g e1 hat
  · have := hlt g e1
    omega
theorem CurveIs.grown {W H : Int} {f : Nat → Int} {B st : Nat} {u v : Value} {wa w5 : World} {n cap g Hh : Nat} (h : CurveIs W H f B st u wa v) (hg : wa.grownBy w5 u.ownBlock) (hat : u.ownBlock = some g ∨ g = Hh) (hH : wa.heap.size = Hh) : CurveIs W H f B st (.slice (some ⟨g, 0, none⟩) n cap) w5 v := by
  obtain ⟨P, c, e, h1, h2⟩ := h
  refine ⟨P, c, e, owns_grown h1 hg ?_, h2.new hat fun b hb => by have := (h1.lt b hb).2; omega⟩
  by_cases e : v.ownBlock = none
  · exact .inl e
  · obtain ⟨g', hg'⟩ := Option.ne_none_iff_exists'.1 e
    exact .inr (fun e' => h2 g' hg' (e'.symm.trans hg'))
theorem AllAt.next {W H : Int} {f : Nat → Int} {M ob k : Nat} {w0 wr w3 wx wa w5 : World} {u : Value} {L : List Value} {P : Option Addr} {c B2 g cap Hh : Nat} (h : AllAt W H f ob M ob w0 k u L wr) (hno : (trs W H f k).of k < 0) (hb : Below wr.heap.size wr w3) (he : Ext [ob] w3 wx)
    (hof : wx.rowIs ob 2 M (fun s => .int .i64 (mkd W H f (wkr H k) (trs W H f k).cnt (trs W H f k).of (per W H f (wkr H k)) s)))
    (hpt : w3.ownsRow B2 43 2 (.slice P (per W H f (wkr H k)) c) (per W H f (wkr H k)) (ivs (ptl W H f (wkr H k) (per W H f (wkr H k))))) (hB2 : wr.heap.size ≤ B2) (hX : Below wx.heap.size wx wa)
    (hown : w5.ownsRow (ob + 1) 40 1 (.slice (some ⟨g, 0, none⟩) ((trs W H f k).cnt + 1) cap) ((trs W H f k).cnt + 1) (L ++ [.slice P (per W H f (wkr H k)) c])) (hg : wa.grownBy w5 u.ownBlock) (hat : u.ownBlock = some g ∨ g = Hh) (hH : wa.heap.size = Hh) :
    AllAt W H f ob M ob w0 (k + 1) (.slice (some ⟨g, 0, none⟩) ((trs W H f k).cnt + 1) cap) (L ++ [.slice P (per W H f (wkr H k)) c]) w5 := by
  have hlo := h.of.lt
  have hub : ∀ b, u.ownBlock = some b → ob + 1 ≤ b ∧ b < wr.heap.size := fun b e => h.out.lt b e
  have hX1 : ∀ b ∈ [ob], b < ob + 1 := fun b hb => by simp at hb; omega
  have hL : L.length = (trs W H f k).cnt := by have := h.out.1; omega
  have hsz3 := hb.size
  have hszx := he.size
  have hsza := hX.size
  have hN : per W H f (wkr H k) > 0 := per_pos ..
  constructor
  · rw [trs_no hno]
    exact hown
  · rw [trs_no hno]
    exact (rowIs_below hof hX hof.lt).of_block (hg.block ob (by omega) (fun e => by have := hub ob e.symm; omega))
  · intro i v hv
    rw [trs_no hno]
    simp only
    rcases Nat.lt_or_ge i L.length with hi | hi
    · rw [List.getElem?_append_left hi] at hv
      rw [if_neg (by omega)]
      exact (((h.cur i v hv).b hb).ext he hX1 |>.b hX).grown hg hat hH
    · rw [List.getElem?_append_right hi] at hv
      have ei : i = L.length := by
        rcases Nat.eq_or_lt_of_le hi with e | e
        · exact e.symm
        · rw [List.getElem?_eq_none (by simp; omega)] at hv; cases hv
      subst ei
      rw [if_pos hL]
      simp at hv
      subst hv
      have h3 : w3.ownsRow (ob + 1) 43 2 (.slice P (per W H f (wkr H k)) c) (per W H f (wkr H k)) (ivs (ptl W H f (wkr H k) (per W H f (wkr H k)))) := owns_base hpt (by omega)
      have hap : ApartB (.slice P (per W H f (wkr H k)) c) u := fun b e1 e2 => by
        have := (hpt.lt b e1).1
        have := (hub b e2).2
        omega
      have hci : CurveIs W H f (ob + 1) k u w3 (.slice P (per W H f (wkr H k)) c) := ⟨P, c, rfl, h3, hap⟩
      exact ((hci.ext he hX1).b hX).grown hg hat hH
  · exact (((h.below.trans (hb.mono (by omega))).trans (he.below (fun b hb => by simp at hb; omega) (by omega))).trans (hX.mono (by omega))).grown hg (by omega) (fun b e => by have := hub b e; omega)
  · exact h.hB
/-- spec's answer: the curves, and the index of each segment's curve, in rows of its own -/
def AllsOut (W H : Int) (f : Nat → Int) (M : Nat) (w : World) (e : Ending) (w' : World) : Prop :=
  ∃ A c L, e = .returned (.tuple #[.slice A (trs W H f M).cnt c, .slice (some ⟨w.heap.size, 0, none⟩) M M]) ∧ AllAt W H f w.heap.size M w.heap.size w M (.slice A (trs W H f M).cnt c) L w'
theorem AllAt.skip {W H : Int} {f : Nat → Int} {B M ob k : Nat} {w0 wr : World} {u : Value} {L : List Value} (h : AllAt W H f B M ob w0 k u L wr) (hno : 0 ≤ (trs W H f k).of k) : AllAt W H f B M ob w0 (k + 1) u L wr :=
  ⟨by rw [trs_yes hno]; exact h.out, by rw [trs_yes hno]; exact h.of, by rw [trs_yes hno]; exact h.cur, h.below, h.hB⟩
end Go.Proofs.YtdofeonkgaceeaaDoor.Base
