/-
  Lists of lines of bytes, each line in a row of its own; lines as texts.
-/
import Derived.Test.YtdofeonkgaceeacDoorSpt
import Derived.Laws.IdiomStrings
namespace Go.Proofs.YtdofeonkgaceeacDoor.Base
open Go Go.RowKit
set_option linter.unusedVariables false
set_option linter.unusedSimpArgs false

theorem infoU8 : (Tryd.prog.info? 5).map (fun i => (i.zero, i.size, i.bytes)) = some (some (.int .u8 0), 1, 1) := by kernel_rfl
theorem infoU8s : (Tryd.prog.info? 38).map (fun i => (i.zero, i.size, i.bytes)) = some (some (.slice none 0 0), 1, 24) := by kernel_rfl
/-- bytes as values -/
def bys (l : List UInt8) : List Value := l.map fun b => .int .u8 (b.toNat : Int)
theorem bys_app (l : List UInt8) (b : UInt8) : bys (l ++ [b]) = bys l ++ [.int .u8 (b.toNat : Int)] := by simp [bys]
theorem bys_len (l : List UInt8) : (bys l).length = l.length := by simp [bys]
/-- two rows do not lie in one block -/
def ApartV (u v : Value) : Prop := ∀ g, u.ownBlock = some g → v.ownBlock = some g → False
theorem rw_grown {w w1 : World} {base n s : Nat} {e : TypeId} {v : Value} {xs : List Value} {r : Option Nat} (h : w.ownsRow base e s v n xs) (hg : w.grownBy w1 r) (hne : v.ownBlock = none ∨ v.ownBlock ≠ r) : w1.ownsRow base e s v n xs :=
  h.kept hg (by rcases hne with h | h <;> simp [h])
theorem ApartV.new {u v : Value} {n cap g Hh : Nat} (h : ApartV v u) (hat : u.ownBlock = some g ∨ g = Hh) (hlt : ∀ b, v.ownBlock = some b → b < Hh) : ApartV v (.slice (some ⟨g, 0, none⟩) n cap) := fun b e1 e2 => by
  have e : g = b := by simpa [Value.ownBlock] using e2
  subst e
  rcases hat with hat | hat
  · exact h g e1 hat
  · have := hlt g e1
    omega
/-- the value v is a line: these bytes, in a row from block B on, apart from u's -/
def LineIs (B : Nat) (l : List UInt8) (u : Value) (w : World) (v : Value) : Prop :=
  ∃ P c, v = .slice P l.length c ∧ w.ownsRow B 5 1 v l.length (bys l) ∧ ApartV v u
theorem LineIs.b {B : Nat} {l : List UInt8} {u v : Value} {w w' : World} (h : LineIs B l u w v) (hb : Below w.heap.size w w') : LineIs B l u w' v := by
  obtain ⟨P, c, e, h1, h2⟩ := h
  exact ⟨P, c, e, sp_below h1 hb, h2⟩
theorem LineIs.grown {B : Nat} {l : List UInt8} {u v : Value} {wa w5 : World} {n cap g Hh : Nat} (h : LineIs B l u wa v) (hg : wa.grownBy w5 u.ownBlock) (hat : u.ownBlock = some g ∨ g = Hh) (hH : wa.heap.size = Hh) : LineIs B l (.slice (some ⟨g, 0, none⟩) n cap) w5 v := by
  obtain ⟨P, c, e, h1, h2⟩ := h
  refine ⟨P, c, e, rw_grown h1 hg ?_, h2.new hat fun b hb => by have := (h1.lt b hb).2; omega⟩
  by_cases e : v.ownBlock = none
  · exact .inl e
  · obtain ⟨g', hg'⟩ := Option.ne_none_iff_exists'.1 e
    exact .inr (fun e' => h2 g' hg' (e'.symm.trans hg'))
/-- u is a list of the lines L, all made from block B on -/
structure RowsAt (B : Nat) (w0 : World) (L : List (List UInt8)) (u : Value) (V : List Value) (w : World) : Prop where
  out : w.ownsRow B 38 1 u L.length V
  row : ∀ (i : Nat) (v : Value) (l : List UInt8), V[i]? = some v → L[i]? = some l → LineIs B l u w v
  below : Below B w0 w
  hB : B ≤ w0.heap.size
section
variable {B : Nat} {w0 w w' : World} {L : List (List UInt8)} {u : Value} {V : List Value}
theorem RowsAt.b (h : RowsAt B w0 L u V w) (hb : Below w.heap.size w w') : RowsAt B w0 L u V w' :=
  ⟨sp_below h.out hb, fun i v l hv hl => (h.row i v l hv hl).b hb, h.below.trans (hb.mono (by have := h.below.size; have := h.hB; omega)), h.hB⟩
theorem RowsAt.len (h : RowsAt B w0 L u V w) : V.length = L.length := by have := h.out.1; omega
/-- one line more -/
theorem RowsAt.next {wx wa w5 : World} {P : Option Addr} {c B2 g cap Hh : Nat} {l : List UInt8} (h : RowsAt B w0 L u V w) (hb : Below w.heap.size w wx)
    (hl : wx.ownsRow B2 5 1 (.slice P l.length c) l.length (bys l)) (hB2 : w.heap.size ≤ B2) (hX : Below wx.heap.size wx wa)
    (hown : w5.ownsRow B 38 1 (.slice (some ⟨g, 0, none⟩) (L.length + 1) cap) (L.length + 1) (V ++ [.slice P l.length c])) (hg : wa.grownBy w5 u.ownBlock) (hat : u.ownBlock = some g ∨ g = Hh) (hH : wa.heap.size = Hh) :
    RowsAt B w0 (L ++ [l]) (.slice (some ⟨g, 0, none⟩) (L.length + 1) cap) (V ++ [.slice P l.length c]) w5 := by
  have hub : ∀ b, u.ownBlock = some b → B ≤ b ∧ b < w.heap.size := fun b e => h.out.lt b e
  have hV := h.len
  have hsz3 := hb.size
  have hsza := hX.size
  have hBw := h.below.size
  have hBB := h.hB
  refine ⟨by simpa using hown, ?_, ?_, h.hB⟩
  · intro i v l' hv hl'
    rcases Nat.lt_or_ge i V.length with hi | hi
    · rw [List.getElem?_append_left hi] at hv
      rw [List.getElem?_append_left (by omega)] at hl'
      exact (((h.row i v l' hv hl').b hb).b hX).grown hg hat hH
    · rw [List.getElem?_append_right hi] at hv
      rw [List.getElem?_append_right (by omega)] at hl'
      have ei : i = V.length := by
        rcases Nat.eq_or_lt_of_le hi with e | e
        · exact e.symm
        · rw [List.getElem?_eq_none (by simp; omega)] at hv; cases hv
      rw [show i - V.length = 0 by omega] at hv
      rw [show i - L.length = 0 by omega] at hl'
      simp at hv hl'
      subst hv hl'
      have h3 : wx.ownsRow B 5 1 (.slice P l.length c) l.length (bys l) := by
        refine ⟨hl.1, ?_⟩
        rcases hl.2 with h0 | ⟨g', cap', cur, e, hb', r⟩
        · exact .inl h0
        · exact .inr ⟨g', cap', cur, e, by omega, r⟩
      have hap : ApartV (.slice P l.length c) u := fun b e1 e2 => by
        have := (hl.lt b e1).1
        have := (hub b e2).2
        omega
      have hci : LineIs B l u wx (.slice P l.length c) := ⟨P, c, rfl, h3, hap⟩
      exact (hci.b hX).grown hg hat hH
  · exact ((h.below.trans (hb.mono (by omega))).trans (hX.mono (by omega))).grown hg (by omega) (fun b e => by have := hub b e; omega)
end
/-- a list of lines, made from block base on -/
def RowsOut (L : List (List UInt8)) (w : World) (e : Ending) (w' : World) : Prop :=
  ∃ A c V, e = .returned (.slice A L.length c) ∧ RowsAt w.heap.size w L (.slice A L.length c) V w'
/-- lines as texts -/
def txs (L : List (List UInt8)) : List Value := L.map fun l => .string ⟨l.toArray⟩
/-- the texts of the lines L, made from block base on -/
def TextsL (L : List (List UInt8)) (w : World) (e : Ending) (w' : World) : Prop :=
  ∃ A c, e = .returned (.slice A L.length c) ∧ w'.ownsRow w.heap.size 9 1 (.slice A L.length c) L.length (txs L) ∧ Below w.heap.size w w'
end Go.Proofs.YtdofeonkgaceeacDoor.Base
