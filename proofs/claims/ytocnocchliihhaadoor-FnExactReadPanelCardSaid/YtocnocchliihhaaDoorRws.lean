/-
  Lists of lines of bytes, each line in a row of its own; lines as texts.
-/
import Derived.Test.YtocnocchliihhaaDoorSpt
import Derived.Laws.IdiomStrings
namespace Go.Proofs.YtocnocchliihhaaDoor.Base
open Go Go.RowKit
set_option linter.unusedVariables false
set_option linter.unusedSimpArgs false

theorem infoU8 : (Tryd.prog.info? 5).map (fun i => (i.zero, i.size, i.bytes)) = some (some (.int .u8 0), 1, 1) := by kernel_rfl
theorem infoU8s : (Tryd.prog.info? 22).map (fun i => (i.zero, i.size, i.bytes)) = some (some (.slice none 0 0), 1, 24) := by kernel_rfl
/-- bytes as values -/
def bys (l : List UInt8) : List Value := l.map fun b => .int .u8 (b.toNat : Int)
theorem bys_app (l : List UInt8) (b : UInt8) : bys (l ++ [b]) = bys l ++ [.int .u8 (b.toNat : Int)] := by simp [bys]
theorem bys_len (l : List UInt8) : (bys l).length = l.length := by simp [bys]
/-- two rows do not lie in one block -/
def ApartV (u v : Value) : Prop := ∀ g, u.ownBlock = some g → v.ownBlock = some g → False
theorem rw_grown {w w1 : World} {base n s : Nat} {e : TypeId} {v : Value} {xs : List Value} {r : Option Nat} (h : w.ownsRow base e s v n xs) (hg : w.grownBy w1 r) (hne : v.ownBlock = none ∨ v.ownBlock ≠ r) : w1.ownsRow base e s v n xs :=
  h.kept hg (by rcases hne with h | h <;> simp [h])
theorem ApartV.new {u v : Value} {n cap g Hh : Nat} (h : ApartV v u) (hat : u.ownBlock = some g ∨ g = Hh) (hlt : ∀ b, v.ownBlock = some b → b < Hh) : ApartV v (.slice (some ⟨g, 0, none⟩) n cap) := fun b e1 e2 => by
  have e : g = b := by simpa [Value.ownBlock] using e2
  subst e
  rcases hat with hat | hat
  · exact h g e1 hat
  · have := hlt g e1
    omega
/-- the value v is a line: these bytes, in a row from block B on, apart from u's -/
def LineIs (B : Nat) (l : List UInt8) (u : Value) (w : World) (v : Value) : Prop :=
  ∃ P c, v = .slice P l.length c ∧ w.ownsRow B 5 1 v l.length (bys l) ∧ ApartV v u
theorem LineIs.b {B : Nat} {l : List UInt8} {u v : Value} {w w' : World} (h : LineIs B l u w v) (hb : Below w.heap.size w w') : LineIs B l u w' v := by
  obtain ⟨P, c, e, h1, h2⟩ := h
  exact ⟨P, c, e, sp_below h1 hb, h2⟩
theorem LineIs.grown {B : Nat} {l : List UInt8} {u v : Value} {wa w5 : World} {n cap g Hh : Nat} (h : LineIs B l u wa v) (hg : wa.grownBy w5 u.ownBlock) (hat : u.ownBlock = some g ∨ g = Hh) (hH : wa.heap.size = Hh) : LineIs B l (.slice (some ⟨g, 0, none⟩) n cap) w5 v := by
  obtain ⟨P, c, e, h1, h2⟩ := h
  refine ⟨P, c, e, rw_grown h1 hg ?_, h2.new hat fun b hb => by have := (h1.lt b hb).2; omega⟩
  by_cases e : v.ownBlock = none
  · exact .inl e
  · obtain ⟨g', hg'⟩ := Option.ne_none_iff_exists'.1 e
    exact .inr (fun e' => h2 g' hg' (e'.symm.trans hg'))
/-- u is a list of the lines L, all made from block B on -/
structure RowsAt (B : Nat) (w0 : World) (L : List (List UInt8)) (u : Value) (V : List Value) (w : World) : Prop where
  out : w.ownsRow B 22 1 u L.length V
  row : ∀ (i : Nat) (v : Value) (l : List UInt8), V[i]? = some v → L[i]? = some l → LineIs B l u w v
  below : Below B w0 w
  hB : B ≤ w0.heap.size
section
variable {B : Nat} {w0 w w' : World} {L : List (List UInt8)} {u : Value} {V : List Value}
theorem RowsAt.b (h : RowsAt B w0 L u V w) (hb : Below w.heap.size w w') : RowsAt B w0 L u V w' :=
  ⟨sp_below h.out hb, fun i v l hv hl => (h.row i v l hv hl).b hb, h.below.trans (hb.mono (by have := h.below.size; have := h.hB; omega)), h.hB⟩
theorem RowsAt.len (h : RowsAt B w0 L u V w) : V.length = L.length := by have := h.out.1; omega
/-- one line more -/
theorem RowsAt.next {wx wa w5 : World} {P : Option Addr} {c B2 g cap Hh : Nat} {l : List UInt8} (h : RowsAt B w0 L u V w) (hb : Below w.heap.size w wx)
    (hl : wx.ownsRow B2 5 1 (.slice P l.length c) l.length (bys l)) (hB2 : w.heap.size ≤ B2) (hX : Below wx.heap.size wx wa)
    (hown : w5.ownsRow B 22 1 (.slice (some ⟨g, 0, none⟩) (L.length + 1) cap) (L.length + 1) (V ++ [.slice P l.length c])) (hg : wa.grownBy w5 u.ownBlock) (hat : u.ownBlock = some g ∨ g = Hh) (hH : wa.heap.size = Hh) :
    RowsAt B w0 (L ++ [l]) (.slice (some ⟨g, 0, none⟩) (L.length + 1) cap) (V ++ [.slice P l.length c]) w5 := by
  have hub : ∀ b, u.ownBlock = some b → B ≤ b ∧ b < w.heap.size := fun b e => h.out.lt b e
  have hV := h.len
  have hsz3 := hb.size
  have hsza := hX.size
  have hBw := h.below.size
  have hBB := h.hB
  refine ⟨by simpa using hown, ?_, ?_, h.hB⟩
  · intro i v l' hv hl'
    rcases Nat.lt_or_ge i V.length with hi | hi
    · rw [List.getElem?_append_left hi] at hv
      rw [List.getElem?_append_left (by omega)] at hl'
      exact (((h.row i v l' hv hl').b hb).b hX).grown hg hat hH
    · rw [List.getElem?_append_right hi] at hv
      rw [List.getElem?_append_right (by omega)] at hl'
      have ei : i = V.length := by
        rcases Nat.eq_or_lt_of_le hi with e | e
        · exact e.symm
        · rw [List.getElem?_eq_none (by simp; omega)] at hv; cases hv
      rw [show i - V.length = 0 by omega] at hv
      rw [show i - L.length = 0 by omega] at hl'
      simp at hv hl'
      subst hv hl'
      have h3 : wx.ownsRow B 5 1 (.slice P l.length c) l.length (bys l) := by
        refine ⟨hl.1, ?_⟩
        rcases hl.2 with h0 | ⟨g', cap', cur, e, hb', r⟩
        · exact .inl h0
        · exact .inr ⟨g', cap', cur, e, by omega, r⟩
      have hap : ApartV (.slice P l.length c) u := fun b e1 e2 => by
        have := (hl.lt b e1).1
        have := (hub b e2).2
        omega
      have hci : LineIs B l u wx (.slice P l.length c) := ⟨P, c, rfl, h3, hap⟩
      exact (hci.b hX).grown hg hat hH
  · exact ((h.below.trans (hb.mono (by omega))).trans (hX.mono (by omega))).grown hg (by omega) (fun b e => by have := hub b e; omega)
end
/-- a list of lines, made from block base on -/
def RowsOut (L : List (List UInt8)) (w : World) (e : Ending) (w' : World) : Prop :=
  ∃ A c V, e = .returned (.slice A L.length c) ∧ RowsAt w.heap.size w L (.slice A L.length c) V w'
/-- lines as texts -/
def txs (L : List (List UInt8)) : List Value := L.map fun l => .string ⟨l.toArray⟩
/-- the texts of the lines L, made from block base on -/
def TextsL (L : List (List UInt8)) (w : World) (e : Ending) (w' : World) : Prop :=
  ∃ A c, e = .returned (.slice A L.length c) ∧ w'.ownsRow w.heap.size 9 1 (.slice A L.length c) L.length (txs L) ∧ Below w.heap.size w w'
set_option maxHeartbeats 1000000 in
theorem spec_strings (w : World) (B : Nat) (w0 : World) (L : List (List UInt8)) (A : Option Addr) (c : Nat) (V : List Value) (h : RowsAt B w0 L (.slice A L.length c) V w) (hn : L.length ≤ 1024) (hl : ∀ l ∈ L, 0 < l.length ∧ l.length ≤ 1024) :
    Calls Tryd.prog 53 #[.slice A L.length c] w (TextsL L w) := by
  obtain ⟨i2, hi2, hz0, hz1, hz2⟩ := info_parts infoStr
  obtain ⟨N, hN⟩ : ∃ N, L.length = N := ⟨_, rfl⟩
  have H := Lib.hid h
  have HLL := Lib.hid hl
  have hVN := h.len
  have hO := h.out
  rw [hN] at hO hVN hn ⊢
  have HN := Lib.hid hN
  have HO := Lib.hid hO
  have HVN := Lib.hid hVN
  clear h hl hN hO hVN
  have HO1 := Lib.hid (sp_new0 (X := w) (e := 9) (s := 1) rfl (Nat.le_refl w.heap.size))
  unfold TextsL
  rw [HN.out]
  go_enter Tryd.func53, Tryd.ntmps53
  go_wp2
  go_loopw [3, 4] (fun u kv wr => ∃ k : Nat, k ≤ N ∧ kv = .int .i64 k ∧ Hid (wr.ownsRow w.heap.size 9 1 u k (txs (L.take k))) ∧ Hid (Below w.heap.size w wr)) (fun _ kv _ => N - (intOf kv).toNat)
  case atStart => exact ⟨0, Nat.zero_le _, rfl, HO1, Lib.hid ((Below.refl _ _).alloc (Nat.le_refl _) _)⟩
  case round =>
    clear HO1
    obtain ⟨k, hk, rfl, HU, HB⟩ := hrel
    have hBr := HB.out.size
    obtain ⟨Ao, co, rfl⟩ := sp_slice HU.out
    by_cases hlt : k < N
    · obtain ⟨gO, capO, eO, gO1, gO2⟩ := HO.out.form (by omega)
      simp only [Value.slice.injEq] at eO
      obtain ⟨rfl, -, rfl⟩ := eO
      obtain ⟨l, hl⟩ : ∃ l, L[k]? = some l := ⟨_, List.getElem?_eq_getElem (by rw [HN.out]; exact hlt)⟩
      obtain ⟨v, hv⟩ : ∃ v, V[k]? = some v := ⟨_, List.getElem?_eq_getElem (by rw [HVN.out]; exact hlt)⟩
      obtain ⟨P, cP, rfl, hr, -⟩ := H.out.row k v l hv hl
      obtain ⟨l1, l2⟩ := HLL.out l (List.mem_of_getElem? hl)
      obtain ⟨gL, capL, eL, gL1, gL2⟩ := hr.form l1
      simp only [Value.slice.injEq] at eL
      obtain ⟨rfl, -, rfl⟩ := eL
      have kO : wr.cell? ⟨gO, k, none⟩ = some (.slice (some ⟨gL, 0, none⟩) l.length cP) := by
        have e1 : wr.cell? ⟨gO, k, none⟩ = w.cell? ⟨gO, k, none⟩ := HB.out.cell (p := ⟨gO, k, none⟩) gO2
        rw [e1, HO.out.cellAt k (by omega)]
        exact hv
      have hgO : gO < wr.heap.size := by omega
      have hcv : (convert 22 9 (.slice (some ⟨gL, 0, none⟩) l.length cP)).run Tryd.prog wr = .ok (.string ⟨l.toArray⟩) wr :=
        run_convert_bytes_back _ _ _ 5 _ cP l Tryd.underlying22 Tryd.underlying5 Tryd.underlying9 (fun j hj => by
          have e0 : ((⟨gL, 0, none⟩ : Addr).add j) = ⟨gL, j, none⟩ := by simp [Addr.add]; omega
          have e1 : wr.cell? ⟨gL, j, none⟩ = w.cell? ⟨gL, j, none⟩ := HB.out.cell (p := ⟨gL, j, none⟩) gL2
          rw [e0, e1, hr.cellAt j (by omega)]
          simp [bys, List.getElem?_eq_getElem hj])
      have HLK := Lib.hid hl
      obtain ⟨m, hm⟩ : ∃ m, l.length = m := ⟨_, rfl⟩
      rw [hm] at kO hcv
      obtain ⟨t, ht⟩ : ∃ t : ByteArray, ⟨l.toArray⟩ = t := ⟨_, rfl⟩
      rw [ht] at hcv
      have HT := Lib.hid ht
      clear hl hv hr l1 l2 hm ht gL1 gL2
      have hXa := Lib.hid ((Below.refl wr.heap.size wr).alloc (Nat.le_refl _) (.cells #[.string t] 9))
      have hsz : (wr.alloc (.cells #[.string t] 9)).heap.size = wr.heap.size + 1 := by simp
      go_wp2_with (first
        | (at_builtin; refine wpList_append_lies _ (by rfl) _ _ _ (by rfl) w.heap.size 9 i2 _ 1 16 Tryd.underlying29 hi2 hz0 hz1 hz2 rfl (by omega) _ k (txs (L.take k)) (by rfl) (sp_below HU.out hXa.out) ⟨wr.heap.size, 0, none⟩ 1 1 [.string t] (by rfl) (by rfl) (World.news_of_block (cs := #[.string t]) (t := 9) (fr := (0, 0)) (heap_alloc_new wr _)) (fun u hu => by simp at hu; subst hu; rfl) (by omega) (by unfold maxLen; omega) (by omega) (by simp; omega) (wr.heap.size + 1) (by simp) ?_; intro g6 cap6 w6 hown6 hgrow6 hat6 hlt6; have HOW := Lib.hid hown6; have HGR := Lib.hid hgrow6; have HAT := Lib.hid hat6; clear hown6 hgrow6 hat6))
      go_roundw
      case rel =>
        refine ⟨k + 1, by omega, by go_num, Lib.hid ?_, Lib.hid ((HB.out.trans (hXa.out.mono hBr)).grown HGR.out (by omega) (fun b e => (HU.out.lt b e).1))⟩
        have e2 : txs (L.take (k + 1)) = txs (L.take k) ++ [.string t] := by
          rw [List.take_add_one, HLK.out]
          simp [txs, HT.out]
        rw [e2]
        exact HOW.out
      case measure => simp [intOf]; omega
    · obtain rfl : k = N := by omega
      have hu := HU.out
      rw [← HN.out, List.take_length, HN.out] at hu
      have HU2 := Lib.hid hu
      clear hu
      go_wp2
      go_ret
      exact ⟨_, _, rfl, HU2.out, HB.out⟩
end Go.Proofs.YtocnocchliihhaaDoor.Base
