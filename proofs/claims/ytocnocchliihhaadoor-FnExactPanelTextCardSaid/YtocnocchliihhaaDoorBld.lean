/-
  A builder of texts at this program: what writing a byte or a text does, and reading the text.
-/
import Derived.Test.YtocnocchliihhaaDoorRws
import Derived.Test.YtocnocchliihhaaDoorShf
import Derived.Lib.OthersKept
import Derived.Lib.FrozenHead2
import Derived.Shelf.Strings.BuilderK
namespace Go.Proofs.YtocnocchliihhaaDoor.Base
open Go Go.RowKit
set_option linter.unusedVariables false
set_option linter.unusedSimpArgs false

/-- block b is a builder that holds the bytes l, in a row from block B on -/
def Bld (B b : Nat) (l : List UInt8) (w : World) : Prop := Lib.IsBuilderF 107 5 B b (bys l) w
theorem Bld.new (w : World) : Bld w.heap.size w.heap.size [] (w.alloc (.cells #[.pointer none, .slice none 0 0] 107)) := Lib.IsBuilderF.of (Lib.fresh_isBuilder _ _ w)
theorem bldAt_below {T e : TypeId} {B b : Nat} {p : Value} {bs : List Value} {w w' : World} (h : Lib.BuilderAtF T e B b p bs w) (hb : Below w.heap.size w w') : Lib.BuilderAtF T e B b p bs w' := by
  have hlt := h.lt
  obtain ⟨hB, v, h1, h2, h3⟩ := h
  refine ⟨hB, v, (hb.block b hlt).trans h1, ?_, h3⟩
  exact h2.kept (row := none) (grown_of_below (r := none) hb) (by by_cases e : v.ownBlock = none <;> simp [e])
theorem Bld.b {B b : Nat} {l : List UInt8} {w w' : World} (h : Bld B b l w) (hb : Below w.heap.size w w') : Bld B b l w' :=
  Or.elim h (fun x => .inl (bldAt_below x hb)) (fun x => .inr (bldAt_below x hb))
theorem Bld.lt {B b : Nat} {l : List UInt8} {w : World} (h : Bld B b l w) : b < w.heap.size ∧ B ≤ b := Or.elim h (fun x => ⟨x.lt, x.1⟩) (fun x => ⟨x.lt, x.1⟩)
theorem sizeBld : (Tryd.prog.info? 107).map (·.size) = some 2 := by kernel_rfl
theorem liesBld : liesAt Tryd.prog Tryd.prog.depth 107 (2 / Tryd.prog.cellsOf 107) 0 107 1 = true := by kernel_rfl
theorem bys_is (l : List UInt8) : bys l = Lib.byteCells l := rfl
theorem neBU : 107 ≠ 5 := by decide
set_option maxRecDepth 100000 in
theorem bld_check (B b : Nat) (bs : List Value) (w : World) (h : Lib.IsBuilderF 107 5 B b bs w) :
    Calls Tryd.prog 109 #[.pointer (some ⟨b, 0, none⟩)] w fun e w' => e = .returned (.tuple #[]) ∧ Lib.BuilderAtF 107 5 B b (.pointer (some ⟨b, 0, none⟩)) bs w' ∧ Below B w w' := by
  rcases h with h | h
  · have h0 := h.cell0
    have hsh := h.shape
    have hfz := h.frozen0
    have H := Lib.hid h
    clear h
    obtain ⟨j, hj, hjs⟩ := Option.map_eq_some_iff.1 sizeBld
    go_enter Tryd.func109, Tryd.ntmps109
    go_wp2
    rw [Lib.run_to_unsafe w ⟨b, 0, none⟩ Tryd.underlying105 Tryd.underlying145 hj (by rw [hjs]; decide) hsh (Nat.zero_lt_succ 1)]
    simp only [Result.andThen]
    rw [Oper.upon_value]
    go_wp2
    rw [run_callFunc_extern Tryd.func132 (by kernel_rfl) (by kernel_rfl) (by kernel_rfl) (e := Extern.AbiNoEscape.same) (by kernel_rfl)]
    rw [Lib.run_noEscape]
    simp only [Result.andThen]
    rw [Oper.upon_value]
    go_wp2
    rw [Lib.run_from_unsafe w ⟨b, 0, none⟩ Tryd.underlying145 Tryd.underlying105 hj hsh liesBld]
    simp only [Result.andThen]
    rw [Oper.upon_value]
    go_wp2
    go_end0
    exact ⟨rfl, H.out.used _, (Below.refl B w).setCell (p := ⟨b, 0, none⟩) H.out.1 _⟩
  · have h0 := h.cell0
    have H := Lib.hid h
    clear h
    obtain ⟨j, hj, hjs⟩ := Option.map_eq_some_iff.1 sizeBld
    go_enter Tryd.func109, Tryd.ntmps109
    go_wp2
    rw [Lib.run_neq_ptr_same w _ Tryd.underlying105 hj]
    go_wp2
    go_end0
    exact ⟨rfl, H.out, Below.refl B _⟩
/-- behind a write: the builder holds the bytes l -/
def Wrote (B b : Nat) (l : List UInt8) (v : Value) (w : World) (e : Ending) (w' : World) : Prop := e = .returned v ∧ Bld B b l w' ∧ Below B w w'
theorem bld_grown {w1 w2 : World} {b : Nat} {v p : Value} {o : Obj} (hlt : b < w1.heap.size) (hk : w1.heap[b]? = some (.cells #[p, v] 107 (0, 0))) (hn : v.ownBlock ≠ some b) (hg : (w1.alloc o).grownBy w2 v.ownBlock) :
    w2.heap[b]? = some (.cells #[p, v] 107 (0, 0)) :=
  (hg.block b (by rw [World.size_alloc]; omega) (fun e => hn e.symm)).trans ((Lib.alloc_old w1 _ b hlt).trans hk)
theorem bld_grown0 {w1 w2 : World} {b : Nat} {v p : Value} (hlt : b < w1.heap.size) (hk : w1.heap[b]? = some (.cells #[p, v] 107 (0, 0))) (hn : v.ownBlock ≠ some b) (hg : w1.grownBy w2 v.ownBlock) :
    w2.heap[b]? = some (.cells #[p, v] 107 (0, 0)) :=
  (hg.block b hlt (fun e => hn e.symm)).trans hk
theorem sliceF_any {w : World} {B n : Nat} {e : TypeId} {v : Value} {xs : List Value} (h : w.ownsRowF B e 1 v n xs) : ∃ ao m cap, v = .slice ao m cap := by
  rcases h.2 with ⟨rfl, _⟩ | ⟨g, cap, cur, fz, rfl, _⟩
  · exact ⟨_, _, _, rfl⟩
  · exact ⟨_, _, _, rfl⟩
theorem bld_cell {w2 : World} {b : Nat} {v p : Value} (hk : w2.heap[b]? = some (.cells #[p, v] 107 (0, 0))) : w2.cell? ⟨b, 1, none⟩ = some v ∧ w2.frozen? ⟨b, 1, none⟩ = false :=
  ⟨by simp [Lib.cell_of_heap hk], Lib.frozen_of_heap hk 1⟩
theorem sliceF_succ {w : World} {B n : Nat} {e : TypeId} {v : Value} {xs : List Value} (h : w.ownsRowF B e 1 v (n + 1) xs) : ∃ g cap, v = .slice (some ⟨g, 0, none⟩) (n + 1) cap := by
  have hl := h.1
  rcases h.2 with ⟨_, h0⟩ | ⟨g, cap, cur, fz, rfl, _⟩
  · omega
  · exact ⟨g, cap, rfl⟩
set_option maxHeartbeats 2000000 in
set_option maxRecDepth 100000 in
theorem bld_byte (B b : Nat) (l : List UInt8) (c : UInt8) (cv : Int) (hc : (c.toNat : Int) = cv) (w : World) (h : Bld B b l w) (hl : l.length + 1 ≤ 2000000) (hBw : B ≤ w.heap.size) :
    Calls Tryd.prog 73 #[.pointer (some ⟨b, 0, none⟩), .int .u8 cv] w (Wrote B b (l ++ [c]) .nilIface w) := by
  obtain ⟨i0, hi, hz0, hz1, hz2⟩ := info_parts infoU8
  have HH := Lib.hid h
  have HC := Lib.hid hc
  clear h hc
  go_enter Tryd.func73, Tryd.ntmps73
  go_wp2_with fail
  refine (bld_check B b _ _ HH.out).mono ?_
  rintro e w1 ⟨rfl, ⟨hB, v, hbk, hown, hne⟩, hb1⟩
  have c0 : w1.cell? ⟨b, 0, none⟩ = some (.pointer (some ⟨b, 0, none⟩)) := by rw [Lib.cell_of_heap hbk]; rfl
  have c1 : w1.cell? ⟨b, 1, none⟩ = some v := by rw [Lib.cell_of_heap hbk]; rfl
  have hlt : b < w1.heap.size := (Array.getElem?_eq_some_iff.1 hbk).1
  have hln : (bys l).length = l.length := bys_len l
  rw [hln] at hown
  have HO := Lib.hid hown
  have HB1 := Lib.hid hb1
  have HK := Lib.hid hbk
  have HN := Lib.hid hne
  have hz1' := hb1.size
  clear hown hb1 hbk hne
  go_wp2_with (first
    | (at_builtin; refine wpList_append_ownF _ (by rfl) _ _ 22 (by rfl) B 5 i0 (.int .u8 0) 1 1 Tryd.underlying22 hi hz0 hz1 hz2 (by rfl) (by decide) v l.length (bys l) (by rfl) (HO.out.kept (World.grownBy_alloc w1 _ none) (by cases hv : v.ownBlock <;> simp)) ⟨w1.heap.size, 0, none⟩ 1 1 [.int .u8 cv] (by rfl) (by rfl) (World.news_of_block (cs := #[.int .u8 cv]) (t := 5) (fr := (0, 0)) (heap_alloc_new w1 _)) (fun u hu => by simp at hu; subst hu; rfl) (by unfold maxLen; omega) (by omega) (by simp; omega) ?_; intro v' w2 hown' hgrow hnil; obtain ⟨g, cap, rfl⟩ := sliceF_succ hown'; have HOW := Lib.hid hown'; have HGR := Lib.hid hgrow; clear hown' hgrow hnil; have hb2 := bld_grown hlt HK.out HN.out HGR.out; have HK2 := Lib.hid hb2; have d1 := (bld_cell hb2).1; have f1 := (bld_cell hb2).2; clear hb2))
  go_ret
  refine ⟨rfl, .inr ?_, ?_⟩
  · rw [bys_app, HC.out]
    refine Lib.BuilderAtF.put (T := 107) (e := 5) hB HK2.out ?_ neBU
    simpa [hln] using HOW.out
  · exact ((HB1.out.alloc (by omega) _).grown HGR.out (by simp; omega) (fun k hk => (HO.out.lt k hk).1)).setCell (p := ⟨b, 1, none⟩) hB _
set_option maxHeartbeats 2000000 in
set_option maxRecDepth 100000 in
theorem bld_str (B b : Nat) (l : List UInt8) (t : ByteArray) (w : World) (h : Bld B b l w) (hl : l.length + t.size ≤ 2000000) (hBw : B ≤ w.heap.size) :
    Calls Tryd.prog 71 #[.pointer (some ⟨b, 0, none⟩), .string t] w (Wrote B b (l ++ t.data.toList) (.tuple #[.int .i64 t.size, .nilIface]) w) := by
  obtain ⟨i0, hi, hz0, hz1, hz2⟩ := info_parts infoU8
  have HH := Lib.hid h
  clear h
  go_enter Tryd.func71, Tryd.ntmps71
  go_wp2_with fail
  refine (bld_check B b _ _ HH.out).mono ?_
  rintro e w1 ⟨rfl, ⟨hB, v, hbk, hown, hne⟩, hb1⟩
  have c0 : w1.cell? ⟨b, 0, none⟩ = some (.pointer (some ⟨b, 0, none⟩)) := by rw [Lib.cell_of_heap hbk]; rfl
  have c1 : w1.cell? ⟨b, 1, none⟩ = some v := by rw [Lib.cell_of_heap hbk]; rfl
  have hlt : b < w1.heap.size := (Array.getElem?_eq_some_iff.1 hbk).1
  have hln : (bys l).length = l.length := bys_len l
  rw [hln] at hown
  have HO := Lib.hid hown
  have HB1 := Lib.hid hb1
  have HK := Lib.hid hbk
  have HN := Lib.hid hne
  have hz1' := hb1.size
  clear hown hb1 hbk hne
  go_wp2_with (first
    | (at_builtin; refine Lib.wpList_append_own_stringF _ (by rfl) _ _ 22 9 (by rfl) B 5 i0 Tryd.underlying22 Tryd.underlying9 hi hz0 hz1 hz2 v l.length (bys l) (by rfl) HO.out t (by rfl) (by unfold maxLen; omega) (by omega) (by omega) ?_; intro v' w2 hown' hgrow hnil; have hsl := sliceF_any hown'; have HOW := Lib.hid hown'; have HGR := Lib.hid hgrow; clear hown' hgrow hnil; obtain ⟨ao, m', cap, rfl⟩ := hsl; have hb2 := bld_grown0 hlt HK.out HN.out HGR.out; have HK2 := Lib.hid hb2; have d1 := (bld_cell hb2).1; have f1 := (bld_cell hb2).2; clear hb2))
  go_ret2
  have hst : bys (l ++ t.data.toList) = bys l ++ Lib.strCells t := by simp [bys, Lib.strCells]
  refine ⟨rfl, .inr ?_, ?_⟩
  · rw [hst]
    refine Lib.BuilderAtF.put (T := 107) (e := 5) hB HK2.out ?_ neBU
    have hl2 : (bys l ++ Lib.strCells t).length = l.length + t.size := by rw [List.length_append, hln, Lib.strCells_length]
    rw [hl2]
    exact HOW.out
  · exact (HB1.out.grown HGR.out (by omega) (fun k hk => (HO.out.lt k hk).1)).setCell (p := ⟨b, 1, none⟩) hB _
theorem bld_text (B b : Nat) (l : List UInt8) (w : World) (h : Bld B b l w) (hBw : B ≤ w.heap.size) :
    Calls Tryd.prog 74 #[.pointer (some ⟨b, 0, none⟩)] w fun e w' => e = .returned (.string ⟨l.toArray⟩) ∧ Below B w w' :=
  (Tryd.Builder_String_any_k B b l w h hBw).mono fun e w' ⟨h1, _, h2, _⟩ => ⟨h1, h2⟩
end Go.Proofs.YtocnocchliihhaaDoor.Base
