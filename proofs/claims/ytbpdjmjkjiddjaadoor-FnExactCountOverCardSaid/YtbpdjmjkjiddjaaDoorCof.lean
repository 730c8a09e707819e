/-
  CrossingsOf: the numbers of the crossings; the model's and the program's.
-/
import Derived.Test.YtbpdjmjkjiddjaaDoorCit
import Derived.Test.YtbpdjmjkjiddjaaDoorSym
import Derived.Test.YtbpdjmjkjiddjaaDoorWlk
import Derived.Test.YtbpdjmjkjiddjaaDoorWls
import Derived.Test.YtbpdjmjkjiddjaaDoorWsc
import Derived.Deep.AppendLies
import Derived.Laws.AppendOwn
import Derived.OwnWalk
import Derived.Test.YtbpdjmjkjiddjaaDoorSt2
namespace Go.Proofs.YtbpdjmjkjiddjaaDoor.Base
open Go Go.RowKit
set_option linter.unusedVariables false
set_option linter.unusedSimpArgs false
attribute [local go_sem] Oper.semAt_some

/-- the numbers of the crossings among the first k inner points -/
def zI (f : Nat → Int) (k : Nat) : List Int := (zl f k).map (fun (x : Nat) => (x : Int))
theorem zI_yes {f : Nat → Int} {k : Nat} (h : f k = 0) : zI f (k + 1) = zI f k ++ [(k : Int)] := by unfold zI; rw [zl_yes h]; simp
theorem zI_no {f : Nat → Int} {k : Nat} (h : f k ≠ 0) : zI f (k + 1) = zI f k := by unfold zI; rw [zl_no h]
theorem zI_len (f : Nat → Int) (k : Nat) : (zI f k).length = (zl f k).length := by simp [zI]
def zF (f : Nat → Int) (n i : Nat) : Int := (((zl f n).getD i 0 : Nat) : Int)
theorem zI_at {f : Nat → Int} {n i : Nat} (h : i < (zl f n).length) : (zI f n)[i]? = some (zF f n i) := by
  unfold zI zF
  rw [List.getElem?_map, List.getD_eq_getElem?_getD, List.getElem?_eq_getElem h]
  rfl
theorem zI_get {f : Nat → Int} {n i : Nat} (h : i < (zl f n).length) : (ivs (zI f n))[i]? = some (.int .i64 (zF f n i)) := by
  unfold ivs
  rw [List.getElem?_map, zI_at h]
  rfl
theorem zF_wf {f : Nat → Int} {n : Nat} (hn : n ≤ 1000) {i : Nat} (h : i < (zl f n).length) : (Lit.int .i64 (zF f n i)).wf = true := by
  have := (zl_mem h).1
  exact WalkArith.wf_i64 (by unfold zF; omega)
theorem zI_take {f : Nat → Int} {n j : Nat} (h : j < (zl f n).length) : (zI f n).take (j + 1) = (zI f n).take j ++ [zF f n j] := by
  rw [List.take_add_one, zI_at h]
  rfl
def coN (W H : Int) (n : Nat) (f : Nat → Int) : Nat := if validB W H n f then (zl f n).length else 0
theorem coN_le (W H : Int) (n : Nat) (f : Nat → Int) : coN W H n f ≤ n := by unfold coN; split; exact zl_len f n; exact Nat.zero_le _
theorem ownS_down {s : Nat} {w : World} {base base' : Nat} {A : Option Addr} {n c : Nat} {f : Nat → Int} (h : OwnS s w base A n c f) (hb : base' ≤ base) : OwnS s w base' A n c f :=
  ⟨h.1, h.2.1, h.2.2.1, fun hn => by obtain ⟨b, o, e, h0, r⟩ := h.2.2.2 hn; exact ⟨b, o, e, Nat.le_trans hb h0, r⟩⟩
/-- a list of n numbers f, made by the call -/
def LsMade (N : Nat) (F : Nat → Int) (w : World) (e : Ending) (w' : World) : Prop := ∃ A c, e = .returned (.slice A N c) ∧ OwnS 1 w' w.heap.size A N c F ∧ Below w.heap.size w w'
set_option maxHeartbeats 1000000 in
theorem spec_all13 (w : World) (p : Nat) (W H : Int) (A : Option Addr) (n c : Nat) (f : Nat → Int) (hb : Box w p W H A n c) (hr : Row .i64 w A n c f) (hn : n ≤ 112) :
    Calls Tryd.prog 77 #[.pointer (some ⟨p, 0, none⟩)] w (LsMade (zl f n).length (zF f n) w) := by
  have HX := Lib.hid hb
  have HR := Lib.hid hr
  have HO1 := Lib.hid (owns_empty w 2)
  obtain ⟨i2, hi2, hz0, hz1, hz2⟩ := info_parts infoI64
  clear hb hr
  go_enter Tryd.func77, Tryd.ntmps77
  go_wp2
  go_loopw [3, 4] (fun u kv wr => ∃ k : Nat, k ≤ n ∧ kv = .int .i64 (k : Int) ∧ Hid (wr.ownsRow w.heap.size 2 1 u (zl f k).length (ivs (zI f k))) ∧ Hid (Below w.heap.size w wr)) (fun _ kv _ => n - (intOf kv).toNat)
  case atStart => exact ⟨0, Nat.zero_le _, rfl, HO1, Lib.hid ((Below.refl _ _).alloc (Nat.le_refl _) _)⟩
  case round =>
    clear HO1
    obtain ⟨k, hk, rfl, HU, HB⟩ := hrel
    obtain ⟨Ao, co, rfl⟩ := owns_slice HU.out
    have hBz := HB.out.size
    have hln := zl_len f k
    have HXr := Lib.hid (HX.out.below HB.out HX.out.1)
    obtain ⟨pz, k0, k1, k2⟩ := id HXr.out
    by_cases hlt : k < n
    · obtain ⟨b, o, rfl, hbl, hc⟩ := (HR.out.below HB.out (Nat.le_refl _)).2.2.2 (by omega)
      have ck := hc k hlt
      clear hc
      by_cases hf : f k = 0
      · have HYS := Lib.hid (zI_yes hf)
        have HYL := Lib.hid (show (zl f (k + 1)).length = (zl f k).length + 1 by rw [zl_yes hf, List.length_append]; rfl)
        have hfb : (f k == 0) = true := beq_iff_eq.2 hf
        have hXa := Lib.hid ((Below.refl wr.heap.size wr).alloc (Nat.le_refl _) (.cells #[.int .i64 (k : Int)] 2))
        obtain ⟨ln, hlne⟩ : ∃ ln, (zl f k).length = ln := ⟨_, rfl⟩
        rw [hlne] at HU hln HYL ⊢
        clear hlne hf
        go_wp2_with (first
          | (at_builtin; refine wpList_append_lies _ (by rfl) _ _ _ (by rfl) w.heap.size 2 i2 _ 1 8 Tryd.underlying29 hi2 hz0 hz1 hz2 rfl (by omega) _ ln (ivs (zI f k)) (by rfl) (owns_belowS HU.out hXa.out) ⟨wr.heap.size, 0, none⟩ 1 1 [.int .i64 (k : Int)] (by rfl) (by rfl) (World.news_of_block (cs := #[.int .i64 (k : Int)]) (t := 2) (fr := (0, 0)) (heap_alloc_new wr _)) (fun u hu => by simp at hu; subst hu; rfl) (by omega) (by unfold maxLen; omega) (by omega) (by simp; omega) (wr.heap.size + 1) (by simp) ?_; intro g6 cap6 w6 hown6 hgrow6 hat6 hlt6; have HOW := Lib.hid hown6; have HGR := Lib.hid hgrow6; clear hown6 hgrow6 hat6))
        go_roundw
        case rel =>
          refine ⟨k + 1, by omega, by go_num, Lib.hid ?_, Lib.hid ((HB.out.trans (hXa.out.mono (by omega))).grown HGR.out (by simp; omega) (fun b e => (HU.out.lt b e).1))⟩
          have e : ivs (zI f (k + 1)) = ivs (zI f k) ++ [.int .i64 (k : Int)] := by rw [HYS.out]; unfold ivs; simp
          rw [e, HYL.out]
          exact HOW.out
        case measure => simp [intOf]; omega
      · have HYS := Lib.hid (zI_no hf)
        have HYL := Lib.hid (zl_no hf)
        have hfb : (f k == 0) = false := beq_eq_false_iff_ne.2 hf
        clear hf
        go_wp2
        go_roundw
        case rel => exact ⟨k + 1, by omega, by go_num, Lib.hid (by rw [HYS.out, HYL.out]; exact HU.out), HB⟩
        case measure => simp [intOf]; omega
    · obtain rfl : k = n := by omega
      go_wp2
      go_ret
      exact ⟨_, _, rfl, ownS_ivs HU.out (fun i hi => zI_get hi) (fun i hi => zF_wf (by omega) hi) (Nat.le_refl _) (by unfold maxLen; omega), HB.out⟩
theorem spec_crossingsOf (w : World) (W H : Int) (A : Option Addr) (n c : Nat) (f : Nat → Int) (hr : Row .i64 w A n c f) :
    Calls Tryd.prog 40 #[.agg #[.int .i64 W, .int .i64 H, .slice A n c]] w (ListOut 1 (coN W H n f) (zF f n) (okC W H n f) w.heap.size w) := by
  have HL := Lib.hid (show Below w.heap.size w (w.alloc (.cells #[.int .i64 W, .int .i64 H, .slice A n c] 35)) from (Below.refl _ _).alloc (Nat.le_refl _) _)
  have HX := Lib.hid (Box.new w 35 W H A n c)
  have HR := Lib.hid (hr.below HL.out (Nat.le_refl _))
  clear hr
  cases hv : validB W H n f
  · have e1 : coN W H n f = 0 := by simp [coN, hv]
    have e2 : okC W H n f = 1 := by simp [okC, hv]
    rw [e1, e2]
    have HV := Lib.hid hv
    clear e1 e2 hv
    go_enter Tryd.func40, Tryd.ntmps40
    go_wp2_with fail
    refine (specOk_is HV.out HX.out HR.out).mono ?_
    rintro e w1 ⟨mq, rfl, hq⟩
    go_wp2
    go_ret2
    exact ⟨_, _, rfl, ownS_nil 1 _ _ _, HL.out.trans ((below_drewN (Below.refl _ _) _).mono HL.out.size)⟩
  · obtain ⟨hW, hH, hn, -⟩ := validB_yes hv
    have hn1 : n ≤ 112 := by have := (inner_bd hW hH).2; omega
    have e1 : coN W H n f = (zl f n).length := by simp [coN, hv]
    have e2 : okC W H n f = 0 := by simp [okC, hv]
    rw [e1, e2]
    have HV := Lib.hid hv
    clear e1 e2 hv hn
    go_enter Tryd.func40, Tryd.ntmps40
    go_wp2_with fail
    refine (specOk_is HV.out HX.out HR.out).mono ?_
    rintro e w1 ⟨mq, rfl, hq⟩
    have b1 := below_of_drew hq
    have HX1 := Lib.hid (HX.out.below b1 HX.out.1)
    have HR1 := Lib.hid (HR.out.below b1 (Nat.le_refl _))
    have HL1 := Lib.hid (HL.out.trans (b1.mono HL.out.size))
    clear b1 hq HX HR HL
    go_wp2_with fail
    refine (spec_all13 _ _ W H A n c f HX1.out HR1.out hn1).mono ?_
    rintro e w2 ⟨A2, c2, rfl, O2, b2⟩
    go_wp2
    go_ret2
    exact ⟨_, _, rfl, ownS_down O2 HL1.out.size, HL1.out.trans (b2.mono HL1.out.size)⟩
theorem holds_noC (B : Nat) : HoldsX B (fun _ _ => False) := ⟨fun _ _ _ h _ => h, fun _ _ _ _ h _ _ => h⟩
theorem owns_blk {w w' : World} {base n s : Nat} {e : TypeId} {v : Value} {xs : List Value} (h : w.ownsRow base e s v n xs) (he : ∀ g, v.ownBlock = some g → w'.heap[g]? = w.heap[g]?) : w'.ownsRow base e s v n xs := by
  refine ⟨h.1, ?_⟩
  rcases h.2 with h0 | ⟨g, cap, cur, rfl, hb, hg, h4⟩
  · exact .inl h0
  · exact .inr ⟨g, cap, cur, rfl, hb, (he g rfl).trans hg, h4⟩
def ownB (u : Value) : List Nat := match u.ownBlock with | some q => [q] | none => []
theorem ownB_mem {u : Value} {q : Nat} : q ∈ ownB u ↔ u.ownBlock = some q := by
  unfold ownB
  split <;> rename_i h <;> simp [h, eq_comm]
/-- what stands while the list of the crossings' numbers grows: pl: the list's variable, u: the list -/
structure CoS (wL : World) (pl base : Nat) (f : Nat → Int) (n : Nat) (w0 : World) (j : Nat) (u : Value) (A : World) : Prop where
  sz : wL.heap.size ≤ A.heap.size
  old : ∀ b, b < base → A.heap[b]? = wL.heap[b]?
  box : At A pl #[u] 29
  own : A.ownsRow base 2 1 u j (ivs ((zI f n).take j))
  far : u.ownBlock ≠ some pl
  bel : Below w0.heap.size w0 A
theorem CoS.stand {wL w0 : World} {pl base : Nat} {f : Nat → Int} {n j : Nat} {u : Value} {A A' : World} (h : CoS wL pl base f n w0 j u A) (hs : A.heap.size ≤ A'.heap.size) (ho : ∀ b, b < base → A'.heap[b]? = A.heap[b]?) (hX : ∀ b, b ∈ pl :: ownB u → A'.heap[b]? = A.heap[b]?) (hb : Below w0.heap.size w0 A') : CoS wL pl base f n w0 j u A' :=
  ⟨Nat.le_trans h.sz hs, fun b hb => (ho b hb).trans (h.old b hb), h.box.of_block (hX pl (by simp)), owns_blk h.own (fun g hg => hX g (List.mem_cons_of_mem _ (ownB_mem.2 hg))), h.far, hb⟩
theorem holds_co {wL w0 : World} {pl base : Nat} {f : Nat → Int} {n : Nat} (hb0 : base ≤ wL.heap.size) (hw : w0.heap.size ≤ wL.heap.size) : HoldsY wL.heap.size (fun X j A => ∃ u, X = pl :: ownB u ∧ CoS wL pl base f n w0 j u A) where
  below := fun X k A A' ⟨u, e, h⟩ hb => ⟨u, e, h.stand hb.size (fun b h1 => hb.block b (by have := h.sz; omega)) (fun b h1 => hb.block b (by
    rcases List.mem_cons.1 h1 with rfl | h2
    · exact h.box.lt
    · exact (h.own.lt b (ownB_mem.1 h2)).2)) (h.bel.trans (hb.mono h.bel.size))⟩
  put := fun X k A l o' ⟨u, e, h⟩ hl hX ho => ⟨u, e, h.stand (by simp) (fun b h1 => World.putObj_heap_other (by omega)) (fun b h1 => World.putObj_heap_other (by rintro rfl; exact hX (e ▸ h1))) (h.bel.grown (grownBy_putObj' _ _ _) h.bel.size (fun j e => by cases e; omega))⟩
  set := fun X k A b i v ⟨u, e, h⟩ hl hX => ⟨u, e, h.stand (by simp [World.setCell]) (fun b' h1 => Below.heap_setCell A ⟨b, i, none⟩ v b' (by show b' ≠ b; omega)) (fun b' h1 => Below.heap_setCell A ⟨b, i, none⟩ v b' (by show b' ≠ b; rintro rfl; exact hX (e ▸ h1))) (h.bel.setCell (p := ⟨b, i, none⟩) (show w0.heap.size ≤ b by omega) v)⟩
/-- one round: the list has grown, and the variable holds it -/
theorem CoS.next {wL w0 : World} {pl base : Nat} {f : Nat → Int} {n j : Nat} {u : Value} {A Y w6 : World} {z : Int} {g cap : Nat} (h : CoS wL pl base f n w0 j u A) (hpl : base ≤ pl) (hwb : w0.heap.size ≤ base) (hbw : base ≤ wL.heap.size) (hj : j < (zl f n).length) (hz : zF f n j = z)
    (b3 : Below A.heap.size A Y) (ho : w6.ownsRow base 2 1 (.slice (some ⟨g, 0, none⟩) (j + 1) cap) (j + 1) (ivs ((zI f n).take j) ++ [.int .i64 z])) (hg : Y.grownBy w6 u.ownBlock) (hat : u.ownBlock = some g ∨ g = Y.heap.size) (hlt : g < w6.heap.size) :
    (w6.cell? ⟨pl, 0, none⟩ = some u ∧ w6.frozen? ⟨pl, 0, none⟩ = false ∧ pl < w6.heap.size) ∧
    CoS wL pl base f n w0 (j + 1) (.slice (some ⟨g, 0, none⟩) (j + 1) cap) (w6.setCell ⟨pl, 0, none⟩ (.slice (some ⟨g, 0, none⟩) (j + 1) cap)) ∧ Ext (pl :: ownB u) A (w6.setCell ⟨pl, 0, none⟩ (.slice (some ⟨g, 0, none⟩) (j + 1) cap)) ∧
      ∀ b ∈ pl :: ownB (.slice (some ⟨g, 0, none⟩) (j + 1) cap), (b ∈ pl :: ownB u ∨ A.heap.size ≤ b) ∧ b < (w6.setCell ⟨pl, 0, none⟩ (.slice (some ⟨g, 0, none⟩) (j + 1) cap)).heap.size := by
  have z3 := b3.size
  have zg := hg.size
  have hpA := h.box.lt
  have hgpl : g ≠ pl := by
    rintro rfl
    rcases hat with h1 | h1
    · exact h.far h1
    · omega
  have hup : ∀ b, some b = u.ownBlock → base ≤ b ∧ b < A.heap.size := fun b e => h.own.lt b e.symm
  have keep : ∀ b, b < A.heap.size → some b ≠ u.ownBlock → w6.heap[b]? = A.heap[b]? := fun b h1 h2 =>
    (hg.block b (by omega) h2).trans (b3.block b h1)
  have hbox6 : At w6 pl #[u] 29 := h.box.of_block (keep pl hpA (fun e => h.far e.symm))
  have hsz : (w6.setCell ⟨pl, 0, none⟩ (.slice (some ⟨g, 0, none⟩) (j + 1) cap)).heap.size = w6.heap.size := by simp [World.setCell]
  have oth : ∀ b, b ≠ pl → (w6.setCell ⟨pl, 0, none⟩ (.slice (some ⟨g, 0, none⟩) (j + 1) cap)).heap[b]? = w6.heap[b]? := fun b hb => Below.heap_setCell _ _ _ _ hb
  refine ⟨⟨hbox6.cellv (i := 0) rfl, hbox6.frozen 0, hbox6.lt⟩, ⟨by rw [hsz]; have := h.sz; omega, fun b hb => ?_, ?_, ?_, ?_, ?_⟩, ?_, ?_⟩
  · rw [oth b (by omega), keep b (by have := h.sz; omega) (fun e => by have := (hup b e).1; omega)]
    exact h.old b hb
  · have := hbox6.set 0 (.slice (some ⟨g, 0, none⟩) (j + 1) cap)
    simpa using this
  · have e : ivs ((zI f n).take (j + 1)) = ivs ((zI f n).take j) ++ [.int .i64 z] := by rw [zI_take hj, hz]; unfold ivs; simp
    rw [e]
    exact owns_blk ho (fun g' hg' => by
      have : g = g' := by simpa [Value.ownBlock] using hg'
      exact oth g' (by omega))
  · simpa [Value.ownBlock] using hgpl
  · exact ((h.bel.trans (b3.mono h.bel.size)).grown hg (by have := h.bel.size; omega) (fun b e => by have := (hup b e.symm).1; omega)).setCell (p := ⟨pl, 0, none⟩) (show w0.heap.size ≤ pl by omega) _
  · refine ((Ext.of_below b3).trans ⟨hg.os, hg.tape, hg.output, hg.size, fun k hk hx => hg.block k hk (fun e => hx (List.mem_cons_of_mem _ (ownB_mem.2 e.symm)))⟩).trans (Ext.set _ _ _ (by simp))
  · intro b hb
    rw [hsz]
    rcases List.mem_cons.1 hb with rfl | h2
    · exact ⟨.inl (by simp), by omega⟩
    · have h3 : g = b := by simpa [Value.ownBlock] using ownB_mem.1 h2
      subst h3
      refine ⟨?_, hlt⟩
      rcases hat with h1 | h1
      · exact .inl (List.mem_cons_of_mem _ (ownB_mem.2 h1))
      · right; omega
theorem zF_is {W H : Int} {f : Nat → Int} {n i : Nat} (hW : sideB W = true) (hH : sideB H = true) (hn : (n : Int) = inner W H) (hi : i < (zl f n).length) : numN W (zpt W f n i).1 (zpt W f n i).2 = zF f n i ∧ 1 ≤ (zpt W f n i).1 ∧ (zpt W f n i).1 ≤ 16 ∧ 1 ≤ (zpt W f n i).2 ∧ (zpt W f n i).2 ≤ 16 := by
  have h0 := (zl_mem hi).1
  obtain ⟨h1, h2, h3⟩ := ptn_is hW hH (k := (((zl f n).getD i 0 : Nat) : Int)) (by omega) (by omega)
  obtain ⟨x1, x2, y1, y2⟩ := inside hW hH h1 h2
  exact ⟨h3, x1, x2, y1, y2⟩
set_option maxHeartbeats 8000000 in
set_option maxRecDepth 100000 in
theorem impl_crossIn (w : World) (W H : Int) (A : Option Addr) (n c : Nat) (f : Nat → Int) (hr : Row .i64 w A n c f) (hv : validB W H n f = true) :
    Calls Tryd.prog 38 #[.agg #[.int .i64 W, .int .i64 H, .slice A n c]] w (ListOut 1 (zl f n).length (zF f n) 0 w.heap.size w) := by
  have HL := Lib.hid (show Below w.heap.size w (w.alloc (.cells #[.int .i64 W, .int .i64 H, .slice A n c] 35)) from (Below.refl _ _).alloc (Nat.le_refl _) _)
  have HP := Lib.hid (At.new w #[.int .i64 W, .int .i64 H, .slice A n c] 35)
  obtain ⟨hW, hH, hn, -⟩ := validB_yes hv
  have hn1 : n ≤ 112 := by have := (inner_bd hW hH).2; omega
  have HZL := Lib.hid (zl_len f n)
  have HN := Lib.hid hn
  have HR := Lib.hid hr
  have HV := Lib.hid hv
  obtain ⟨i2, hi2, hz0, hz1, hz2⟩ := info_parts infoI64
  have HI2 := Lib.hid (And.intro hi2 (And.intro hz0 (And.intro hz1 hz2)))
  clear hr hv hn hi2 hz0 hz1 hz2
  refine (callsIn_wide (n := 6)).1 ?_
  refine callsIn_of_wp_marks Tryd.func38 rfl trivial ?_ rfl
  simp only [Tryd.ntmps38, List.size_toArray, List.length_cons, List.length_nil, Nat.reduceAdd, Nat.reduceSub, Array.replicate_succ, Array.replicate_zero, List.push_toArray, List.append_toArray, List.nil_append, List.cons_append]
  gi_wp2_with fail
  refine ⟨trivial, (callsIn_wide.2 (implOk_is HV.out (HR.out.below HL.out (Nat.le_refl _)))).mono ?_⟩
  rintro e w1 ⟨rfl, b1⟩
  have HP1 := Lib.hid (HP.out.below b1 HP.out.lt)
  have HL1 := Lib.hid (HL.out.trans (b1.mono HL.out.size))
  clear b1 HL HP
  have B3 := ((Below.refl w1.heap.size w1).alloc (Nat.le_refl _) (.cells #[] 2)).alloc (by simp) (.cells #[.slice (some ⟨w1.heap.size, 0, none⟩) 0 0] 29)
  have HP3 := Lib.hid (HP1.out.below B3 HP1.out.lt)
  have HL3 := Lib.hid (HL1.out.trans (B3.mono HL1.out.size))
  have HO3 := Lib.hid (owns_belowS (owns_empty w1 2) ((Below.refl (w1.alloc (.cells #[] 2)).heap.size (w1.alloc (.cells #[] 2))).alloc (Nat.le_refl _) (.cells #[.slice (some ⟨w1.heap.size, 0, none⟩) 0 0] 29)))
  have HG3 : Hid (At ((w1.alloc (.cells #[] 2)).alloc (.cells #[.slice (some ⟨w1.heap.size, 0, none⟩) 0 0] 29)) (w1.heap.size + 1) #[.slice (some ⟨w1.heap.size, 0, none⟩) 0 0] 29) := Lib.hid (by have h := At.new (w1.alloc (.cells #[] 2)) #[.slice (some ⟨w1.heap.size, 0, none⟩) 0 0] 29; simpa using h)
  have hz3 : ((w1.alloc (.cells #[] 2)).alloc (.cells #[.slice (some ⟨w1.heap.size, 0, none⟩) 0 0] 29)).heap.size = w1.heap.size + 1 + 1 := by simp
  have hlw : w.heap.size < w1.heap.size := HP1.out.lt
  have k0 := HP3.out.cellv (i := 0) rfl
  have k1 := HP3.out.cellv (i := 1) rfl
  have k2 := HP3.out.cellv (i := 2) rfl
  have lp := HP3.out.lt
  clear B3 HP1 HL1
  gi_wp2_with fail
  generalize (w1.alloc (.cells #[] 2)).alloc (.cells #[.slice (some ⟨w1.heap.size, 0, none⟩) 0 0] 29) = w3 at *
  generalize w1.heap.size = g0 at *
  clear k0 k1 k2 lp
  refine ⟨trivial, (callsIn_wide.2 (impl_crossings w3 W H A n c)).mono ?_⟩
  rintro e w5 ⟨rfl, hP5, c5, z5⟩
  have HQ5 := Lib.hid hP5
  have HP5 := Lib.hid (HP3.out.below c5 HP3.out.lt)
  have HG5 := Lib.hid (HG3.out.below c5 HG3.out.lt)
  have HO5 := Lib.hid (owns_belowS HO3.out c5)
  have HL5 := Lib.hid (HL3.out.trans (c5.mono HL3.out.size))
  have hle : w.heap.size ≤ w5.heap.size := HL5.out.size
  rw [hz3] at HQ5 z5 ⊢
  have hq5 : g0 + 1 + 1 < w5.heap.size := by omega
  clear c5 hP5 HP3 HG3 HO3 HL3 hz3 z5
  gi_wp2
  have hit : IterY Fence.wide 5 Tryd.prog 117 #[.pointer (some ⟨g0 + 1 + 1, 0, none⟩)] (fun j => #[paggP (zpt W f n j)]) (zl f n).length w.heap.size [g0 + 1 + 1] w5 :=
    cross_iter 5 (by omega) w w5 W H A n c f _ HR.out HV.out HL5.out HQ5.out
  refine wpIn_rangeY rfl (by omega) (gf := 117) (lb := #[.pointer (some ⟨g0 + 1 + 1, 0, none⟩)]) rfl trivial (enters_of Tryd.func117 (by kernel_rfl) rfl) hit hle (by simp; omega) (Below.refl _ _) (fun _ => rfl)
    (fun X j A => ∃ u, X = (g0 + 1) :: ownB u ∧ CoS w5 (g0 + 1) g0 f n w j u A) (fun _ _ _ => False) (holds_co (by omega) hle) (fun _ => holds_noC _) ((g0 + 1) :: ownB (.slice (some ⟨g0, 0, none⟩) 0 0)) (by simp [ownB, Value.ownBlock]; omega)
    ⟨_, rfl, Nat.le_refl _, fun _ _ => rfl, HG5.out, by simpa [ivs] using HO5.out, by simp [Value.ownBlock], HL5.out⟩
    (fun j a' X => ∃ p5, a' = { tmps := #[.agg #[.int .i64 W, .int .i64 H, .slice A n c], .pointer (some ⟨w.heap.size, 0, none⟩), .slice none 0 0, .int .i64 0, .pointer (some ⟨g0 + 1, 0, none⟩), .pointer (some ⟨p5, 0, none⟩), .agg #[.int .i64 W, .int .i64 H, .slice A n c], .bool true, .bool false, .slice (some ⟨g0, 0, none⟩) 0 0, .agg #[.int .i64 W, .int .i64 H, .slice A n c], .func (.func 117) #[] #[.pointer (some ⟨g0 + 1 + 1, 0, none⟩)], paggP (zpt W f n j), undef, undef, undef, undef, undef, undef, undef, undef], defers := [] } ∧ At X p5 #[.int .i64 (zpt W f n j).1, .int .i64 (zpt W f n j).2] 61)
    (fun k a' X l o' h ho => by obtain ⟨p5, e, ha⟩ := h; exact ⟨p5, e, at_put ha ho⟩) ?assign ?body ?done ?stop
  case assign =>
    intro l j X Aw J hj hX hi hJ
    clear hit
    dsimp only [paggP]
    obtain ⟨v, hv⟩ : ∃ v, v = zpt W f n j := ⟨_, rfl⟩
    rw [← hv] at hJ ⊢
    have HVv := Lib.hid hv
    clear hv
    gi_wp2
    exact hJ _ _ ((Below.refl _ _).alloc (Nat.le_refl _) _) ⟨_, rfl, At.new _ _ _⟩
  case body =>
    rintro l j X a' Aw hj hX hXb ⟨u, rfl, hI⟩ ⟨p5, rfl, h5⟩
    clear hit
    have HI := Lib.hid hI
    have H5 := Lib.hid h5
    obtain ⟨hzn, x1, x2, y1, y2⟩ := zF_is hW hH HN.out hj
    have hZ := HZL.out
    obtain ⟨z, hz⟩ : ∃ z, zF f n j = z := ⟨_, rfl⟩
    obtain ⟨v, hv⟩ : ∃ v, v = zpt W f n j := ⟨_, rfl⟩
    rw [← hv] at H5 x1 x2 y1 y2 hzn ⊢
    rw [hz] at hzn
    have HNU := Lib.hid (fun (w9 : World) => (by have h := numberOf_any w9 W H v.1 v.2 hW x1 x2 y1 y2; rw [hzn] at h; exact h : Calls Tryd.prog 75 #[.agg #[.int .i64 W, .int .i64 H], .agg #[.int .i64 v.1, .int .i64 v.2]] w9 (Gives (.int .i64 z) w9)))
    have HZ := Lib.hid hz
    have HJ := Lib.hid hj
    have hj113 : j < 113 := by omega
    have HPw := Lib.hid (HP5.out.of_block (HI.out.old w.heap.size hlw))
    have hsz := HI.out.sz
    clear hv hz hzn hI h5 hX hXb hj hZ
    have q0 : Aw.cell? ⟨p5, 0, none⟩ = some (.int .i64 v.1) := H5.out.cellv (i := 0) rfl
    have q1 : Aw.cell? ⟨p5, 1, none⟩ = some (.int .i64 v.2) := H5.out.cellv (i := 1) rfl
    have lq := H5.out.lt
    have u0 : Aw.cell? ⟨g0 + 1, 0, none⟩ = some u := HI.out.box.cellv (i := 0) rfl
    have lu := HI.out.box.lt
    have k0 : Aw.cell? ⟨w.heap.size, 0, none⟩ = some (.int .i64 W) := HPw.out.cellv (i := 0) rfl
    have k1 : Aw.cell? ⟨w.heap.size, 1, none⟩ = some (.int .i64 H) := HPw.out.cellv (i := 1) rfl
    have k2 : Aw.cell? ⟨w.heap.size, 2, none⟩ = some (.slice A n c) := HPw.out.cellv (i := 2) rfl
    have lk := HPw.out.lt
    gi_wp2_with fail
    refine stab_two8 [some 13, some 14, some 15, some 16, some 17, some 18] [13, 14, 15, 16, 17, 18] [] []
      [(fun a lo hi v' w' => v' = u), (fun a lo hi v' w' => v' = .agg #[.int .i64 W, .int .i64 H, .slice A n c]), (fun a lo hi v' w' => v' = .agg #[.int .i64 W, .int .i64 H]), (fun a lo hi v' w' => v' = .agg #[.int .i64 v.1, .int .i64 v.2]), (fun a lo hi v' w' => v' = .int .i64 z),
        (fun a lo hi v' w' => v' = .slice (some ⟨lo, 0, none⟩) 1 1 ∧ hi = lo + 1 ∧ At w' lo #[.int .i64 z] 2)]
      [[], [], [1], [], [2, 3], [4]] [[], [], [], [], [], []] (by intro x hx c; simp only [List.cons_append, List.nil_append, List.mem_cons, List.not_mem_nil, or_false] at hx; rcases hx with rfl | rfl | rfl | rfl | rfl | rfl | rfl | rfl <;> (intro h; cases h)) (by kernel_rfl) (by kernel_rfl) (by kernel_rfl) (by kernel_rfl) (fun k hk => absurd hk List.not_mem_nil) ?gS ?gO ?gR
    case gS => exact ⟨fun _ _ _ _ _ _ h _ => h, fun _ _ _ _ _ _ h _ => h, fun _ _ _ _ _ _ h _ => h, fun _ _ _ _ _ _ h _ => h, fun _ _ _ _ _ _ h _ => h, fun _ _ _ _ _ _ ⟨h1, h2, h3⟩ e => ⟨h1, h2, h3.same e (.inr ⟨Nat.le_refl _, by omega⟩)⟩, trivial⟩
    case gO =>
      refine ⟨?o0, ?o1, ?o2, ?o3, ?o4, ?o5, trivial⟩
      case o0 =>
        intro vs iv wk hx hf
        have ezz : g0 + 1 < wk.heap.size := Nat.lt_of_lt_of_le lu hx.size
        have e0 : wk.cell? ⟨g0 + 1, 0, none⟩ = some u := hx.cell u0 (by simp)
        intro K' hK
        simp only [setA, setT, List.setIfInBounds_toArray, List.set_cons_zero, List.set_cons_succ]
        go_simp
        refine hK.out _ u _ ?_ ?_
        · simp only [setA, setT, List.setIfInBounds_toArray, List.set_cons_zero, List.set_cons_succ, Act.put]
        · exact ⟨Ext.refl _ _, rfl⟩
      case o1 =>
        intro vs iv wk hx hf
        have ezz : w.heap.size < wk.heap.size := Nat.lt_of_lt_of_le lk hx.size
        have e0 : wk.cell? ⟨w.heap.size, 0, none⟩ = some (.int .i64 W) := hx.cell k0 (by simp)
        have e1 : wk.cell? ⟨w.heap.size, 1, none⟩ = some (.int .i64 H) := hx.cell k1 (by simp)
        have e2 : wk.cell? ⟨w.heap.size, 2, none⟩ = some (.slice A n c) := hx.cell k2 (by simp)
        intro K' hK
        simp only [setA, setT, List.setIfInBounds_toArray, List.set_cons_zero, List.set_cons_succ]
        go_simp
        refine hK.out _ (.agg #[.int .i64 W, .int .i64 H, .slice A n c]) _ ?_ ?_
        · simp only [setA, setT, List.setIfInBounds_toArray, List.set_cons_zero, List.set_cons_succ, Act.put]
        · exact ⟨Ext.refl _ _, rfl⟩
      case o2 =>
        intro vs iv wk hx hf
        obtain ⟨⟨hq1, -⟩, -⟩ := hf
        have hq1 : vs 14 = .agg #[.int .i64 W, .int .i64 H, .slice A n c] := hq1
        intro K' hK
        simp only [setA, setT, List.setIfInBounds_toArray, List.set_cons_zero, List.set_cons_succ]
        go_simp
        refine (sizeOf_any _ W H A n c).mono ?_
        rintro e w2 ⟨rfl, b2⟩
        dsimp only
        refine hK.out _ (.agg #[.int .i64 W, .int .i64 H]) _ ?_ ?_
        · simp only [setA, setT, List.setIfInBounds_toArray, List.set_cons_zero, List.set_cons_succ, Act.put, hq1]
        · exact ⟨Ext.of_below b2, rfl⟩
      case o3 =>
        intro vs iv wk hx hf
        have ezz : p5 < wk.heap.size := Nat.lt_of_lt_of_le lq hx.size
        have e0 : wk.cell? ⟨p5, 0, none⟩ = some (.int .i64 v.1) := hx.cell q0 (by simp)
        have e1 : wk.cell? ⟨p5, 1, none⟩ = some (.int .i64 v.2) := hx.cell q1 (by simp)
        intro K' hK
        simp only [setA, setT, List.setIfInBounds_toArray, List.set_cons_zero, List.set_cons_succ]
        go_simp
        refine hK.out _ (.agg #[.int .i64 v.1, .int .i64 v.2]) _ ?_ ?_
        · simp only [setA, setT, List.setIfInBounds_toArray, List.set_cons_zero, List.set_cons_succ, Act.put]
        · exact ⟨Ext.refl _ _, rfl⟩
      case o4 =>
        intro vs iv wk hx hf
        obtain ⟨⟨hq2, -⟩, ⟨hq3, -⟩, -⟩ := hf
        have hq2 : vs 15 = .agg #[.int .i64 W, .int .i64 H] := hq2
        have hq3 : vs 16 = .agg #[.int .i64 v.1, .int .i64 v.2] := hq3
        intro K' hK
        simp only [setA, setT, List.setIfInBounds_toArray, List.set_cons_zero, List.set_cons_succ]
        go_simp
        refine (HNU.out _).mono ?_
        rintro e w2 ⟨rfl, b2⟩
        dsimp only
        refine hK.out _ (.int .i64 z) _ ?_ ?_
        · simp only [setA, setT, List.setIfInBounds_toArray, List.set_cons_zero, List.set_cons_succ, Act.put, hq2, hq3]
        · exact ⟨Ext.of_below b2, rfl⟩
      case o5 =>
        intro vs iv wk hx hf
        obtain ⟨⟨hq4, -⟩, -⟩ := hf
        have hq4 : vs 17 = .int .i64 z := hq4
        intro K' hK
        simp only [setA, setT, List.setIfInBounds_toArray, List.set_cons_zero, List.set_cons_succ]
        go_simp
        refine hK.out _ (.slice (some ⟨wk.heap.size, 0, none⟩) 1 1) _ ?_ ?_
        · simp only [setA, setT, List.setIfInBounds_toArray, List.set_cons_zero, List.set_cons_succ, Act.put, hq4]
        · exact ⟨Ext.alloc _ _, rfl, by simp, At.new _ _ _⟩
    case gR =>
      intro vs iv wx hx hap hf
      obtain ⟨⟨hv0, -⟩, -, -, -, -, ⟨⟨hv5, hhi, hA5⟩, hz5⟩, -⟩ := hf
      have hv0 : vs 13 = u := hv0
      have hv5 : vs 18 = .slice (some ⟨(iv 5).1, 0, none⟩) 1 1 := hv5
      have bx : Below Aw.heap.size Aw wx := ((Ext.drew _).trans hx).nil
      have HOWN := Lib.hid (owns_belowS HI.out.own bx)
      have HA5 : Hid (At wx (iv 5).1 #[.int .i64 z] 2) := Lib.hid hA5
      have hz9 := bx.size
      have HF := Lib.hid (fun (g cap : Nat) (w6 : World) (h1 : w6.ownsRow g0 2 1 (.slice (some ⟨g, 0, none⟩) (j + 1) cap) (j + 1) (ivs ((zI f n).take j) ++ [.int .i64 z])) (h2 : wx.grownBy w6 u.ownBlock) (h3 : u.ownBlock = some g ∨ g = wx.heap.size) (h4 : g < w6.heap.size) => CoS.next HI.out (by omega) (by omega) (by omega) HJ.out HZ.out bx h1 h2 h3 h4)
      have HNW := Lib.hid (World.news_of_block (cs := #[.int .i64 z]) (t := 2) (fr := (0, 0)) (w := wx) (B := (iv 5).1) HA5.out)
      generalize (iv 5).1 = lo at *
      clear hx hap hA5 hhi hz5 bx
      refine ⟨?_⟩
      simp only [setA, setT, List.setIfInBounds_toArray, List.set_cons_zero, List.set_cons_succ, hv0, hv5]
      refine wp_append_lies wx (.tmp 13) (.tmp 18) 29 (by rfl) g0 2 i2 _ 1 8 Tryd.underlying29 HI2.out.1 HI2.out.2.1 HI2.out.2.2.1 HI2.out.2.2.2 rfl (by omega) u j (ivs ((zI f n).take j)) (by rfl) HOWN.out ⟨lo, 0, none⟩ 1 1 [.int .i64 z] (by rfl) (by rfl) HNW.out (fun u hu => by simp at hu; subst hu; rfl) (by omega) (by unfold maxLen; omega) (by omega) (by omega) wx.heap.size rfl ?_
      intro g6 cap6 w6 h1 h2 h3 h4
      have HQ := Lib.hid (HF.out g6 cap6 w6 h1 h2 h3 h4)
      have e1 := HQ.out.1.1
      have e2 := HQ.out.1.2.1
      have e3 := HQ.out.1.2.2
      clear h1 h2 h3 h4 HF HNW HOWN
      simp only [Act.put, List.setIfInBounds_toArray, List.set_cons_zero, List.set_cons_succ]
      go_simp
      exact ⟨_, ⟨_, rfl, HQ.out.2.1⟩, HQ.out.2.2.1, HQ.out.2.2.2⟩
  case done =>
    rintro D X WN hD hX ⟨u, rfl, hI⟩ hKD
    clear hit
    obtain ⟨Ao, co, rfl⟩ := owns_slice hI.own
    have hown : (WN.putObj D (.deferred none)).ownsRow g0 2 1 (.slice Ao (zl f n).length co) (zl f n).length (ivs (zI f n)) := by
      have h := hI.own
      rw [List.take_of_length_le (by rw [zI_len]; exact Nat.le_refl _)] at h
      exact owns_blk h (fun g hg => World.putObj_heap_other (fun e => (hX g (List.mem_cons_of_mem _ (ownB_mem.2 hg))).2.2 e))
    have HOW := Lib.hid hown
    have HI := Lib.hid hI
    have HKD := Lib.hid hKD
    have u0 : WN.cell? ⟨g0 + 1, 0, none⟩ = some (.slice Ao (zl f n).length co) := HI.out.box.cellv (i := 0) rfl
    have lu := HI.out.box.lt
    clear hI hKD hX hown
    gi_wp2
    refine ⟨by simp, .inl ⟨_, _, rfl, run_takeDeferred HKD.out, ?_⟩⟩
    refine ⟨_, ?_, ⟨Ao, co, rfl, ownS_ivs HOW.out (fun i hi => zI_get hi) (fun i hi => zF_wf (by omega) hi) (by omega) (by have := HZL.out; unfold maxLen; omega), HI.out.bel.grown (grownBy_putObj' WN D (.deferred none)) HI.out.bel.size (fun j e => by cases e; omega)⟩⟩
    simp [results, Tryd.results38, go_sem]
  case stop =>
    rintro D t k X hD hk h _
    exact h.elim
theorem impl_crossingsOf (w : World) (W H : Int) (A : Option Addr) (n c : Nat) (f : Nat → Int) (hr : Row .i64 w A n c f) :
    Calls Tryd.prog 38 #[.agg #[.int .i64 W, .int .i64 H, .slice A n c]] w (ListOut 1 (coN W H n f) (zF f n) (okC W H n f) w.heap.size w) := by
  cases hv : validB W H n f
  · have e1 : coN W H n f = 0 := by simp [coN, hv]
    have e2 : okC W H n f = 1 := by simp [okC, hv]
    rw [e1, e2]
    have HL := Lib.hid (show Below w.heap.size w (w.alloc (.cells #[.int .i64 W, .int .i64 H, .slice A n c] 35)) from (Below.refl _ _).alloc (Nat.le_refl _) _)
    have HR := Lib.hid (hr.below HL.out (Nat.le_refl _))
    have HV := Lib.hid hv
    clear e1 e2 hv hr
    go_enter Tryd.func38, Tryd.ntmps38
    go_wp2_with fail
    refine (implOk_is HV.out HR.out).mono ?_
    rintro e w1 ⟨rfl, b1⟩
    go_wp2
    go_ret2
    exact ⟨_, _, rfl, ownS_nil 1 _ _ _, HL.out.trans (b1.mono HL.out.size)⟩
  · have e1 : coN W H n f = (zl f n).length := by simp [coN, hv]
    have e2 : okC W H n f = 0 := by simp [okC, hv]
    rw [e1, e2]
    exact impl_crossIn w W H A n c f hr hv
end Go.Proofs.YtbpdjmjkjiddjaaDoor.Base
