/-
  Tracing: the program's.
-/
import Derived.Test.YtajikegfladelaaRnd
import Derived.Test.YtajikegfladelaaWsc
import Derived.Test.YtajikegfladelaaMps
import Derived.Test.YtajikegfladelaaTra
import Derived.Shelf.RegionOpen
namespace Go.Proofs.Ytajikegfladelaa.Base
open Go Go.RowKit
set_option linter.unusedVariables false
set_option linter.unusedSimpArgs false
attribute [local go_sem] Oper.semAt_some

/-- the marks that ranges over functions leave among the deferred calls -/
def Marks (base : Nat) (ds : List Deferred) (w : World) : Prop :=
  (ds.map (·.target)).Nodup ∧ ∀ d ∈ ds, ∃ D, d.target = .collected D ∧ base ≤ D ∧ w.heap[D]? = some (.deferred (some []))
theorem leaves_marks {F : Fence} {n : Nat} {P : Program} {fn : Func} {tmps : Array Value} {R : Ending → World → Prop} {base : Nat} {I : World → Prop}
    (hput : ∀ A l o', I A → base ≤ l → (∃ o : Obj, A.heap[l]? = some o ∧ o.isCells = false) → I (A.putObj l o')) (hfin : ∀ w', I w' → LeavesIn F n P fn tmps R [] .returning w') :
    ∀ (ds : List Deferred) (w : World), Marks base ds w → I w → LeavesInM F n P fn tmps R ds .returning w
  | [], w, _, hi => hfin w hi
  | d :: ds, w, hm, hi => by
    obtain ⟨hn, hd⟩ := hm
    obtain ⟨D, e, hb, hk⟩ := hd d (List.mem_cons_self ..)
    refine ⟨by simp, .inl ⟨D, _, e, run_takeDeferred hk, ?_⟩⟩
    refine leaves_marks hput hfin ds _ ⟨(List.nodup_cons.1 hn).2, fun d' hd' => ?_⟩ (hput _ _ _ hi hb ⟨_, hk, rfl⟩)
    obtain ⟨D', e', hb', hk'⟩ := hd d' (List.mem_cons_of_mem _ hd')
    have hne : D' ≠ D := fun h => (List.nodup_cons.1 hn).1 (List.mem_map.2 ⟨d', hd', by rw [e', h]; exact e.symm⟩)
    exact ⟨D', e', hb', (World.putObj_heap_other hne).trans hk'⟩
theorem Marks.heap {base : Nat} {ds : List Deferred} {w w' : World} (h : Marks base ds w) (e : ∀ D, base ≤ D → w.heap[D]? = some (.deferred (some [])) → w'.heap[D]? = some (.deferred (some []))) : Marks base ds w' :=
  ⟨h.1, fun d hd => by obtain ⟨D, h1, h2, h3⟩ := h.2 d hd; exact ⟨D, h1, h2, e D h2 h3⟩⟩
theorem Marks.below {base : Nat} {ds : List Deferred} {w w' : World} (h : Marks base ds w) (hb : Below w.heap.size w w') : Marks base ds w' :=
  h.heap fun D _ hk => (hb.block D (Array.getElem?_eq_some_iff.1 hk).1).trans hk
theorem Marks.cons {base D : Nat} {ds : List Deferred} {w w' : World} (h : Marks base ds w) (hD : w.heap.size ≤ D) (hB : base ≤ D) (hk : w'.heap[D]? = some (.deferred (some []))) (hs : ∀ D', base ≤ D' → w.heap[D']? = some (.deferred (some [])) → w'.heap[D']? = some (.deferred (some []))) : Marks base ({ target := .collected D, args := #[] } :: ds) w' := by
  refine ⟨List.nodup_cons.2 ⟨fun hm => ?_, h.1⟩, fun d hd => ?_⟩
  · obtain ⟨d', hd', e⟩ := List.mem_map.1 hm
    obtain ⟨D', e', -, hk'⟩ := h.2 d' hd'
    rw [e'] at e
    injection e with e
    have := (Array.getElem?_eq_some_iff.1 hk').1
    omega
  · rcases List.mem_cons.1 hd with rfl | hd
    · exact ⟨D, rfl, hB, hk⟩
    · obtain ⟨D', e', hb', hk'⟩ := h.2 d hd
      exact ⟨D', e', hb', hs D' hb' hk'⟩


/-- the walkers along the least segments of the curves found, four numbers each -/
noncomputable def stl (W H : Int) (f : Nat → Int) : Nat → List Int
  | 0 => []
  | k + 1 => if (trs W H f k).of k < 0 then stl W H f k ++ [wtX H k, wtY H k, 1, wtD H k] else stl W H f k
def posF (g : Nat → Int) (s : Nat) : Value := .int .i64 (if g s < 0 then 0 else g s)
def hasF (g : Nat → Int) (s : Nat) : Bool := decide (0 ≤ g s)
section
variable {W H : Int} {f : Nat → Int} {A : Option Addr} {n c : Nat} {w0 : World} {b4 b5 b6 cv mb M k : Nat} {u : Value} {w w' : World}
end

/-- the program's memory while a curve is walked: what lay when the walk began, the marks on its segments -/
structure RI (wL : World) (cv mb M nk : Nat) (g : Nat → Nat → Int) (w0 : World) (j : Nat) (w : World) : Prop where
  sz : wL.heap.size ≤ w.heap.size
  old : ∀ b, b < wL.heap.size → b ≠ cv → b ≠ mb → w.heap[b]? = wL.heap[b]?
  cur : w.rowIs cv 2 M (posF (g j))
  set : ∃ q, q ≤ nk + j ∧ SetIs w mb q (hasF (g j))
  bel : Below w0.heap.size w0 w
theorem rowIs_put {w : World} {b M : Nat} {T : TypeId} {F : Nat → Value} (h : w.rowIs b T M F) {l : Nat} {o' : Obj} (hne : b ≠ l) : (w.putObj l o').rowIs b T M F := h.of_block (World.putObj_heap_other hne)
theorem holds_ri {wL w0 : World} {cv mb M nk : Nat} {g : Nat → Nat → Int} (hc : cv < wL.heap.size) (hm : mb < wL.heap.size) (hw : w0.heap.size ≤ wL.heap.size) : HoldsY wL.heap.size (fun X j A => X = [cv, mb] ∧ RI wL cv mb M nk g w0 j A) where
  below := fun X k A A' h hb => ⟨h.1, Nat.le_trans h.2.sz hb.size, fun b h1 h2 h3 => (hb.block b (Nat.lt_of_lt_of_le h1 h.2.sz)).trans (h.2.old b h1 h2 h3), rowIs_below h.2.cur hb h.2.cur.lt, let ⟨q, h1, h2⟩ := h.2.set; ⟨q, h1, h2.below hb h2.lt⟩, h.2.bel.trans (hb.mono h.2.bel.size)⟩
  put := fun X k A l o' h hl _ _ => ⟨h.1, by simpa using h.2.sz, fun b h1 h2 h3 => (World.putObj_heap_other (by omega)).trans (h.2.old b h1 h2 h3), rowIs_put h.2.cur (by omega), let ⟨q, h1, h2⟩ := h.2.set; ⟨q, h1, h2.of_block (World.putObj_heap_other (by omega))⟩, h.2.bel.grown (grownBy_putObj' _ _ _) h.2.bel.size (fun j e => by cases e; omega)⟩
  set := fun X k A b i u h hb _ => ⟨h.1, by simpa [World.setCell] using h.2.sz, fun b' h1 h2 h3 => (Below.heap_setCell _ _ _ _ (by simp; omega)).trans (h.2.old b' h1 h2 h3), h.2.cur.setOther (a := ⟨b, i, none⟩) (show cv ≠ b by omega) u, let ⟨q, h1, h2⟩ := h.2.set; ⟨q, h1, h2.of_block (Below.heap_setCell _ _ _ _ (by simp; omega))⟩, h.2.bel.setCell (p := ⟨b, i, none⟩) (show w0.heap.size ≤ b by omega) u⟩
theorem holds_no (B : Nat) : HoldsX B (fun _ _ => False) := ⟨fun _ _ _ h _ => h, fun _ _ _ _ h _ _ => h⟩

theorem RI.b {wL w0 : World} {cv mb M nk : Nat} {g : Nat → Nat → Int} {j : Nat} {w w' : World} (h : RI wL cv mb M nk g w0 j w) (hb : Below w.heap.size w w') : RI wL cv mb M nk g w0 j w' :=
  ⟨Nat.le_trans h.sz hb.size, fun b h1 h2 h3 => (hb.block b (Nat.lt_of_lt_of_le h1 h.sz)).trans (h.old b h1 h2 h3), rowIs_below h.cur hb h.cur.lt, let ⟨q, h1, h2⟩ := h.set; ⟨q, h1, h2.below hb h2.lt⟩, h.bel.trans (hb.mono h.bel.size)⟩

theorem ext_grown {w w' : World} {b : Nat} {X : List Nat} (hg : w.grownBy w' (some b)) (hb : b ∈ X) : Ext X w w' :=
  ⟨hg.os, hg.tape, hg.output, hg.size, fun k hk hx => hg.block k hk (fun e => hx (by cases e; exact hb))⟩
theorem RI.next {wL w0 : World} {cv mb M nk : Nat} {g : Nat → Nat → Int} {j s : Nat} {A1 A2 A3 : World} {cn : Int} (h : RI wL cv mb M nk g w0 j A1) (hne : cv ≠ mb) (hcn : 0 ≤ cn) (hg : ∀ s', g (j + 1) s' = if s' = s then cn else g j s')
    {q : Nat} (hq : q ≤ nk + j) (hS2 : SetIs A2 mb (q + 1) (fun s' => s' == s || hasF (g j) s')) (hG : A1.grownBy A2 (some mb)) (hb : Below A2.heap.size A2 A3) (hmw : w0.heap.size ≤ mb) (hcw : w0.heap.size ≤ cv) :
    RI wL cv mb M nk g w0 (j + 1) (A3.setCell ⟨cv, s, none⟩ (.int .i64 cn)) := by
  have z1 := hG.size
  have z2 := hb.size
  have z0 := h.sz
  refine ⟨by simp [World.setCell]; omega, fun b h1 h2 h3 => ?_, ?_, ⟨q + 1, by omega, ?_⟩, ?_⟩
  · rw [Below.heap_setCell _ _ _ _ (by simpa using h2), hb.block b (by omega), hG.block b (by omega) (by simpa using h3)]
    exact h.old b h1 h2 h3
  · have h2 : A2.rowIs cv 2 M (posF (g j)) := h.cur.of_block (hG.block cv h.cur.lt (by simpa using hne))
    refine ((rowIs_below h2 hb h2.lt).set s (.int .i64 cn)).congr (fun i hi => ?_)
    unfold posF
    rw [hg i]
    by_cases e : i = s
    · simp [e]; omega
    · simp [e]
  · refine ((hS2.below hb hS2.lt).of_block (Below.heap_setCell _ _ _ _ (by simpa using fun e => hne e.symm))).congr (fun i => ?_)
    unfold hasF
    rw [hg i]
    by_cases e : i = s
    · simp [e]; omega
    · simp [e]
  · exact ((h.bel.grown hG h.bel.size (fun k e => by cases e; omega)).trans (hb.mono (by have := h.bel.size; omega))).setCell (p := ⟨cv, s, none⟩) hcw _
/-- append onto an own row inside a fence, and where the new slice lies -/
theorem wpListIn_append_lies {F : Fence} {nF : Nat} {P : Program} (w : World) {ops : Array Oper} {rest : List Oper} {o : Oper} {a : Act} {Q : Exit → Act → World → Prop} (hgd : o.guard = none) (s x : Operand) (t : TypeId)
    (ho : o.op = .call { callee := .builtin .append, args := #[s, x], argTypes := #[t, t] })
    (base : Nat) (e : TypeId) (i : TypeInfo) (z : Value) (size bytes : Nat) (ht : P.underlying t = some (.slice e)) (hi : P.info? e = some i) (hz : i.zero = some z)
    (hsize : i.size = size) (hby : i.bytes = bytes) (hzs : z.cells.size = size) (hsz : 0 < size)
    (v : Value) (n : Nat) (xs : List Value) (hs : a.eval s = v) (hown : w.ownsRow base e size v n xs)
    (ad : Addr) (m c : Nat) (news : List Value) (hx : a.eval x = .slice (some ad) m c) (hl : news.length = m * size) (hnews : ∀ j u, news[j]? = some u → w.cell? (ad.add j) = some u) (h1 : ∀ u ∈ news, u.oneCell' = true)
    (hm : 0 < m) (h63 : n + m ≤ maxLen) (hbytes : (n + m) * bytes ≤ 140737488355328) (hbase : base ≤ w.heap.size) (H : Nat) (hH : w.heap.size = H)
    (h : ∀ g cap w', w'.ownsRow base e size (.slice (some ⟨g, 0, none⟩) (n + m) cap) (n + m) (xs ++ news) → w.grownBy w' v.ownBlock → (v.ownBlock = some g ∨ g = H) → g < w'.heap.size → wpListIn F nF P ops Q rest (a.put o.dst (.slice (some ⟨g, 0, none⟩) (n + m) cap)) w') :
    wpListIn F nF P ops Q (o :: rest) a w := by
  refine wpListIn_plain hgd fun K hK => ?_
  obtain ⟨g, cap, w', hr, h2, h3, h4, h5⟩ := run_append_lies (P := P) w t o.type base e i z size bytes ht hi hz hsize hby hzs hsz v n xs hown ad m c news hl hnews h1 hm h63 hbytes hbase H hH
  unfold Oper.wpIn
  refine ⟨by simp [Oper.about, ho, resolve, Target.leads, Sem.run_pure], ?_⟩
  rw [Oper.semAt_plain F _ _ (by rw [ho]; intro c hc'; cases hc')]
  simp [execOp, ho, resolve, invoke, builtin, hs, hx, hr, Result.andThen]
  exact hK _ _ (h g cap w' h2 h3 h4 h5)
theorem ivs_any (l : List Int) : ∀ u ∈ ivs l, u.oneCell' = true := fun u hu => by
  obtain ⟨x, -, rfl⟩ := List.mem_map.1 hu
  rfl
theorem infoWk : (Try.prog.info? 57).map (fun i => (i.zero, i.size, i.bytes)) = some (some (.agg #[.int .i64 0, .int .i64 0, .int .i64 0, .int .i64 0]), 4, 32) := by kernel_rfl
theorem owns_blocks {w w' : World} {base n s : Nat} {e : TypeId} {v : Value} {xs : List Value} (h : w.ownsRow base e s v n xs) (he : ∀ g, v.ownBlock = some g → w'.heap[g]? = w.heap[g]?) : w'.ownsRow base e s v n xs := by
  refine ⟨h.1, ?_⟩
  rcases h.2 with h0 | ⟨g, cap, cur, rfl, hb, hg, h4⟩
  · exact .inl h0
  · exact .inr ⟨g, cap, cur, rfl, hb, (he g rfl).trans hg, h4⟩
/-- a mark's block is not one of cells, nor a map's -/
theorem dn_cells {w : World} {D p : Nat} {cs : Array Value} {T : TypeId} {fr : Nat × Nat} (hd : w.heap[D]? = some (.deferred (some []))) (h : w.heap[p]? = some (.cells cs T fr)) : D ≠ p := by
  rintro rfl
  rw [hd] at h
  cases h
theorem dn_set {w : World} {D b n : Nat} {S : Nat → Bool} (hd : w.heap[D]? = some (.deferred (some []))) (h : SetIs w b n S) : D ≠ b := by
  rintro rfl
  obtain ⟨X, ⟨es, cl, hb, _⟩, _⟩ := h
  rw [hd] at hb
  cases hb
theorem dn_row {w : World} {D b n : Nat} {T : TypeId} {F : Nat → Value} (hd : w.heap[D]? = some (.deferred (some []))) (h : w.rowIs b T n F) : D ≠ b := by
  rintro rfl
  obtain ⟨cs, hc, -⟩ := h
  rw [hd] at hc
  cases hc
theorem dn_owns {w : World} {D base n s : Nat} {e : TypeId} {v : Value} {xs : List Value} (hd : w.heap[D]? = some (.deferred (some []))) (h : w.ownsRow base e s v n xs) : v.ownBlock ≠ some D := fun ev => by
  rcases h.2 with ⟨h0, -⟩ | ⟨g, cap, cur, rfl, hb, hg, h4⟩
  · rw [h0] at ev; cases ev
  · have e1 : g = D := by simpa [Value.ownBlock] using ev
    rw [e1, hd] at hg
    cases hg
/-- the boxes lie apart -/
def Lay (n0 b4 b5 b6 cv mb : Nat) : Prop := n0 + 1 < b4 ∧ b4 < cv ∧ b4 < b5 ∧ cv ≠ b5 ∧ cv < mb ∧ b5 < mb ∧ mb < b6
section
variable {W H : Int} {f : Nat → Int} {A : Option Addr} {n c : Nat} {w0 wL wN wa w9 : World} {b4 b5 b6 cv mb M k nq N gN cap Hh : Nat} {u : Value} {g : Nat → Nat → Int}
end
/-- what the program finds of the curves of a valid panel -/
def TracedOut (W H : Int) (f : Nat → Int) (A : Option Addr) (n c M : Nat) (w : World) (e : Ending) (w' : World) : Prop :=
  ∃ Au cu cv, e = .returned (.tuple #[.agg #[.int .i64 W, .int .i64 H, .slice A n c, .slice Au (trs W H f M).cnt cu, .slice (some ⟨cv, 0, none⟩) M M], .int .i64 0]) ∧
    w'.ownsRow w.heap.size 57 4 (.slice Au (trs W H f M).cnt cu) (trs W H f M).cnt (ivs (stl W H f M)) ∧ w'.rowIs cv 2 M (fun s => .int .i64 ((trs W H f M).of s)) ∧ w.heap.size ≤ cv ∧ Below w.heap.size w w'
end Go.Proofs.Ytajikegfladelaa.Base
