/-
  Tracing: the program's.
-/
import Derived.Test.YtbpdjmjkjiddjaaDoorRnd
import Derived.Test.YtbpdjmjkjiddjaaDoorWsc
import Derived.Test.YtbpdjmjkjiddjaaDoorMps
import Derived.Test.YtbpdjmjkjiddjaaDoorTra
import Derived.Shelf.RegionOpen
namespace Go.Proofs.YtbpdjmjkjiddjaaDoor.Base
open Go Go.RowKit
set_option linter.unusedVariables false
set_option linter.unusedSimpArgs false
attribute [local go_sem] Oper.semAt_some

/-- the marks that ranges over functions leave among the deferred calls -/
def Marks (base : Nat) (ds : List Deferred) (w : World) : Prop :=
  (ds.map (·.target)).Nodup ∧ ∀ d ∈ ds, ∃ D, d.target = .collected D ∧ base ≤ D ∧ w.heap[D]? = some (.deferred (some []))
theorem leaves_marks {F : Fence} {n : Nat} {P : Program} {fn : Func} {tmps : Array Value} {R : Ending → World → Prop} {base : Nat} {I : World → Prop}
    (hput : ∀ A l o', I A → base ≤ l → (∃ o : Obj, A.heap[l]? = some o ∧ o.isCells = false) → I (A.putObj l o')) (hfin : ∀ w', I w' → LeavesIn F n P fn tmps R [] .returning w') :
    ∀ (ds : List Deferred) (w : World), Marks base ds w → I w → LeavesInM F n P fn tmps R ds .returning w
  | [], w, _, hi => hfin w hi
  | d :: ds, w, hm, hi => by
    obtain ⟨hn, hd⟩ := hm
    obtain ⟨D, e, hb, hk⟩ := hd d (List.mem_cons_self ..)
    refine ⟨by simp, .inl ⟨D, _, e, run_takeDeferred hk, ?_⟩⟩
    refine leaves_marks hput hfin ds _ ⟨(List.nodup_cons.1 hn).2, fun d' hd' => ?_⟩ (hput _ _ _ hi hb ⟨_, hk, rfl⟩)
    obtain ⟨D', e', hb', hk'⟩ := hd d' (List.mem_cons_of_mem _ hd')
    have hne : D' ≠ D := fun h => (List.nodup_cons.1 hn).1 (List.mem_map.2 ⟨d', hd', by rw [e', h]; exact e.symm⟩)
    exact ⟨D', e', hb', (World.putObj_heap_other hne).trans hk'⟩
theorem Marks.heap {base : Nat} {ds : List Deferred} {w w' : World} (h : Marks base ds w) (e : ∀ D, base ≤ D → w.heap[D]? = some (.deferred (some [])) → w'.heap[D]? = some (.deferred (some []))) : Marks base ds w' :=
  ⟨h.1, fun d hd => by obtain ⟨D, h1, h2, h3⟩ := h.2 d hd; exact ⟨D, h1, h2, e D h2 h3⟩⟩
theorem Marks.below {base : Nat} {ds : List Deferred} {w w' : World} (h : Marks base ds w) (hb : Below w.heap.size w w') : Marks base ds w' :=
  h.heap fun D _ hk => (hb.block D (Array.getElem?_eq_some_iff.1 hk).1).trans hk
theorem Marks.cons {base D : Nat} {ds : List Deferred} {w w' : World} (h : Marks base ds w) (hD : w.heap.size ≤ D) (hB : base ≤ D) (hk : w'.heap[D]? = some (.deferred (some []))) (hs : ∀ D', base ≤ D' → w.heap[D']? = some (.deferred (some [])) → w'.heap[D']? = some (.deferred (some []))) : Marks base ({ target := .collected D, args := #[] } :: ds) w' := by
  refine ⟨List.nodup_cons.2 ⟨fun hm => ?_, h.1⟩, fun d hd => ?_⟩
  · obtain ⟨d', hd', e⟩ := List.mem_map.1 hm
    obtain ⟨D', e', -, hk'⟩ := h.2 d' hd'
    rw [e'] at e
    injection e with e
    have := (Array.getElem?_eq_some_iff.1 hk').1
    omega
  · rcases List.mem_cons.1 hd with rfl | hd
    · exact ⟨D, rfl, hB, hk⟩
    · obtain ⟨D', e', hb', hk'⟩ := h.2 d hd
      exact ⟨D', e', hb', hs D' hb' hk'⟩


/-- the walkers along the least segments of the curves found, four numbers each -/
noncomputable def stl (W H : Int) (f : Nat → Int) : Nat → List Int
  | 0 => []
  | k + 1 => if (trs W H f k).of k < 0 then stl W H f k ++ [wtX H k, wtY H k, 1, wtD H k] else stl W H f k
def posF (g : Nat → Int) (s : Nat) : Value := .int .i64 (if g s < 0 then 0 else g s)
def hasF (g : Nat → Int) (s : Nat) : Bool := decide (0 ≤ g s)
/-- the program's boxes when k segments are passed -/
structure TrAt (W H : Int) (f : Nat → Int) (A : Option Addr) (n c : Nat) (w0 : World) (b4 b5 b6 cv mb M k : Nat) (u : Value) (w : World) : Prop where
  pan : At w w0.heap.size #[.int .i64 W, .int .i64 H, .slice A n c] 35
  res : At w (w0.heap.size + 1) #[.int .i64 0, .int .i64 0, .slice none 0 0, .slice none 0 0, .slice none 0 0] 84
  siz : At w b4 #[.int .i64 W, .int .i64 H] 99
  trc : At w b5 #[.int .i64 W, .int .i64 H, .slice A n c, u, .slice (some ⟨cv, 0, none⟩) M M] 84
  mbx : At w b6 #[.map (some mb)] 153
  cur : w.rowIs cv 2 M (posF (trs W H f k).of)
  set : ∃ nk, nk ≤ 1200 * k ∧ SetIs w mb nk (hasF (trs W H f k).of)
  sts : w.ownsRow w0.heap.size 131 4 u (trs W H f k).cnt (ivs (stl W H f k))
  uap : ∀ g, u.ownBlock = some g → g ≠ w0.heap.size ∧ g ≠ w0.heap.size + 1 ∧ g ≠ b4 ∧ g ≠ b5 ∧ g ≠ b6 ∧ g ≠ cv ∧ g ≠ mb
  bel : Below w0.heap.size w0 w
section
variable {W H : Int} {f : Nat → Int} {A : Option Addr} {n c : Nat} {w0 : World} {b4 b5 b6 cv mb M k : Nat} {u : Value} {w w' : World}
theorem TrAt.b (h : TrAt W H f A n c w0 b4 b5 b6 cv mb M k u w) (hb : Below w.heap.size w w') : TrAt W H f A n c w0 b4 b5 b6 cv mb M k u w' :=
  ⟨h.pan.below hb h.pan.lt, h.res.below hb h.res.lt, h.siz.below hb h.siz.lt, h.trc.below hb h.trc.lt, h.mbx.below hb h.mbx.lt, rowIs_below h.cur hb h.cur.lt,
    let ⟨nk, h1, h2⟩ := h.set; ⟨nk, h1, h2.below hb h2.lt⟩, owns_belowS h.sts hb, h.uap, h.bel.trans (hb.mono h.bel.size)⟩
theorem TrAt.skip (h : TrAt W H f A n c w0 b4 b5 b6 cv mb M k u w) (hno : 0 ≤ (trs W H f k).of k) : TrAt W H f A n c w0 b4 b5 b6 cv mb M (k + 1) u w :=
  ⟨h.pan, h.res, h.siz, h.trc, h.mbx, by rw [trs_yes hno]; exact h.cur, let ⟨nk, h1, h2⟩ := h.set; ⟨nk, by omega, by rw [trs_yes hno]; exact h2⟩,
    by rw [trs_yes hno]; show _; rw [stl, if_neg (by omega)]; exact h.sts, h.uap, h.bel⟩
end

/-- the program's memory while a curve is walked: what lay when the walk began, the marks on its segments -/
structure RI (wL : World) (cv mb M nk : Nat) (g : Nat → Nat → Int) (w0 : World) (j : Nat) (w : World) : Prop where
  sz : wL.heap.size ≤ w.heap.size
  old : ∀ b, b < wL.heap.size → b ≠ cv → b ≠ mb → w.heap[b]? = wL.heap[b]?
  cur : w.rowIs cv 2 M (posF (g j))
  set : ∃ q, q ≤ nk + j ∧ SetIs w mb q (hasF (g j))
  bel : Below w0.heap.size w0 w
theorem rowIs_put {w : World} {b M : Nat} {T : TypeId} {F : Nat → Value} (h : w.rowIs b T M F) {l : Nat} {o' : Obj} (hne : b ≠ l) : (w.putObj l o').rowIs b T M F := h.of_block (World.putObj_heap_other hne)
theorem holds_ri {wL w0 : World} {cv mb M nk : Nat} {g : Nat → Nat → Int} (hc : cv < wL.heap.size) (hm : mb < wL.heap.size) (hw : w0.heap.size ≤ wL.heap.size) : HoldsY wL.heap.size (fun X j A => X = [cv, mb] ∧ RI wL cv mb M nk g w0 j A) where
  below := fun X k A A' h hb => ⟨h.1, Nat.le_trans h.2.sz hb.size, fun b h1 h2 h3 => (hb.block b (Nat.lt_of_lt_of_le h1 h.2.sz)).trans (h.2.old b h1 h2 h3), rowIs_below h.2.cur hb h.2.cur.lt, let ⟨q, h1, h2⟩ := h.2.set; ⟨q, h1, h2.below hb h2.lt⟩, h.2.bel.trans (hb.mono h.2.bel.size)⟩
  put := fun X k A l o' h hl _ _ => ⟨h.1, by simpa using h.2.sz, fun b h1 h2 h3 => (World.putObj_heap_other (by omega)).trans (h.2.old b h1 h2 h3), rowIs_put h.2.cur (by omega), let ⟨q, h1, h2⟩ := h.2.set; ⟨q, h1, h2.of_block (World.putObj_heap_other (by omega))⟩, h.2.bel.grown (grownBy_putObj' _ _ _) h.2.bel.size (fun j e => by cases e; omega)⟩
  set := fun X k A b i u h hb _ => ⟨h.1, by simpa [World.setCell] using h.2.sz, fun b' h1 h2 h3 => (Below.heap_setCell _ _ _ _ (by simp; omega)).trans (h.2.old b' h1 h2 h3), h.2.cur.setOther (a := ⟨b, i, none⟩) (show cv ≠ b by omega) u, let ⟨q, h1, h2⟩ := h.2.set; ⟨q, h1, h2.of_block (Below.heap_setCell _ _ _ _ (by simp; omega))⟩, h.2.bel.setCell (p := ⟨b, i, none⟩) (show w0.heap.size ≤ b by omega) u⟩
theorem holds_no (B : Nat) : HoldsX B (fun _ _ => False) := ⟨fun _ _ _ h _ => h, fun _ _ _ _ h _ _ => h⟩

theorem RI.b {wL w0 : World} {cv mb M nk : Nat} {g : Nat → Nat → Int} {j : Nat} {w w' : World} (h : RI wL cv mb M nk g w0 j w) (hb : Below w.heap.size w w') : RI wL cv mb M nk g w0 j w' :=
  ⟨Nat.le_trans h.sz hb.size, fun b h1 h2 h3 => (hb.block b (Nat.lt_of_lt_of_le h1 h.sz)).trans (h.old b h1 h2 h3), rowIs_below h.cur hb h.cur.lt, let ⟨q, h1, h2⟩ := h.set; ⟨q, h1, h2.below hb h2.lt⟩, h.bel.trans (hb.mono h.bel.size)⟩

theorem ext_grown {w w' : World} {b : Nat} {X : List Nat} (hg : w.grownBy w' (some b)) (hb : b ∈ X) : Ext X w w' :=
  ⟨hg.os, hg.tape, hg.output, hg.size, fun k hk hx => hg.block k hk (fun e => hx (by cases e; exact hb))⟩
theorem RI.next {wL w0 : World} {cv mb M nk : Nat} {g : Nat → Nat → Int} {j s : Nat} {A1 A2 A3 : World} {cn : Int} (h : RI wL cv mb M nk g w0 j A1) (hne : cv ≠ mb) (hcn : 0 ≤ cn) (hg : ∀ s', g (j + 1) s' = if s' = s then cn else g j s')
    {q : Nat} (hq : q ≤ nk + j) (hS2 : SetIs A2 mb (q + 1) (fun s' => s' == s || hasF (g j) s')) (hG : A1.grownBy A2 (some mb)) (hb : Below A2.heap.size A2 A3) (hmw : w0.heap.size ≤ mb) (hcw : w0.heap.size ≤ cv) :
    RI wL cv mb M nk g w0 (j + 1) (A3.setCell ⟨cv, s, none⟩ (.int .i64 cn)) := by
  have z1 := hG.size
  have z2 := hb.size
  have z0 := h.sz
  refine ⟨by simp [World.setCell]; omega, fun b h1 h2 h3 => ?_, ?_, ⟨q + 1, by omega, ?_⟩, ?_⟩
  · rw [Below.heap_setCell _ _ _ _ (by simpa using h2), hb.block b (by omega), hG.block b (by omega) (by simpa using h3)]
    exact h.old b h1 h2 h3
  · have h2 : A2.rowIs cv 2 M (posF (g j)) := h.cur.of_block (hG.block cv h.cur.lt (by simpa using hne))
    refine ((rowIs_below h2 hb h2.lt).set s (.int .i64 cn)).congr (fun i hi => ?_)
    unfold posF
    rw [hg i]
    by_cases e : i = s
    · simp [e]; omega
    · simp [e]
  · refine ((hS2.below hb hS2.lt).of_block (Below.heap_setCell _ _ _ _ (by simpa using fun e => hne e.symm))).congr (fun i => ?_)
    unfold hasF
    rw [hg i]
    by_cases e : i = s
    · simp [e]; omega
    · simp [e]
  · exact ((h.bel.grown hG h.bel.size (fun k e => by cases e; omega)).trans (hb.mono (by have := h.bel.size; omega))).setCell (p := ⟨cv, s, none⟩) hcw _
theorem impl_count (w : World) (W H : Int) (A A1 A2 : Option Addr) (n c n1 c1 n2 c2 : Nat) (h1 : n1 ≤ maxLen) :
    Calls Tryd.prog 141 #[.agg #[.int .i64 W, .int .i64 H, .slice A n c, .slice A1 n1 c1, .slice A2 n2 c2]] w (Gives (.int .i64 (n1 : Int)) w) := by
  unfold maxLen at h1
  go_enter Tryd.func141, Tryd.ntmps141
  go_wp2
  go_ret
  exact ⟨rfl, (Below.refl _ _).alloc (Nat.le_refl _) _⟩


/-- append onto an own row inside a fence, and where the new slice lies -/
theorem wpListIn_append_lies {F : Fence} {nF : Nat} {P : Program} (w : World) {ops : Array Oper} {rest : List Oper} {o : Oper} {a : Act} {Q : Exit → Act → World → Prop} (hgd : o.guard = none) (s x : Operand) (t : TypeId)
    (ho : o.op = .call { callee := .builtin .append, args := #[s, x], argTypes := #[t, t] })
    (base : Nat) (e : TypeId) (i : TypeInfo) (z : Value) (size bytes : Nat) (ht : P.underlying t = some (.slice e)) (hi : P.info? e = some i) (hz : i.zero = some z)
    (hsize : i.size = size) (hby : i.bytes = bytes) (hzs : z.cells.size = size) (hsz : 0 < size)
    (v : Value) (n : Nat) (xs : List Value) (hs : a.eval s = v) (hown : w.ownsRow base e size v n xs)
    (ad : Addr) (m c : Nat) (news : List Value) (hx : a.eval x = .slice (some ad) m c) (hl : news.length = m * size) (hnews : ∀ j u, news[j]? = some u → w.cell? (ad.add j) = some u) (h1 : ∀ u ∈ news, u.oneCell' = true)
    (hm : 0 < m) (h63 : n + m ≤ maxLen) (hbytes : (n + m) * bytes ≤ 140737488355328) (hbase : base ≤ w.heap.size) (H : Nat) (hH : w.heap.size = H)
    (h : ∀ g cap w', w'.ownsRow base e size (.slice (some ⟨g, 0, none⟩) (n + m) cap) (n + m) (xs ++ news) → w.grownBy w' v.ownBlock → (v.ownBlock = some g ∨ g = H) → g < w'.heap.size → wpListIn F nF P ops Q rest (a.put o.dst (.slice (some ⟨g, 0, none⟩) (n + m) cap)) w') :
    wpListIn F nF P ops Q (o :: rest) a w := by
  refine wpListIn_plain hgd fun K hK => ?_
  obtain ⟨g, cap, w', hr, h2, h3, h4, h5⟩ := run_append_lies (P := P) w t o.type base e i z size bytes ht hi hz hsize hby hzs hsz v n xs hown ad m c news hl hnews h1 hm h63 hbytes hbase H hH
  unfold Oper.wpIn
  refine ⟨by simp [Oper.about, ho, resolve, Target.leads, Sem.run_pure], ?_⟩
  rw [Oper.semAt_plain F _ _ (by rw [ho]; intro c hc'; cases hc')]
  simp [execOp, ho, resolve, invoke, builtin, hs, hx, hr, Result.andThen]
  exact hK _ _ (h g cap w' h2 h3 h4 h5)
theorem ivs_any (l : List Int) : ∀ u ∈ ivs l, u.oneCell' = true := fun u hu => by
  obtain ⟨x, -, rfl⟩ := List.mem_map.1 hu
  rfl
theorem infoWk : (Tryd.prog.info? 131).map (fun i => (i.zero, i.size, i.bytes)) = some (some (.agg #[.int .i64 0, .int .i64 0, .int .i64 0, .int .i64 0]), 4, 32) := by kernel_rfl
theorem owns_blocks {w w' : World} {base n s : Nat} {e : TypeId} {v : Value} {xs : List Value} (h : w.ownsRow base e s v n xs) (he : ∀ g, v.ownBlock = some g → w'.heap[g]? = w.heap[g]?) : w'.ownsRow base e s v n xs := by
  refine ⟨h.1, ?_⟩
  rcases h.2 with h0 | ⟨g, cap, cur, rfl, hb, hg, h4⟩
  · exact .inl h0
  · exact .inr ⟨g, cap, cur, rfl, hb, (he g rfl).trans hg, h4⟩
/-- a mark's block is not one of cells, nor a map's -/
theorem dn_cells {w : World} {D p : Nat} {cs : Array Value} {T : TypeId} {fr : Nat × Nat} (hd : w.heap[D]? = some (.deferred (some []))) (h : w.heap[p]? = some (.cells cs T fr)) : D ≠ p := by
  rintro rfl
  rw [hd] at h
  cases h
theorem dn_set {w : World} {D b n : Nat} {S : Nat → Bool} (hd : w.heap[D]? = some (.deferred (some []))) (h : SetIs w b n S) : D ≠ b := by
  rintro rfl
  obtain ⟨X, ⟨es, cl, hb, _⟩, _⟩ := h
  rw [hd] at hb
  cases hb
theorem dn_row {w : World} {D b n : Nat} {T : TypeId} {F : Nat → Value} (hd : w.heap[D]? = some (.deferred (some []))) (h : w.rowIs b T n F) : D ≠ b := by
  rintro rfl
  obtain ⟨cs, hc, -⟩ := h
  rw [hd] at hc
  cases hc
theorem dn_owns {w : World} {D base n s : Nat} {e : TypeId} {v : Value} {xs : List Value} (hd : w.heap[D]? = some (.deferred (some []))) (h : w.ownsRow base e s v n xs) : v.ownBlock ≠ some D := fun ev => by
  rcases h.2 with ⟨h0, -⟩ | ⟨g, cap, cur, rfl, hb, hg, h4⟩
  · rw [h0] at ev; cases ev
  · have e1 : g = D := by simpa [Value.ownBlock] using ev
    rw [e1, hd] at hg
    cases hg
/-- the boxes lie apart -/
def Lay (n0 b4 b5 b6 cv mb : Nat) : Prop := n0 + 1 < b4 ∧ b4 < cv ∧ b4 < b5 ∧ cv ≠ b5 ∧ cv < mb ∧ b5 < mb ∧ mb < b6
section
variable {W H : Int} {f : Nat → Int} {A : Option Addr} {n c : Nat} {w0 wL wN wa w9 : World} {b4 b5 b6 cv mb M k nq N gN cap Hh : Nat} {u : Value} {g : Nat → Nat → Int}
theorem TrAt.next (h : TrAt W H f A n c w0 b4 b5 b6 cv mb M k u wL) (hl : Lay w0.heap.size b4 b5 b6 cv mb) (hr : RI wL cv mb M nq g w0 N wN) (hno : (trs W H f k).of k < 0) (hg : ∀ s, g N s = (trs W H f (k + 1)).of s) (hq : nq + N ≤ 1200 * (k + 1)) (hX : Below wN.heap.size wN wa)
    (hown : w9.ownsRow w0.heap.size 131 4 (.slice (some ⟨gN, 0, none⟩) ((trs W H f k).cnt + 1) cap) ((trs W H f k).cnt + 1) (ivs (stl W H f k) ++ ivs [wtX H k, wtY H k, 1, wtD H k])) (hgr : wa.grownBy w9 u.ownBlock) (hat : u.ownBlock = some gN ∨ gN = Hh) (hH : wa.heap.size = Hh) :
    TrAt W H f A n c w0 b4 b5 b6 cv mb M (k + 1) (.slice (some ⟨gN, 0, none⟩) ((trs W H f k).cnt + 1) cap) (w9.setCell ⟨b5, 3, none⟩ (.slice (some ⟨gN, 0, none⟩) ((trs W H f k).cnt + 1) cap)) := by
  obtain ⟨d1, d2, d3, d4, d5, d6, d7⟩ := hl
  have l1 := h.pan.lt
  have l2 := h.res.lt
  have l3 := h.siz.lt
  have l4 := h.trc.lt
  have l5 := h.mbx.lt
  have l6 := h.cur.lt
  obtain ⟨q0, -, hq0⟩ := h.set
  have l7 := hq0.lt
  have z1 := hr.sz
  have z2 := hX.size
  have hus : ∀ b, u.ownBlock = some b → b < wL.heap.size := fun b e => (h.sts.lt b e).2
  have mv : ∀ b, b < wL.heap.size → b ≠ cv → b ≠ mb → (∀ g, u.ownBlock = some g → g ≠ b) → w9.heap[b]? = wL.heap[b]? := fun b h1 h2 h3 h4 => by
    rw [hgr.block b (by omega) (fun e => h4 b e.symm rfl), hX.block b (by omega)]
    exact hr.old b h1 h2 h3
  have gap : gN ≠ w0.heap.size ∧ gN ≠ w0.heap.size + 1 ∧ gN ≠ b4 ∧ gN ≠ b5 ∧ gN ≠ b6 ∧ gN ≠ cv ∧ gN ≠ mb := by
    rcases hat with e | e
    · exact h.uap gN e
    · omega
  refine ⟨?_, ?_, ?_, ?_, ?_, ?_, ?_, ?_, ?_, ?_⟩
  · exact (h.pan.of_block (mv _ l1 (by omega) (by omega) (fun g e => (h.uap g e).1))).setOther (a := ⟨b5, 3, none⟩) (by simp; omega) _
  · exact (h.res.of_block (mv _ l2 (by omega) (by omega) (fun g e => (h.uap g e).2.1))).setOther (a := ⟨b5, 3, none⟩) (by simp; omega) _
  · exact (h.siz.of_block (mv _ l3 (by omega) (by omega) (fun g e => (h.uap g e).2.2.1))).setOther (a := ⟨b5, 3, none⟩) (by simp; omega) _
  · exact (h.trc.of_block (mv _ l4 (by omega) (by omega) (fun g e => (h.uap g e).2.2.2.1))).set 3 _
  · exact (h.mbx.of_block (mv _ l5 (by omega) (by omega) (fun g e => (h.uap g e).2.2.2.2.1))).setOther (a := ⟨b5, 3, none⟩) (by simp; omega) _
  · refine (((rowIs_below hr.cur hX hr.cur.lt).of_block (hgr.block cv (by omega) (fun e => (h.uap cv e.symm).2.2.2.2.2.1 rfl))).setOther (a := ⟨b5, 3, none⟩) (show cv ≠ b5 by omega) _).congr (fun i hi => ?_)
    unfold posF
    rw [hg i]
  · obtain ⟨q, hq1, hq2⟩ := hr.set
    refine ⟨q, by omega, ((((hq2.below hX (by omega)).grown hgr (fun e => (h.uap mb e.symm).2.2.2.2.2.2 rfl)).of_block (Below.heap_setCell _ _ _ _ (by simp; omega)))).congr (fun i => ?_)⟩
    unfold hasF
    rw [hg i]
  · rw [trs_no hno]
    rw [show ivs (stl W H f (k + 1)) = ivs (stl W H f k) ++ ivs [wtX H k, wtY H k, 1, wtD H k] by rw [stl, if_pos hno]; exact ivs_app _ _]
    exact owns_set hown (by simp [Value.ownBlock]; omega) _
  · intro g' e
    have e' : gN = g' := by simpa [Value.ownBlock] using e
    subst e'
    exact gap
  · exact (((hr.bel.trans (hX.mono hr.bel.size)).grown hgr (Nat.le_trans hr.bel.size hX.size) (fun b e => (h.sts.lt b e).1)).setCell (p := ⟨b5, 3, none⟩) (by simp; omega) _)
theorem TrAt.marks {ds : List Deferred} {D : Nat} (h : TrAt W H f A n c w0 b4 b5 b6 cv mb M k u wL) (hl : Lay w0.heap.size b4 b5 b6 cv mb) (hr : RI wL cv mb M nq g w0 N wN) (hX : Below wN.heap.size wN wa) (hgr : wa.grownBy w9 u.ownBlock) (hm : Marks w0.heap.size ds wL) (hD : wL.heap.size ≤ D) (hk : wN.heap[D]? = some (.deferred (some []))) (v : Value) :
    Marks w0.heap.size ({ target := .collected D, args := #[] } :: ds) (w9.setCell ⟨b5, 3, none⟩ v) := by
  have l4 := h.trc.lt
  have hbs := h.bel.size
  have hus : ∀ b, u.ownBlock = some b → b < wL.heap.size := fun b e => (h.sts.lt b e).2
  have z1 := hr.sz
  have z2 := hX.size
  refine hm.cons hD (by omega) ?_ (fun D' _ hd => ?_)
  · have hlt : D < wN.heap.size := (Array.getElem?_eq_some_iff.1 hk).1
    rw [Below.heap_setCell _ _ _ _ (by simp; omega), hgr.block D (by omega) (fun e => by have := hus D e.symm; omega), hX.block D hlt]
    exact hk
  · have hlt : D' < wL.heap.size := (Array.getElem?_eq_some_iff.1 hd).1
    obtain ⟨q0, -, hq0⟩ := h.set
    rw [Below.heap_setCell _ _ _ _ (by simpa using dn_cells hd h.trc), hgr.block D' (by omega) (fun e => dn_owns hd h.sts e.symm), hX.block D' (by omega), hr.old D' hlt (dn_row hd h.cur) (dn_set hd hq0)]
    exact hd
end
/-- what the program finds of the curves of a valid panel -/
def TracedOut (W H : Int) (f : Nat → Int) (A : Option Addr) (n c M : Nat) (w : World) (e : Ending) (w' : World) : Prop :=
  ∃ Au cu cv, e = .returned (.tuple #[.agg #[.int .i64 W, .int .i64 H, .slice A n c, .slice Au (trs W H f M).cnt cu, .slice (some ⟨cv, 0, none⟩) M M], .int .i64 0]) ∧
    w'.ownsRow w.heap.size 131 4 (.slice Au (trs W H f M).cnt cu) (trs W H f M).cnt (ivs (stl W H f M)) ∧ w'.rowIs cv 2 M (fun s => .int .i64 ((trs W H f M).of s)) ∧ w.heap.size ≤ cv ∧ Below w.heap.size w w'
theorem implSegsM (w : World) {W H : Int} {M : Nat} (hW : sideB W = true) (hH : sideB H = true) (hM : 4 * W * H = (M : Int)) : Calls Tryd.prog 137 #[.agg #[.int .i64 W, .int .i64 H]] w (Gives (.int .i64 (M : Int)) w) := by
  rw [← hM]
  exact implSegs w W H hW hH
set_option maxRecDepth 100000 in
set_option maxHeartbeats 4000000 in
theorem impl_tracedOk (w : World) (W H : Int) (A : Option Addr) (n c : Nat) (f : Nat → Int) (hr : Row .i64 w A n c f) (hT : Cel w 0 [.int .i64 1, .int .i64 1, .int .i64 (-1), .int .i64 1, .int .i64 1, .int .i64 (-1)]) (hv : validB W H n f = true) :
    Calls Tryd.prog 94 #[.agg #[.int .i64 W, .int .i64 H, .slice A n c]] w (TracedOut W H f A n c (4 * W * H).toNat w) := by
  have HL := Lib.hid (show Below w.heap.size w ((w.alloc (.cells #[.int .i64 W, .int .i64 H, .slice A n c] 35)).alloc (.cells #[.int .i64 0, .int .i64 0, .slice none 0 0, .slice none 0 0, .slice none 0 0] 84)) from ((Below.refl _ _).alloc (Nat.le_refl _) _).alloc (by simp) _)
  obtain ⟨hW, hH, -, -⟩ := validB_yes hv
  obtain ⟨m0, m1⟩ := segs_bd hW hH
  obtain ⟨a1, a2⟩ := side_mk hW
  obtain ⟨b1, b2⟩ := side_mk hH
  obtain ⟨M, hM⟩ : ∃ M : Nat, 4 * W * H = (M : Int) := ⟨(4 * W * H).toNat, by omega⟩
  have hM1 : M ≤ 256 := by omega
  rw [show (4 * W * H).toNat = M by omega]
  have HM := Lib.hid hM
  have HR := Lib.hid hr
  have HT := Lib.hid hT
  have HV := Lib.hid hv
  clear hr hT hv hM
  refine (callsIn_wide (n := 6)).1 ?_
  refine callsIn_of_wp_marks Tryd.func94 rfl trivial ?_ rfl
  simp only [Tryd.ntmps94, List.size_toArray, List.length_cons, List.length_nil, Nat.reduceAdd, Nat.reduceSub, Array.replicate_succ, Array.replicate_zero, List.push_toArray, List.append_toArray, List.nil_append, List.cons_append]
  gi_wp2_with fail
  refine ⟨trivial, (callsIn_wide.2 (implOk_is HV.out (HR.out.below HL.out (Nat.le_refl _)))).mono ?_⟩
  rintro e w1 ⟨rfl, b1⟩
  have HP1 := Lib.hid (((At.new w #[.int .i64 W, .int .i64 H, .slice A n c] 35).below ((Below.refl _ _).alloc (Nat.le_refl _) (.cells #[.int .i64 0, .int .i64 0, .slice none 0 0, .slice none 0 0, .slice none 0 0] 84)) (by simp)).below b1 (by simp; omega))
  have HZ1 := Lib.hid ((show At ((w.alloc (.cells #[.int .i64 W, .int .i64 H, .slice A n c] 35)).alloc (.cells #[.int .i64 0, .int .i64 0, .slice none 0 0, .slice none 0 0, .slice none 0 0] 84)) (w.heap.size + 1) #[.int .i64 0, .int .i64 0, .slice none 0 0, .slice none 0 0, .slice none 0 0] 84 from At.newAt (by simp)).below b1 (by simp))
  have HB1 := Lib.hid (HL.out.trans (b1.mono (by first | exact Nat.le_refl _ | (simp; done) | (simp; omega) | omega)))
  have hz1 := b1.size
  simp at hz1
  clear b1 HL
  have k0 : w1.cell? ⟨w.heap.size, 0, none⟩ = some (.int .i64 W) := HP1.out.cellv (i := 0) rfl
  have k1 : w1.cell? ⟨w.heap.size, 1, none⟩ = some (.int .i64 H) := HP1.out.cellv (i := 1) rfl
  have k2 : w1.cell? ⟨w.heap.size, 2, none⟩ = some (.slice A n c) := HP1.out.cellv (i := 2) rfl
  have l0 := HP1.out.lt
  gi_wp2_with fail
  clear k0 k1 k2
  refine ⟨trivial, (callsIn_wide.2 (sizeOf_any w1 W H A n c)).mono ?_⟩
  rintro e w2 ⟨rfl, b2⟩
  have HP2 := Lib.hid (HP1.out.below b2 HP1.out.lt)
  have HZ2 := Lib.hid (HZ1.out.below b2 HZ1.out.lt)
  have HB2 := Lib.hid (HB1.out.trans (b2.mono HB1.out.size))
  have hz2 := b2.size
  clear b2 HP1 HZ1 HB1
  have k0 : w2.cell? ⟨w.heap.size, 0, none⟩ = some (.int .i64 W) := HP2.out.cellv (i := 0) rfl
  have k1 : w2.cell? ⟨w.heap.size, 1, none⟩ = some (.int .i64 H) := HP2.out.cellv (i := 1) rfl
  have k2 : w2.cell? ⟨w.heap.size, 2, none⟩ = some (.slice A n c) := HP2.out.cellv (i := 2) rfl
  have l0 := HP2.out.lt
  gi_wp2_with fail
  clear k0 k1 k2 l0
  have b3 := (Below.refl w2.heap.size w2).alloc (Nat.le_refl _) (.cells #[.int .i64 W, .int .i64 H] 99)
  have HP3 := Lib.hid (HP2.out.below b3 HP2.out.lt)
  have HZ3 := Lib.hid (HZ2.out.below b3 HZ2.out.lt)
  have HB3 := Lib.hid (HB2.out.trans (b3.mono HB2.out.size))
  have HS3 := Lib.hid (At.new w2 #[.int .i64 W, .int .i64 H] 99)
  obtain ⟨b4, hb4⟩ : ∃ b4, w2.heap.size = b4 := ⟨_, rfl⟩
  have z3 : (w2.alloc (.cells #[.int .i64 W, .int .i64 H] 99)).heap.size = b4 + 1 := by simp [hb4]
  have hb41 : w.heap.size + 1 < b4 := by omega
  rw [hb4] at HS3 ⊢
  clear b3 hb4 HP2 HZ2 HB2 hz2
  generalize w2.alloc (.cells #[.int .i64 W, .int .i64 H] 99) = w3 at HP3 HZ3 HB3 HS3 z3 ⊢
  have k0 : w3.cell? ⟨w.heap.size, 0, none⟩ = some (.int .i64 W) := HP3.out.cellv (i := 0) rfl
  have k1 : w3.cell? ⟨w.heap.size, 1, none⟩ = some (.int .i64 H) := HP3.out.cellv (i := 1) rfl
  have k2 : w3.cell? ⟨w.heap.size, 2, none⟩ = some (.slice A n c) := HP3.out.cellv (i := 2) rfl
  have s0 : w3.cell? ⟨b4, 0, none⟩ = some (.int .i64 W) := HS3.out.cellv (i := 0) rfl
  have s1 : w3.cell? ⟨b4, 1, none⟩ = some (.int .i64 H) := HS3.out.cellv (i := 1) rfl
  have l0 : w.heap.size < w3.heap.size := by omega
  have l4 : b4 < w3.heap.size := by omega
  have hmk := run_make_row' (P := Tryd.prog) 29 2 (.int .i64 0) 8 Tryd.underlying29 infoI64 rfl .i64 .i64 M (by omega) (by omega)
  have HMK := Lib.hid hmk
  clear hmk
  gi_cut [5] from 17 (fun s5 wx => ∃ cv b5, s5 = .pointer (some ⟨b5, 0, none⟩) ∧ b4 < cv ∧ b4 < b5 ∧ cv ≠ b5 ∧ At wx b5 #[.int .i64 W, .int .i64 H, .slice A n c, .slice none 0 0, .slice (some ⟨cv, 0, none⟩) M M] 84 ∧ wx.rowIs cv 2 M (fun _ => .int .i64 0) ∧ Below w3.heap.size w3 wx)
  case first =>
    refine wpIn_wide.2 ?_
    refine wp_region_stab [some 17, some 18, some 19, some 20, some 21, some 5, none] [17, 18, 19, 20, 21, 5] [] [(6, 5)]
      [(fun a lo hi v w' => v = .agg #[.int .i64 W, .int .i64 H, .slice A n c]),
        (fun a lo hi v w' => v = .agg #[.int .i64 W, .int .i64 H]),
        (fun a lo hi v w' => v = .int .i64 (M : Int)),
        (fun a lo hi v w' => v = .slice (some ⟨lo, 0, none⟩) M M ∧ hi = lo + 1 ∧ w'.rowIs lo 2 M (fun _ => .int .i64 0)),
        (fun a lo hi v w' => v = .agg #[.int .i64 W, .int .i64 H, .slice A n c, .slice none 0 0, a.getD 0 undef] ∧ ∃ b, a.getD 0 undef = .slice (some ⟨b, 0, none⟩) M M),
        (fun a lo hi v w' => v = .pointer (some ⟨lo, 0, none⟩) ∧ hi = lo + 1 ∧ At w' lo #[.int .i64 0, .int .i64 0, .slice none 0 0, .slice none 0 0, .slice none 0 0] 84),
        (fun a lo hi v w' => a.getD 0 undef = .pointer (some ⟨lo, 0, none⟩) ∧ lo < hi ∧ ∃ X, a.getD 1 undef = .agg #[.int .i64 W, .int .i64 H, .slice A n c, .slice none 0 0, X] ∧ At w' lo #[.int .i64 W, .int .i64 H, .slice A n c, .slice none 0 0, X] 84)]
      [[], [], [1], [2], [0, 3], [], [5, 4]] [[], [], [], [], [20], [], [5, 21]] (by kernel_rfl) (by kernel_rfl) (fun k hk => absurd hk List.not_mem_nil) ?gS ?gO ?gR
    case gS => exact ⟨fun _ _ _ _ _ _ h _ => h, fun _ _ _ _ _ _ h _ => h, fun _ _ _ _ _ _ h _ => h, fun _ _ _ _ _ _ ⟨h1, h2, h3⟩ e => ⟨h1, h2, h3.of_block (e.block _ h3.lt (.inr ⟨Nat.le_refl _, by omega⟩))⟩, fun _ _ _ _ _ _ h _ => h, fun _ _ _ _ _ _ ⟨h1, h2, h3⟩ e => ⟨h1, h2, h3.same e (.inr ⟨Nat.le_refl _, by omega⟩)⟩, fun _ _ _ _ _ _ ⟨h1, h2, h3⟩ e => ⟨h1, h2, let ⟨X, q1, q2⟩ := h3; ⟨X, q1, q2.same e (.inr ⟨Nat.le_refl _, h2⟩)⟩⟩, trivial⟩
    case gO =>
      refine ⟨?o0, ?o1, ?o2, ?o3, ?o4, ?o5, ?o6, trivial⟩
      case o0 =>
        intro vs iv wk hx hf
        have ezz : w.heap.size < wk.heap.size := Nat.lt_of_lt_of_le l0 hx.size
        have e0 : wk.cell? ⟨w.heap.size, 0, none⟩ = some (.int .i64 W) := hx.cell k0 (by simp)
        have e1 : wk.cell? ⟨w.heap.size, 1, none⟩ = some (.int .i64 H) := hx.cell k1 (by simp)
        have e2 : wk.cell? ⟨w.heap.size, 2, none⟩ = some (.slice A n c) := hx.cell k2 (by simp)
        intro K' hK
        simp only [setA, setT, List.setIfInBounds_toArray, List.set_cons_zero, List.set_cons_succ]
        go_simp
        refine hK.out _ (.agg #[.int .i64 W, .int .i64 H, .slice A n c]) _ ?_ ?_
        · simp only [setA, setT, List.setIfInBounds_toArray, List.set_cons_zero, List.set_cons_succ, Act.put]
        · exact ⟨Ext.refl _ _, rfl⟩
      case o1 =>
        intro vs iv wk hx hf
        have ezz : b4 < wk.heap.size := Nat.lt_of_lt_of_le l4 hx.size
        have e0 : wk.cell? ⟨b4, 0, none⟩ = some (.int .i64 W) := hx.cell s0 (by simp)
        have e1 : wk.cell? ⟨b4, 1, none⟩ = some (.int .i64 H) := hx.cell s1 (by simp)
        intro K' hK
        simp only [setA, setT, List.setIfInBounds_toArray, List.set_cons_zero, List.set_cons_succ]
        go_simp
        refine hK.out _ (.agg #[.int .i64 W, .int .i64 H]) _ ?_ ?_
        · simp only [setA, setT, List.setIfInBounds_toArray, List.set_cons_zero, List.set_cons_succ, Act.put]
        · exact ⟨Ext.refl _ _, rfl⟩
      case o2 =>
        intro vs iv wk hx hf
        obtain ⟨⟨hq1, -⟩, -⟩ := hf
        have hq1 : vs 18 = .agg #[.int .i64 W, .int .i64 H] := hq1
        intro K' hK
        simp only [setA, setT, List.setIfInBounds_toArray, List.set_cons_zero, List.set_cons_succ]
        go_simp
        refine (implSegsM _ hW hH HM.out).mono ?_
        rintro e w2 ⟨rfl, b2⟩
        dsimp only
        refine hK.out _ (.int .i64 (M : Int)) _ ?_ ?_
        · simp only [setA, setT, List.setIfInBounds_toArray, List.set_cons_zero, List.set_cons_succ, Act.put, hq1]
        · exact ⟨Ext.of_below b2, rfl⟩
      case o3 =>
        intro vs iv wk hx hf
        obtain ⟨⟨hq2, -⟩, -⟩ := hf
        have hq2 : vs 19 = .int .i64 (M : Int) := hq2
        have hmk := HMK.out
        intro K' hK
        simp only [setA, setT, List.setIfInBounds_toArray, List.set_cons_zero, List.set_cons_succ]
        go_simp
        refine hK.out _ (.slice (some ⟨wk.heap.size, 0, none⟩) M M) _ ?_ ?_
        · simp only [setA, setT, List.setIfInBounds_toArray, List.set_cons_zero, List.set_cons_succ, Act.put, hq2]
        · exact ⟨Ext.alloc _ _, rfl, by simp, World.rowIs_made _ _ _ _⟩
      case o4 =>
        intro vs iv wk hx hf
        obtain ⟨⟨hq0, -⟩, ⟨⟨hq3, -, -⟩, -⟩, -⟩ := hf
        have hq0 : vs 17 = .agg #[.int .i64 W, .int .i64 H, .slice A n c] := hq0
        have hq3 : vs 20 = .slice (some ⟨(iv 3).1, 0, none⟩) M M := hq3
        intro K' hK
        simp only [setA, setT, List.setIfInBounds_toArray, List.set_cons_zero, List.set_cons_succ]
        go_simp
        refine hK.out _ (.agg #[.int .i64 W, .int .i64 H, .slice A n c, .slice none 0 0, vs 20]) _ ?_ ?_
        · simp only [setA, setT, List.setIfInBounds_toArray, List.set_cons_zero, List.set_cons_succ, Act.put, hq0, hq3]
        · exact ⟨Ext.refl _ _, rfl, _, hq3⟩
      case o5 =>
        intro vs iv wk hx hf
        intro K' hK
        simp only [setA, setT, List.setIfInBounds_toArray, List.set_cons_zero, List.set_cons_succ]
        go_simp
        refine hK.out _ (.pointer (some ⟨wk.heap.size, 0, none⟩)) _ ?_ ?_
        · simp only [setA, setT, List.setIfInBounds_toArray, List.set_cons_zero, List.set_cons_succ, Act.put]
        · exact ⟨Ext.alloc _ _, rfl, by simp, At.new _ _ _⟩
      case o6 =>
        intro vs iv wk hx hf
        obtain ⟨⟨⟨h5, hhi, hA5⟩, -⟩, ⟨⟨hq4, bq, hbq⟩, -⟩, -⟩ := hf
        have h5 : vs 5 = .pointer (some ⟨(iv 5).1, 0, none⟩) := h5
        have hbq : vs 20 = .slice (some ⟨bq, 0, none⟩) M M := hbq
        have hq4 : vs 21 = .agg #[.int .i64 W, .int .i64 H, .slice A n c, .slice none 0 0, vs 20] := hq4
        rw [hbq] at hq4
        have hA5 : At wk (iv 5).1 #[.int .i64 0, .int .i64 0, .slice none 0 0, .slice none 0 0, .slice none 0 0] 84 := hA5
        have hhi : (iv 5).2 = (iv 5).1 + 1 := hhi
        have q0 := hA5.cell 0
        have f0 := hA5.frozen 0
        have q1 := hA5.cell 1
        have f1 := hA5.frozen 1
        have q2 := hA5.cell 2
        have f2 := hA5.frozen 2
        have q3 := hA5.cell 3
        have f3 := hA5.frozen 3
        have q4 := hA5.cell 4
        have f4 := hA5.frozen 4
        simp only [List.getElem?_toArray, List.getElem?_cons_zero, List.getElem?_cons_succ] at q0 q1 q2 q3 q4
        have hlt5 : (iv 5).1 < (iv 5).2 := by omega
        have HA5 := Lib.hid hA5
        clear hA5 hhi
        have HLT := Lib.hid hlt5
        clear hlt5
        intro K' hK
        simp only [setA, setT, List.setIfInBounds_toArray, List.set_cons_zero, List.set_cons_succ]
        go_simp
        refine hK.out _ (undef) _ ?_ ?_
        · simp only [setA, setT, List.setIfInBounds_toArray, List.set_cons_zero, List.set_cons_succ, Act.put, h5, hq4, hbq]
        · exact ⟨HLT.out, (((((Ext.set _ _ _ (by simp)).trans (Ext.set _ _ _ (by simp))).trans (Ext.set _ _ _ (by simp))).trans (Ext.set _ _ _ (by simp))).trans (Ext.set _ _ _ (by simp))), h5, HLT.out, _, hq4, (((((HA5.out.set 0 _).set 1 _).set 2 _).set 3 _).set 4 _)⟩
    case gR =>
      intro vs iv w5x hx hap hf
      obtain ⟨-, -, -, ⟨⟨hv3, hi3, hR3⟩, hz3⟩, ⟨⟨hv4, -⟩, -⟩, -, ⟨⟨h5, hl5, X5, hX5, hA5⟩, hz5⟩, -⟩ := hf
      have hv3 : vs 20 = .slice (some ⟨(iv 3).1, 0, none⟩) M M := hv3
      have h5 : vs 5 = .pointer (some ⟨(iv 5).1, 0, none⟩) := h5
      have hv4 : vs 21 = .agg #[.int .i64 W, .int .i64 H, .slice A n c, .slice none 0 0, vs 20] := hv4
      have hX5 : vs 21 = .agg #[.int .i64 W, .int .i64 H, .slice A n c, .slice none 0 0, X5] := hX5
      have eX : X5 = vs 20 := by rw [hX5] at hv4; simpa using hv4
      have hA5 : At w5x (iv 5).1 #[.int .i64 W, .int .i64 H, .slice A n c, .slice none 0 0, X5] 84 := hA5
      rw [eX, hv3] at hA5
      have hR3 : w5x.rowIs (iv 3).1 2 M (fun _ => .int .i64 0) := hR3
      have ha := hap 3 5 (by decide) (by decide) (by decide) rfl rfl
      have hz3' : w3.heap.size ≤ (iv 3).1 := hz3.1
      have hz5' : w3.heap.size ≤ (iv 5).1 := hz5.1
      have hi3' : (iv 3).2 = (iv 3).1 + 1 := hi3
      have hl5' : (iv 5).1 < (iv 5).2 := hl5
      have hne : (iv 3).1 ≠ (iv 5).1 := by omega
      simp only [setA, setT, List.setIfInBounds_toArray, List.set_cons_zero, List.set_cons_succ, hv3, h5]
      refine ‹∀ a' w', Met _ a' w' → _› _ _ ?_
      refine Met.intro ?_
      refine ‹∀ a' w', _ → _› _ _ ?_
      (repeat apply Exists.intro)
      refine ⟨?_, rfl⟩
      exact ⟨(iv 3).1, (iv 5).1, rfl, by omega, by omega, hne, hA5, hR3, ((Ext.drew _).trans hx).nil⟩
  case rest =>
    obtain ⟨cv, b5, rfl, hcv, hb5, hcb, h5, hR5, hB5⟩ := hcut
    have H5a := Lib.hid h5
    have HCa := Lib.hid hR5
    have HPa := Lib.hid (HP3.out.below hB5 l0)
    have HZa := Lib.hid (HZ3.out.below hB5 HZ3.out.lt)
    have HSa := Lib.hid (HS3.out.below hB5 l4)
    have HBa := Lib.hid (HB3.out.trans (hB5.mono HB3.out.size))
    clear h5 hR5 hB5 k0 k1 k2 s0 s1 l0 l4 z3 HP3 HZ3 HB3 HS3 HMK
    have hmm := @run_makeMap Tryd.prog
    have l5 := H5a.out.lt
    have lc := HCa.out.lt
    have lB := HBa.out.size
    have s0 : wc.cell? ⟨b4, 0, none⟩ = some (.int .i64 W) := HSa.out.cellv (i := 0) rfl
    have s1 : wc.cell? ⟨b4, 1, none⟩ = some (.int .i64 H) := HSa.out.cellv (i := 1) rfl
    have l4 := HSa.out.lt
    gi_wp2_with fail
    have HTa : Hid (TrAt W H f A n c w b4 b5 (wc.heap.size + 1) cv wc.heap.size M 0 (.slice none 0 0) ((wc.alloc (.map #[] 0)).alloc (.cells #[.map (some wc.heap.size)] 153))) := by
      have bm := (Below.refl wc.heap.size wc).alloc (Nat.le_refl _) (.map #[] 0)
      have bn := (Below.refl (wc.alloc (.map #[] 0)).heap.size (wc.alloc (.map #[] 0))).alloc (Nat.le_refl _) (.cells #[.map (some wc.heap.size)] 153)
      have hz : (wc.alloc (.map #[] 0)).heap.size = wc.heap.size + 1 := by simp
      have bb := bm.trans (bn.mono (by omega))
      exact Lib.hid ⟨HPa.out.below bb HPa.out.lt, HZa.out.below bb HZa.out.lt, HSa.out.below bb HSa.out.lt, H5a.out.below bb H5a.out.lt, At.newAt hz, (rowIs_below HCa.out bb HCa.out.lt).congr (fun i hi => by simp [posF, trs]), ⟨0, by omega, ((SetIs.new wc).below bn (by omega)).congr (fun i => by simp [hasF, trs])⟩, ⟨rfl, .inl ⟨rfl, rfl⟩⟩, fun g e => by simp [Value.ownBlock] at e, HBa.out.trans (bb.mono HBa.out.size)⟩
    refine ⟨trivial, (callsIn_wide.2 (implSegsM _ hW hH HM.out)).mono ?_⟩
    rintro e wd ⟨rfl, bd⟩
    have HTd := Lib.hid (HTa.out.b bd)
    have hzd := bd.size
    simp at hzd
    have hbr : w.heap.size + 1 < wc.heap.size := HZa.out.lt
    clear bd HTa H5a HCa HPa HZa HSa HBa hmm s0 s1 hz1
    obtain ⟨mb, hmb⟩ : ∃ mb, wc.heap.size = mb := ⟨_, rfl⟩
    rw [hmb] at HTd l5 lc lB l4 hzd hbr ⊢
    obtain ⟨b6, hb6⟩ : ∃ b6, mb + 1 = b6 := ⟨_, rfl⟩
    rw [hb6] at HTd hzd ⊢
    clear hmb
    gi_wp2
    refine wpIn_loop_ghost_k (fun g a wr => ∃ t7 t8 t9 t10 t11 t12 t13 t14 t15 t16 t17 t18 t19 t20 t21 t22 t23 t26 t27 t28 t29 t30 t31 t32 t33 t34 t35 t36 t37 t38 t39 t40 t41 t42 t43 t44 t45 t46 t47 t48 t49 t50 t51 t52 t53 t54 t55 t56 t57 t25 ds, (∃ (k : Nat) (u : Value), k + g = M ∧ t25 = .int .i64 (k : Int) ∧ Hid (TrAt W H f A n c w b4 b5 b6 cv mb M k u wr) ∧ Hid (Marks w.heap.size ds wr)) ∧ a = { tmps := #[.agg #[.int .i64 W, .int .i64 H, .slice A n c], .pointer (some ⟨w.heap.size, 0, none⟩), .pointer (some ⟨w.heap.size + 1, 0, none⟩), .int .i64 0, .pointer (some ⟨b4, 0, none⟩), .pointer (some ⟨b5, 0, none⟩), .pointer (some ⟨b6, 0, none⟩), t7, t8, t9, t10, t11, t12, t13, t14, t15, t16, t17, t18, t19, t20, t21, t22, t23, .int .i64 (M : Int), t25, t26, t27, t28, t29, t30, t31, t32, t33, t34, t35, t36, t37, t38, t39, t40, t41, t42, t43, t44, t45, t46, t47, t48, t49, t50, t51, t52, t53, t54, t55, t56, t57], defers := ds }) M ?start ?round
    case start =>
      (repeat apply Exists.intro)
      refine ⟨?_, rfl⟩
      exact ⟨0, .slice none 0 0, by omega, rfl, HTd, Lib.hid ⟨List.nodup_nil, fun d hd => by cases hd⟩⟩
    case round =>
      rintro g a wr ⟨t7, t8, t9, t10, t11, t12, t13, t14, t15, t16, t17, t18, t19, t20, t21, t22, t23, t26, t27, t28, t29, t30, t31, t32, t33, t34, t35, t36, t37, t38, t39, t40, t41, t42, t43, t44, t45, t46, t47, t48, t49, t50, t51, t52, t53, t54, t55, t56, t57, t25, ds, ⟨k, u, hkg, rfl, HTk, HMk⟩, rfl⟩ J K hJ hK
      clear HTd
      by_cases hlt : k < M
      · obtain ⟨nk, hnk, hS⟩ := HTk.out.set
        have hS' := set_has wr mb nk _ hS k (WalkArith.wf_i64 (by omega))
        have k60 : wr.cell? ⟨b6, 0, none⟩ = some (.map (some mb)) := HTk.out.mbx.cellv (i := 0) rfl
        have l6 := HTk.out.mbx.lt
        have HS := Lib.hid hS
        clear hS
        gi_wp2_with fail
        cases hof : hasF (trs W H f k).of k
        · rw [hof] at hS'
          refine ⟨trivial, (callsIn_wide.2 hS').mono ?_⟩
          rintro e wx ⟨rfl, rfl⟩
          have HOF := Lib.hid (show (trs W H f k).of k < 0 by simpa [hasF] using hof)
          clear hof hS' k60
          have s0 : wr.cell? ⟨b4, 0, none⟩ = some (.int .i64 W) := HTk.out.siz.cellv (i := 0) rfl
          have s1 : wr.cell? ⟨b4, 1, none⟩ = some (.int .i64 H) := HTk.out.siz.cellv (i := 1) rfl
          have l4' := HTk.out.siz.lt
          gi_wp2_with fail
          refine ⟨trivial, (callsIn_wide.2 (implWalker wr W H k hH (by omega) (by omega))).mono ?_⟩
          rintro e w5 ⟨rfl, b5'⟩
          have HT5 := Lib.hid (HTk.out.b b5')
          have HM5 := Lib.hid (HMk.out.below b5')
          clear b5' s0 s1 l4' l6 HTk HMk HS
          have k0 : w5.cell? ⟨w.heap.size, 0, none⟩ = some (.int .i64 W) := HT5.out.pan.cellv (i := 0) rfl
          have k1 : w5.cell? ⟨w.heap.size, 1, none⟩ = some (.int .i64 H) := HT5.out.pan.cellv (i := 1) rfl
          have k2 : w5.cell? ⟨w.heap.size, 2, none⟩ = some (.slice A n c) := HT5.out.pan.cellv (i := 2) rfl
          have l0' := HT5.out.pan.lt
          gi_wp2_with fail
          have b6' := (Below.refl w5.heap.size w5).alloc (Nat.le_refl _) (.cells #[.int .i64 (wtX H k), .int .i64 (wtY H k), .int .i64 1, .int .i64 (wtD H k)] 131)
          have HT6 := Lib.hid (HT5.out.b b6')
          have HM6 := Lib.hid (HM5.out.below b6')
          have H86 := Lib.hid (At.new w5 #[.int .i64 (wtX H k), .int .i64 (wtY H k), .int .i64 1, .int .i64 (wtD H k)] 131)
          have z6 : (w5.alloc (.cells #[.int .i64 (wtX H k), .int .i64 (wtY H k), .int .i64 1, .int .i64 (wtD H k)] 131)).heap.size = w5.heap.size + 1 := by simp
          have lb6 := HT5.out.mbx.lt
          have lb4 := HT5.out.siz.lt
          have lb5 := HT5.out.trc.lt
          have lcv := HT5.out.cur.lt
          have lmb : mb < w5.heap.size := by obtain ⟨q, -, hq⟩ := HT5.out.set; exact hq.lt
          have hub : Hid (∀ g, u.ownBlock = some g → g < w5.heap.size) := Lib.hid (fun g e => (HT5.out.sts.lt g e).2)
          obtain ⟨b8, hb8⟩ : ∃ b8, w5.heap.size = b8 := ⟨_, rfl⟩
          rw [hb8] at H86 z6 lb6 lb4 lb5 lcv lmb hub l0' ⊢
          clear b6' hb8 HT5 HM5 k0 k1 k2
          generalize w5.alloc (.cells #[.int .i64 (wtX H k), .int .i64 (wtY H k), .int .i64 1, .int .i64 (wtD H k)] 131) = w6 at HT6 HM6 H86 z6 ⊢
          refine ⟨trivial, (callsIn_wide.2 (impl_round w6 W H A n c (wtX H k) (wtY H k) 1 (wtD H k))).mono ?_⟩
          rintro e w7 ⟨rfl, hP7, hW7, b7, z7⟩
          have HT7 := Lib.hid (HT6.out.b b7)
          have HM7 := Lib.hid (HM6.out.below b7)
          have H87 := Lib.hid (H86.out.below b7 H86.out.lt)
          rw [z6] at hP7 hW7 z7 ⊢
          have HP7 := Lib.hid hP7
          have HW7 := Lib.hid hW7
          clear b7 hP7 hW7 HT6 HM6 H86
          gi_wp2
          obtain ⟨N, hNe⟩ : ∃ N, per W H f (wkr H k) = N := ⟨_, rfl⟩
          have hwk := wkr_ok HV.out (k := k) (by rw [HM.out]; omega)
          have HOK := Lib.hid hwk.1
          have hN := per_is hwk.1
          rw [hNe] at hN
          have HNP := Lib.hid hN
          have hN1 : N ≤ 1156 := hN.2.1
          have HNe := Lib.hid hNe
          clear hNe hwk hN
          have HB7 := Lib.hid HT7.out.bel
          have hit : IterY Fence.wide 5 Tryd.prog 173 #[.pointer (some ⟨b8 + 1 + 1 + 1, 0, none⟩), .pointer (some ⟨b8 + 1 + 1 + 1 + 1, 0, none⟩)] (fun j => #[wagg (stps W H f j (wkr H k))]) N w.heap.size [b8 + 1 + 1 + 1, b8 + 1 + 1 + 1 + 1] w7 :=
            round_iter 5 (by omega) w w7 W H A n c f (wtX H k) (wtY H k) 1 (wtD H k) _ _ HR.out HT.out HOK.out N HNP.out HB7.out HW7.out HP7.out
          obtain ⟨nq, hnq, hSq⟩ := HT7.out.set
          have hle : w.heap.size ≤ w7.heap.size := HB7.out.size
          have hz7 : w7.heap.size = b8 + 1 + 1 + 1 + 1 + 1 := z7
          refine wpIn_rangeY rfl (by omega) (gf := 173) (lb := #[.pointer (some ⟨b8 + 1 + 1 + 1, 0, none⟩), .pointer (some ⟨b8 + 1 + 1 + 1 + 1, 0, none⟩)]) rfl trivial (enters_of Tryd.func173 (by kernel_rfl) rfl) hit hle (by simp; omega) (Below.refl _ _) (fun _ => rfl)
            (fun X j A => X = [cv, mb] ∧ RI w7 cv mb M nq (mkd W H f (wkr H k) (trs W H f k).cnt (trs W H f k).of) w j A) (fun _ _ _ => False) (holds_ri (by omega) (by omega) hle) (fun _ => holds_no _) [cv, mb] (by simp; omega)
            ⟨rfl, Nat.le_refl _, fun _ _ _ _ => rfl, HT7.out.cur, ⟨nq, Nat.le_refl _, hSq⟩, HB7.out⟩
            (fun j a' X => ∃ p9, a' = { tmps := #[.agg #[.int .i64 W, .int .i64 H, .slice A n c], .pointer (some ⟨w.heap.size, 0, none⟩), .pointer (some ⟨w.heap.size + 1, 0, none⟩), .int .i64 0, .pointer (some ⟨b4, 0, none⟩), .pointer (some ⟨b5, 0, none⟩), .pointer (some ⟨b6, 0, none⟩), .int .i64 k, .pointer (some ⟨b8, 0, none⟩), .pointer (some ⟨p9, 0, none⟩), t10, t11, t12, t13, t14, t15, t16, t17, t18, t19, t20, t21, t22, t23, .int .i64 (M : Int), .int .i64 k, .bool true, .int .i64 k, .map (some mb), .int .i64 k, .bool false, .agg #[.int .i64 W, .int .i64 H], .int .i64 k, .agg #[.int .i64 (wtX H k), .int .i64 (wtY H k), .int .i64 1, .int .i64 (wtD H k)], .agg #[.int .i64 W, .int .i64 H, .slice A n c], .agg #[.int .i64 (wtX H k), .int .i64 (wtY H k), .int .i64 1, .int .i64 (wtD H k)], .func (.func 173) #[] #[.pointer (some ⟨b8 + 1 + 1 + 1, 0, none⟩), .pointer (some ⟨b8 + 1 + 1 + 1 + 1, 0, none⟩)], wagg (stps W H f j (wkr H k)), t38, t39, t40, t41, t42, t43, t44, t45, t46, t47, t48, t49, t50, t51, t52, t53, t54, t55, t56, t57], defers := [] } ∧ At X p9 (cs4 (stps W H f j (wkr H k))).toArray 131)
            (fun k a' X l o' h ho => by obtain ⟨p9, e, ha⟩ := h; exact ⟨p9, e, at_put ha ho⟩) ?assign ?body ?done ?stop
          case assign =>
            intro l j X Aw K hj hX hi hK
            clear hit
            dsimp only [wagg]
            obtain ⟨v, hv⟩ : ∃ v, v = stps W H f j (wkr H k) := ⟨_, rfl⟩
            rw [← hv] at hK ⊢
            have HVv := Lib.hid hv
            clear hv
            gi_wp2
            exact hK _ _ ((Below.refl _ _).alloc (Nat.le_refl _) _) ⟨_, rfl, At.new _ _ _⟩
          case body =>
            rintro l j X a' Aw hj hX hXb ⟨rfl, hI⟩ ⟨p9, rfl, h9⟩
            clear hit
            have HI := Lib.hid hI
            have H9 := Lib.hid h9
            obtain ⟨v, hv⟩ : ∃ v, v = stps W H f j (wkr H k) := ⟨_, rfl⟩
            have hok := stps_ok HOK.out j
            rw [← hv] at H9 hok ⊢
            obtain ⟨-, -, x1, x2, y1, y2, g1, g2⟩ := goW hok
            obtain ⟨h4, x3, -, y3, -⟩ := goNext hok
            obtain ⟨r1, r2, -⟩ := sg_rng hok
            have HVv := Lib.hid hv
            clear hv hI h9
            have hsz := HI.out.sz
            have q0 : Aw.cell? ⟨p9, 0, none⟩ = some (.int .i64 v.1) := H9.out.cellv (i := 0) rfl
            have q1 : Aw.cell? ⟨p9, 1, none⟩ = some (.int .i64 v.2.1) := H9.out.cellv (i := 1) rfl
            have q2 : Aw.cell? ⟨p9, 2, none⟩ = some (.int .i64 v.2.2.1) := H9.out.cellv (i := 2) rfl
            have q3 : Aw.cell? ⟨p9, 3, none⟩ = some (.int .i64 v.2.2.2) := H9.out.cellv (i := 3) rfl
            have l9 := H9.out.lt
            have HS4 := Lib.hid (HT7.out.siz.of_block (HI.out.old b4 (by omega) (by omega) (by omega)))
            have s0 : Aw.cell? ⟨b4, 0, none⟩ = some (.int .i64 W) := HS4.out.cellv (i := 0) rfl
            have s1 : Aw.cell? ⟨b4, 1, none⟩ = some (.int .i64 H) := HS4.out.cellv (i := 1) rfl
            have l4' := HS4.out.lt
            gi_wp2_with fail
            refine ⟨trivial, (CallsIn.inRound l (callsIn_wide.2 (implSeg Aw W H v.1 v.2.1 v.2.2.1 v.2.2.2 hH x1 x2 y1 y2 x3 y3 g1 g2))).mono ?_⟩
            rintro e A1 ⟨rfl, c1⟩
            have HI1 := Lib.hid (HI.out.b c1)
            have HE1 := Lib.hid (Ext.of_below (X := [cv, mb]) c1)
            have l91 : p9 < A1.heap.size := Nat.lt_of_lt_of_le l9 c1.size
            clear c1 HI H9 HS4 q0 q1 q2 q3 l9 s0 s1 l4' hsz
            obtain ⟨s, hs⟩ : ∃ s : Nat, segOf H v.1 v.2.1 v.2.2.1 v.2.2.2 = (s : Int) := ⟨(sg H v).toNat, by show sg H v = _; omega⟩
            have hsM : s < M := by have : sg H v = (s : Int) := hs; rw [HM.out] at r2; omega
            have HSG := Lib.hid (show (sg H v).toNat = s by have : sg H v = (s : Int) := hs; omega)
            rw [hs]
            clear r1 r2 hs
            have HB6 := Lib.hid (HT7.out.mbx.of_block (HI1.out.old b6 (by omega) (by omega) (by omega)))
            have k60 : A1.cell? ⟨b6, 0, none⟩ = some (.map (some mb)) := HB6.out.cellv (i := 0) rfl
            have l6' := HB6.out.lt
            obtain ⟨q, hq, hSj⟩ := HI1.out.set
            have HSj := Lib.hid hSj
            clear hSj
            gi_wp2_with fail
            refine ⟨trivial, (CallsIn.inRound l (callsIn_wide.2 (set_add A1 mb q _ HSj.out s (WalkArith.wf_i64 (by omega)) (by unfold maxLen; omega)))).mono ?_⟩
            rintro e A2 ⟨⟨v', rfl⟩, hS2, hg2⟩
            have HS2 := Lib.hid hS2
            have HG2 := Lib.hid hg2
            clear hS2 hg2 k60
            have H52 := Lib.hid ((HT7.out.trc.of_block (HI1.out.old b5 (by omega) (by omega) (by omega))).grown HG2.out (by simp; omega))
            have HC2 := Lib.hid (HI1.out.cur.of_block (HG2.out.block cv HI1.out.cur.lt (by simp; omega)))
            obtain ⟨Au, cu, rfl⟩ := owns_slice HT7.out.sts
            have k50 : A2.cell? ⟨b5, 0, none⟩ = some (.int .i64 W) := H52.out.cellv (i := 0) rfl
            have k51 : A2.cell? ⟨b5, 1, none⟩ = some (.int .i64 H) := H52.out.cellv (i := 1) rfl
            have k52 : A2.cell? ⟨b5, 2, none⟩ = some (.slice A n c) := H52.out.cellv (i := 2) rfl
            have k53 : A2.cell? ⟨b5, 3, none⟩ = some (.slice Au (trs W H f k).cnt cu) := H52.out.cellv (i := 3) rfl
            have k54 : A2.cell? ⟨b5, 4, none⟩ = some (.slice (some ⟨cv, 0, none⟩) M M) := H52.out.cellv (i := 4) rfl
            have l52 := H52.out.lt
            have lc2 := HC2.out.lt
            have c2v := HC2.out.cell hsM
            have f2v := HC2.out.frozen s
            have hcw : w.heap.size ≤ cv := by omega
            have hmw : w.heap.size ≤ mb := by omega
            have hcn : (trs W H f k).cnt ≤ k := (trs_of_ge W H f k 0).2.2
            have hcm : (trs W H f k).cnt ≤ maxLen := by unfold maxLen; omega
            gi_wp2_with fail
            gi_region_with (refine ⟨trivial, ?_⟩; gi_at_call 141; refine (CallsIn.inRound l (callsIn_wide.2 (impl_count _ W H A Au (some ⟨cv, 0, none⟩) n c (trs W H f k).cnt cu M M hcm))).mono ?_; rintro e A3 ⟨rfl, c3⟩; have HD3 : Hid (Below A2.heap.size A2 A3) := Lib.hid ((Below.refl _ _).drew.trans c3); clear c3; have k54 : A3.cell? ⟨b5, 4, none⟩ = some (.slice (some ⟨cv, 0, none⟩) M M) := (H52.out.below HD3.out l52).cellv (i := 4) rfl; have l53 := (H52.out.below HD3.out l52).lt; have c3v := (rowIs_below HC2.out HD3.out lc2).cell hsM; have f3v := (rowIs_below HC2.out HD3.out lc2).frozen s; have lc3 := (rowIs_below HC2.out HD3.out lc2).lt)
            all_goals
              gi_wp2
              refine ⟨[cv, mb], ⟨rfl, RI.next HI1.out (by omega) (by omega) (fun s' => by rw [mkd_succ, ← HVv.out, HSG.out]) hq HS2.out HG2.out HD3.out hmw hcw⟩, ((HE1.out.trans (ext_grown HG2.out (by simp))).trans (Ext.of_below HD3.out)).trans (Ext.set _ _ _ (by simp)), ?_⟩
              intro b hb
              refine ⟨.inl hb, ?_⟩
              have z4 := HD3.out.size
              have z5 := HG2.out.size
              have z6 := HI1.out.sz
              simp at hb
              simp [World.setCell]
              omega
          case done =>
            rintro D X WN hD hX ⟨rfl, hI⟩ hKD
            clear hit
            have HI := Lib.hid hI
            have HKD := Lib.hid hKD
            clear hI hKD hX
            obtain ⟨Au, cu, rfl⟩ := owns_slice HT7.out.sts
            have hun := HT7.out.uap
            have hub' := hub.out
            have H58 := Lib.hid (HT7.out.trc.of_block (HI.out.old b5 (by omega) (by omega) (by omega)))
            have H88 := Lib.hid (H87.out.of_block (HI.out.old b8 (by omega) (by omega) (by omega)))
            have HU8 := Lib.hid (owns_blocks HT7.out.sts (fun g e => HI.out.old g (by have := hub' g e; omega) (hun g e).2.2.2.2.2.1 (hun g e).2.2.2.2.2.2))
            clear hun hub'
            have k50 : WN.cell? ⟨b5, 3, none⟩ = some (.slice Au (trs W H f k).cnt cu) := H58.out.cellv (i := 3) rfl
            have q0 : WN.cell? ⟨b8, 0, none⟩ = some (.int .i64 (wtX H k)) := H88.out.cellv (i := 0) rfl
            have q1 : WN.cell? ⟨b8, 1, none⟩ = some (.int .i64 (wtY H k)) := H88.out.cellv (i := 1) rfl
            have q2 : WN.cell? ⟨b8, 2, none⟩ = some (.int .i64 1) := H88.out.cellv (i := 2) rfl
            have q3 : WN.cell? ⟨b8, 3, none⟩ = some (.int .i64 (wtD H k)) := H88.out.cellv (i := 3) rfl
            have l5' := H58.out.lt
            have l8' := H88.out.lt
            have hWN := HI.out.bel.size
            have hcn : (trs W H f k).cnt ≤ k := (trs_of_ge W H f k 0).2.2
            obtain ⟨i0, hi, hz0, hz1, hz2⟩ := info_parts infoWk
            have hXa := Lib.hid ((Below.refl WN.heap.size WN).alloc (Nat.le_refl _) (.cells #[.int .i64 (wtX H k), .int .i64 (wtY H k), .int .i64 1, .int .i64 (wtD H k)] 131))
            have hsz : (WN.alloc (.cells #[.int .i64 (wtX H k), .int .i64 (wtY H k), .int .i64 1, .int .i64 (wtD H k)] 131)).heap.size = WN.heap.size + 1 := by simp
            have HLay := Lib.hid (show Lay w.heap.size b4 b5 b6 cv mb from ⟨hb41, hcv, hb5, hcb, lc, l5, by omega⟩)
            have HGN := Lib.hid (show ∀ s, mkd W H f (wkr H k) (trs W H f k).cnt (trs W H f k).of N s = (trs W H f (k + 1)).of s from fun s => by rw [trs_no HOF.out, HNe.out])
            gi_wp2_with (first
              | (gi_at_builtin; refine wpListIn_append_lies _ (by rfl) _ _ _ (by rfl) w.heap.size 131 i0 _ 4 32 Tryd.underlying82 hi hz0 hz1 hz2 rfl (by omega) _ (trs W H f k).cnt (ivs (stl W H f k)) (by rfl) (owns_belowS HU8.out hXa.out) ⟨WN.heap.size, 0, none⟩ 1 1 (ivs [wtX H k, wtY H k, 1, wtD H k]) (by rfl) (by rfl) (World.news_of_block (cs := #[.int .i64 (wtX H k), .int .i64 (wtY H k), .int .i64 1, .int .i64 (wtD H k)]) (t := 131) (fr := (0, 0)) (heap_alloc_new WN _)) (ivs_any _) (by omega) (by unfold maxLen; omega) (by omega) (by simp; omega) (WN.heap.size + 1) (by simp) ?_; intro g6 cap6 w9 hown6 hgrow6 hat6 hlt6; have HTN := Lib.hid (TrAt.next HT7.out HLay.out HI.out HOF.out HGN.out (by omega) hXa.out hown6 hgrow6 hat6 hsz); have HMN := Lib.hid (TrAt.marks HT7.out HLay.out HI.out hXa.out hgrow6 HM7.out hD HKD.out (.slice (some ⟨g6, 0, none⟩) ((trs W H f k).cnt + 1) cap6)); have H59 := Lib.hid ((H58.out.below hXa.out l5').grown hgrow6 (fun e => (HT7.out.uap b5 e.symm).2.2.2.1 rfl)); have k53 : w9.cell? ⟨b5, 3, none⟩ = some (.slice Au (trs W H f k).cnt cu) := H59.out.cellv (i := 3) rfl; have f53 := H59.out.frozen 3; have l59 := H59.out.lt; clear hown6 hgrow6 hat6))
            gi_roundg (g - 1)
            case measure => omega
            case rel => exact ⟨k + 1, _, by omega, by go_num, HTN, HMN⟩
          case stop =>
            rintro D t k X hD hk h _
            exact h.elim
        · rw [hof] at hS'
          refine ⟨trivial, (callsIn_wide.2 hS').mono ?_⟩
          rintro e wx ⟨rfl, rfl⟩
          have hof' : 0 ≤ (trs W H f k).of k := by simpa [hasF] using hof
          have HTn := Lib.hid (HTk.out.skip hof')
          clear hof hS' hof' HTk HS k60
          gi_wp2
          gi_roundg (g - 1)
          case measure => omega
          case rel => exact ⟨k + 1, u, by omega, by go_num, HTn, HMk⟩
      · have ek : k = M := by omega
        subst ek
        obtain ⟨Au, cu, rfl⟩ := owns_slice HTk.out.sts
        have H5k := Lib.hid HTk.out.trc
        have HRk := Lib.hid HTk.out.res
        have hbs := HTk.out.bel.size
        have hsp := HTk.out.uap
        have HUk := Lib.hid (owns_set (owns_set (owns_set (owns_set (owns_set HTk.out.sts (a := ⟨w.heap.size + 1, 0, none⟩) (fun e => (hsp _ e).2.1 rfl) (.int .i64 W)) (a := ⟨w.heap.size + 1, 1, none⟩) (fun e => (hsp _ e).2.1 rfl) (.int .i64 H)) (a := ⟨w.heap.size + 1, 2, none⟩) (fun e => (hsp _ e).2.1 rfl) (.slice A n c)) (a := ⟨w.heap.size + 1, 3, none⟩) (fun e => (hsp _ e).2.1 rfl) (.slice Au (trs W H f k).cnt cu)) (a := ⟨w.heap.size + 1, 4, none⟩) (fun e => (hsp _ e).2.1 rfl) (.slice (some ⟨cv, 0, none⟩) k k))
        have hne : cv ≠ w.heap.size + 1 := by omega
        have HCk := Lib.hid (((((HTk.out.cur.setOther (a := ⟨w.heap.size + 1, 0, none⟩) hne (.int .i64 W)).setOther (a := ⟨w.heap.size + 1, 1, none⟩) hne (.int .i64 H)).setOther (a := ⟨w.heap.size + 1, 2, none⟩) hne (.slice A n c)).setOther (a := ⟨w.heap.size + 1, 3, none⟩) hne (.slice Au (trs W H f k).cnt cu)).setOther (a := ⟨w.heap.size + 1, 4, none⟩) hne (.slice (some ⟨cv, 0, none⟩) k k))
        have hle : w.heap.size ≤ w.heap.size + 1 := Nat.le_succ _
        have HBk := Lib.hid (((((HTk.out.bel.setCell (p := ⟨w.heap.size + 1, 0, none⟩) hle (.int .i64 W)).setCell (p := ⟨w.heap.size + 1, 1, none⟩) hle (.int .i64 H)).setCell (p := ⟨w.heap.size + 1, 2, none⟩) hle (.slice A n c)).setCell (p := ⟨w.heap.size + 1, 3, none⟩) hle (.slice Au (trs W H f k).cnt cu)).setCell (p := ⟨w.heap.size + 1, 4, none⟩) hle (.slice (some ⟨cv, 0, none⟩) k k))
        have HSk := Lib.hid (((((HRk.out.set 0 (.int .i64 W)).set 1 (.int .i64 H)).set 2 (.slice A n c)).set 3 (.slice Au (trs W H f k).cnt cu)).set 4 (.slice (some ⟨cv, 0, none⟩) k k))
        have HMs := Lib.hid (HMk.out.heap (w' := ((((wr.setCell ⟨w.heap.size + 1, 0, none⟩ (.int .i64 W)).setCell ⟨w.heap.size + 1, 1, none⟩ (.int .i64 H)).setCell ⟨w.heap.size + 1, 2, none⟩ (.slice A n c)).setCell ⟨w.heap.size + 1, 3, none⟩ (.slice Au (trs W H f k).cnt cu)).setCell ⟨w.heap.size + 1, 4, none⟩ (.slice (some ⟨cv, 0, none⟩) k k)) (fun D _ hd => by
          have hn : D ≠ w.heap.size + 1 := dn_cells hd HRk.out
          rw [Below.heap_setCell _ _ _ _ (by simpa using hn), Below.heap_setCell _ _ _ _ (by simpa using hn), Below.heap_setCell _ _ _ _ (by simpa using hn), Below.heap_setCell _ _ _ _ (by simpa using hn), Below.heap_setCell _ _ _ _ (by simpa using hn)]
          exact hd))
        have HDone := Lib.hid (fun s (hs : s < k) => trs_done HV.out k s (by rw [HM.out]; omega) hs)
        clear HTk HMk hsp
        have k50 : wr.cell? ⟨b5, 0, none⟩ = some (.int .i64 W) := H5k.out.cellv (i := 0) rfl
        have k51 : wr.cell? ⟨b5, 1, none⟩ = some (.int .i64 H) := H5k.out.cellv (i := 1) rfl
        have k52 : wr.cell? ⟨b5, 2, none⟩ = some (.slice A n c) := H5k.out.cellv (i := 2) rfl
        have k53 : wr.cell? ⟨b5, 3, none⟩ = some (.slice Au (trs W H f k).cnt cu) := H5k.out.cellv (i := 3) rfl
        have k54 : wr.cell? ⟨b5, 4, none⟩ = some (.slice (some ⟨cv, 0, none⟩) k k) := H5k.out.cellv (i := 4) rfl
        have z0 : wr.cell? ⟨w.heap.size + 1, 0, none⟩ = some (.int .i64 0) := HRk.out.cellv (i := 0) rfl
        have z1 : wr.cell? ⟨w.heap.size + 1, 1, none⟩ = some (.int .i64 0) := HRk.out.cellv (i := 1) rfl
        have z2 : wr.cell? ⟨w.heap.size + 1, 2, none⟩ = some (.slice none 0 0) := HRk.out.cellv (i := 2) rfl
        have z3 : wr.cell? ⟨w.heap.size + 1, 3, none⟩ = some (.slice none 0 0) := HRk.out.cellv (i := 3) rfl
        have z4 : wr.cell? ⟨w.heap.size + 1, 4, none⟩ = some (.slice none 0 0) := HRk.out.cellv (i := 4) rfl
        have f0 := HRk.out.frozen 0
        have f1 := HRk.out.frozen 1
        have f2 := HRk.out.frozen 2
        have f3 := HRk.out.frozen 3
        have f4 := HRk.out.frozen 4
        have lr := HRk.out.lt
        have l5' := H5k.out.lt
        gi_wp2
        refine leaves_marks (base := w.heap.size) (I := fun X => At X (w.heap.size + 1) #[.int .i64 W, .int .i64 H, .slice A n c, .slice Au (trs W H f k).cnt cu, .slice (some ⟨cv, 0, none⟩) k k] 84 ∧ X.ownsRow w.heap.size 131 4 (.slice Au (trs W H f k).cnt cu) (trs W H f k).cnt (ivs (stl W H f k)) ∧ X.rowIs cv 2 k (posF (trs W H f k).of) ∧ Below w.heap.size w X) ?hput ?hfin ds _ HMs.out ⟨HSk.out, HUk.out, HCk.out, HBk.out⟩
        case hput =>
          rintro X l o' ⟨h1, h2, h3, h4⟩ hl ⟨o, ho, hoc⟩
          refine ⟨at_put h1 ⟨o, ho, hoc⟩, owns_blocks h2 (fun g e => World.putObj_heap_other ?_), rowIs_put h3 ?_, h4.grown (grownBy_putObj' _ _ _) h4.size (fun j e => by cases e; omega)⟩
          · rintro rfl
            rcases h2.2 with ⟨h0, -⟩ | ⟨g', cap, cur, h0, hb, hg, -⟩
            · rw [h0] at e; cases e
            · rw [h0] at e
              have e1 : g' = g := by simpa [Value.ownBlock] using e
              rw [e1, ho] at hg
              cases hg
              cases hoc
          · rintro rfl
            obtain ⟨cs, hc, -⟩ := h3
            rw [ho] at hc
            cases hc
            cases hoc
        case hfin =>
          rintro X ⟨h1, h2, h3, h4⟩
          have q0 : X.cell? ⟨w.heap.size + 1, 0, none⟩ = some (.int .i64 W) := h1.cellv (i := 0) rfl
          have q1 : X.cell? ⟨w.heap.size + 1, 1, none⟩ = some (.int .i64 H) := h1.cellv (i := 1) rfl
          have q2 : X.cell? ⟨w.heap.size + 1, 2, none⟩ = some (.slice A n c) := h1.cellv (i := 2) rfl
          have q3 : X.cell? ⟨w.heap.size + 1, 3, none⟩ = some (.slice Au (trs W H f k).cnt cu) := h1.cellv (i := 3) rfl
          have q4 : X.cell? ⟨w.heap.size + 1, 4, none⟩ = some (.slice (some ⟨cv, 0, none⟩) k k) := h1.cellv (i := 4) rfl
          have HX2 := Lib.hid h2
          have HX3 := Lib.hid h3
          have HX4 := Lib.hid h4
          clear h1 h2 h3 h4
          refine ⟨.tuple #[.agg #[.int .i64 W, .int .i64 H, .slice A n c, .slice Au (trs W H f k).cnt cu, .slice (some ⟨cv, 0, none⟩) k k], .int .i64 0], ?_, ?_⟩
          · simp [results, Tryd.results94, go_sem, q0, q1, q2, q3, q4]
          · refine ⟨Au, cu, cv, rfl, HX2.out, HX3.out.congr (fun s hs => ?_), by omega, HX4.out⟩
            unfold posF
            rw [if_neg (by have := HDone.out s hs; omega)]
end Go.Proofs.YtbpdjmjkjiddjaaDoor.Base
