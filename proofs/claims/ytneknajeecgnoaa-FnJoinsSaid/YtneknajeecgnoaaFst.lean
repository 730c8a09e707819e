/-
  A forest in memory: elements that point to their parents; the element that stands for a group.
-/
import Derived.Test.YtneknajeecgnoaaFrm
import Derived.Test.YtneknajeecgnoaaWls
import Derived.Test.YtneknajeecgnoaaAll
import Derived.Test.YtneknajeecgnoaaHeap
import Derived.Deep.AppendLies
import Derived.Deep.RegionLaw
import Derived.IntWalk
import Derived.LaidEqlPtr
import Derived.Lib.Builder
namespace Go.Proofs.Ytneknajeecgnoaa.Base
open Go Go.RowKit
set_option linter.unusedVariables false
set_option linter.unusedSimpArgs false

theorem infoEl : (Try.prog.info? 88).map (fun i => (i.zero, i.size, i.bytes)) = some (some (.agg #[.int .i64 0, .pointer none]), 2, 16) := by kernel_rfl
/-- block E holds n elements, each pointing to its parent -/
def Elm (w : World) (E n : Nat) (p : Nat → Nat) : Prop :=
  ∃ cs, At w E cs 88 ∧ ∀ k, k < n → cs[k * 2]? = some (.int .i64 (k : Int)) ∧ cs[k * 2 + 1]? = some (.pointer (some ⟨E, p k * 2, none⟩))
theorem Elm.of_block {w w' : World} {E n : Nat} {p : Nat → Nat} (h : Elm w E n p) (e : w'.heap[E]? = w.heap[E]?) : Elm w' E n p := by
  obtain ⟨cs, h1, h2⟩ := h
  exact ⟨cs, h1.of_block e, h2⟩
theorem Elm.lt {w : World} {E n : Nat} {p : Nat → Nat} (h : Elm w E n p) : E < w.heap.size := by obtain ⟨cs, h1, h2⟩ := h; exact h1.lt
theorem Elm.at_ {w : World} {E n : Nat} {p : Nat → Nat} (h : Elm w E n p) {k : Nat} (hk : k < n) : w.cell? ⟨E, k * 2, none⟩ = some (.int .i64 (k : Int)) ∧ w.cell? ⟨E, k * 2 + 1, none⟩ = some (.pointer (some ⟨E, p k * 2, none⟩)) ∧ w.frozen? ⟨E, k * 2, none⟩ = false ∧ w.frozen? ⟨E, k * 2 + 1, none⟩ = false := by
  obtain ⟨cs, h1, h2⟩ := h
  exact ⟨h1.cellv (h2 k hk).1, h1.cellv (h2 k hk).2, h1.frozen _, h1.frozen _⟩
theorem Elm.put {w : World} {E n : Nat} {p : Nat → Nat} (h : Elm w E n p) {e : Nat} (he : e < n) (q : Nat) : Elm (w.setCell ⟨E, e * 2 + 1, none⟩ (.pointer (some ⟨E, q * 2, none⟩))) E n (hvP p e q) := by
  obtain ⟨cs, h1, h2⟩ := h
  refine ⟨_, h1.set (e * 2 + 1) (.pointer (some ⟨E, q * 2, none⟩)), fun k hk => ?_⟩
  obtain ⟨c1, c2⟩ := h2 k hk
  have hsz : e * 2 + 1 < cs.size := (Array.getElem?_eq_some_iff.1 (h2 e he).2).1
  rw [Array.getElem?_setIfInBounds, Array.getElem?_setIfInBounds]
  unfold hvP
  rw [if_neg (by omega)]
  refine ⟨c1, ?_⟩
  by_cases hke : k = e
  · subst hke
    rw [if_pos rfl, if_pos rfl, if_pos hsz]
  · rw [if_neg hke, if_neg (by omega)]
    exact c2
theorem run_neq_ptr_other {P : Program} (w : World) {tp te : TypeId} {j : TypeInfo} {a b : Addr} {ca cb : Array Value} {ta tb : TypeId} (hp : P.underlying tp = some (.pointer te)) (hte : P.info? te = some j) (hsz : j.size ≠ 0)
    (hne : a ≠ b) (ha : w.heap[a.block]? = some (.cells ca ta (0, 0))) (hb : w.heap[b.block]? = some (.cells cb tb (0, 0))) :
    (binOp .neq tp (.pointer (some a)) (.pointer (some b))).run P w = .ok (.bool true) w := by
  have h : ∀ d : Nat, (Op.equalIn (d + 1) tp (.pointer (some a)) (.pointer (some b))).run P w = .ok false w := fun d => by
    simp [Op.equalIn, run_underlying hp, sizeOf, typeInfo, hte, hsz, run_sameAddr_other w hne ha hb]
  simp only [binOp]
  simp [Op.equal, Op.maxDepth, h 9999]
theorem Elm.ne_yes {w : World} {E n : Nat} {p : Nat → Nat} (h : Elm w E n p) {x y : Nat} (hxy : x ≠ y) :
    (binOp .neq 86 (.pointer (some ⟨E, x * 2, none⟩)) (.pointer (some ⟨E, y * 2, none⟩))).run Try.prog w = .ok (.bool true) w := by
  obtain ⟨cs, h1, h2⟩ := h
  obtain ⟨i, hi, hz0, hz1, hz2⟩ := info_parts infoEl
  exact run_neq_ptr_other w (te := 88) Try.underlying86 hi (by rw [hz1]; decide) (fun e => hxy (Nat.eq_of_mul_eq_mul_right (by decide) (congrArg Addr.off e : x * 2 = y * 2))) h1 h1
theorem ptr_ne_no (w : World) (E x : Nat) :
    (binOp .neq 86 (.pointer (some ⟨E, x * 2, none⟩)) (.pointer (some ⟨E, x * 2, none⟩))).run Try.prog w = .ok (.bool false) w := by
  obtain ⟨i, hi, hz0, hz1, hz2⟩ := info_parts infoEl
  exact Lib.run_neq_ptr_same w ⟨E, x * 2, none⟩ (te := 88) Try.underlying86 hi
/-- changes as values -/
def chV (E : Nat) (L : List (Nat × Nat)) : List Value := L.flatMap fun c => [.pointer (some ⟨E, c.1 * 2, none⟩), .pointer (some ⟨E, c.2 * 2, none⟩)]
theorem chV_len (E : Nat) (L : List (Nat × Nat)) : (chV E L).length = L.length * 2 := by
  induction L with
  | nil => rfl
  | cons a r ih => simp [chV] at ih ⊢; omega
/-- all but the blocks F and E below base is kept -/
structure Frm (base F E : Nat) (w w' : World) : Prop where
  os : w'.os = w.os
  tape : w'.tape = w.tape
  output : w'.output = w.output
  size : w.heap.size ≤ w'.heap.size
  block : ∀ k, k < base → k ≠ F → k ≠ E → w'.heap[k]? = w.heap[k]?
theorem Frm.refl (base F E : Nat) (w : World) : Frm base F E w w := ⟨rfl, rfl, rfl, Nat.le_refl _, fun _ _ _ _ => rfl⟩
theorem Frm.trans {base F E : Nat} {a b c : World} (h : Frm base F E a b) (k : Frm base F E b c) : Frm base F E a c :=
  ⟨k.os.trans h.os, k.tape.trans h.tape, k.output.trans h.output, Nat.le_trans h.size k.size, fun i h1 h2 h3 => (k.block i h1 h2 h3).trans (h.block i h1 h2 h3)⟩
theorem Frm.below {base F E B : Nat} {a b : World} (h : Frm base F E a b) (h1 : B ≤ F) (h2 : B ≤ E) (h3 : B ≤ base) : Below B a b := ⟨h.os, h.tape, h.output, h.size, fun k hk => h.block k (by omega) (by omega) (by omega)⟩
/-- a forest whose paths may have been shortened -/
structure Fst (w : World) (base F E n : Nat) (lv cv : Value) (p : Nat → Nat) (L : List (Nat × Nat)) : Prop where
  box : At w F #[.slice (some ⟨E, 0, none⟩) n n, lv, cv] 95
  elm : Elm w E n p
  chg : w.ownsRow base 130 2 cv L.length (chV E L)
  far1 : F < base
  far2 : E < base
  ne : F ≠ E
  low : base ≤ w.heap.size
def evN : Value → Nat | .pointer (some a) => a.off / 2 | _ => 0
theorem infoSh : (Try.prog.info? 130).map (fun i => (i.zero, i.size, i.bytes)) = some (some (.agg #[.pointer none, .pointer none]), 2, 16) := by kernel_rfl
/-- what standing leaves -/
def Stood (base F E n : Nat) (lv : Value) (rk p : Nat → Nat) (L : List (Nat × Nat)) (r : Nat) (w : World) (e : Ending) (w' : World) : Prop :=
  ∃ cv' p' L', e = .returned (.pointer (some ⟨E, r * 2, none⟩)) ∧ FR n p' rk ∧ (∀ x y, x < n → (Rt p' x y ↔ Rt p x y)) ∧ (∀ x, undo L' p' x = undo L p x) ∧ L'.length ≤ L.length + 256 ∧ (∀ c ∈ L', c ∈ L ∨ (c.1 < n ∧ p c.1 ≠ c.1)) ∧ Fst w' base F E n lv cv' p' L' ∧ Frm base F E w w'
/-- all blocks but F, E and the changes' are kept; the changes lie where they lay, or anew -/
def Kpt (F E : Nat) (cv cv' : Value) (w w' : World) : Prop :=
  (∀ k, k < w.heap.size → k ≠ F → k ≠ E → cv.ownBlock ≠ some k → w'.heap[k]? = w.heap[k]?) ∧ ∀ q, cv'.ownBlock = some q → cv.ownBlock = some q ∨ w.heap.size ≤ q
theorem Kpt.refl (F E : Nat) (cv : Value) (w : World) : Kpt F E cv cv w w := ⟨fun _ _ _ _ _ => rfl, fun q h => .inl h⟩
/-- what standing leaves, told of all blocks -/
def Stood2 (base F E n : Nat) (lv cv : Value) (rk p : Nat → Nat) (L : List (Nat × Nat)) (r : Nat) (w : World) (e : Ending) (w' : World) : Prop :=
  ∃ cv' p' L', e = .returned (.pointer (some ⟨E, r * 2, none⟩)) ∧ FR n p' rk ∧ (∀ x y, x < n → (Rt p' x y ↔ Rt p x y)) ∧ (∀ x, undo L' p' x = undo L p x) ∧ L'.length ≤ L.length + 256 ∧ (∀ c ∈ L', c ∈ L ∨ (c.1 < n ∧ p c.1 ≠ c.1)) ∧ Fst w' base F E n lv cv' p' L' ∧ Frm base F E w w' ∧ Kpt F E cv cv' w w'
set_option maxHeartbeats 4000000 in
set_option maxRecDepth 100000 in
theorem impl_standing2 (w : World) (base F E n : Nat) (lv cv : Value) (rk p : Nat → Nat) (L : List (Nat × Nat)) (k r : Nat) (hs : Fst w base F E n lv cv p L) (hf : FR n p rk) (hk : k < n) (hr : Rt p k r) (hn : n ≤ 256) (hL : L.length ≤ 1000000) (hrk : ∀ x, x < n → rk x ≤ 256) :
    Calls Try.prog 62 #[.pointer (some ⟨F, 0, none⟩), .int .i64 (k : Int)] w (Stood2 base F E n lv cv rk p L r w) := by
  have HS := Lib.hid hs
  have HF := Lib.hid hf
  have HR := Lib.hid hr
  have HRK := Lib.hid hrk
  have b0 := hs.box.cellv (i := 0) rfl
  have fz := hs.box.lt
  clear hs hf hr hrk
  go_enter Try.func62, Try.ntmps62
  go_wp2
  clear b0
  go_loopw [5] (fun ev wr => ∃ (x : Nat) (cv' : Value) (p' : Nat → Nat) (L' : List (Nat × Nat)), x < n ∧ ev = .pointer (some ⟨E, x * 2, none⟩) ∧ L'.length + rk x ≤ L.length + rk k ∧ Hid (Rt p' x r) ∧ Hid (FR n p' rk) ∧ Hid (∀ x y, x < n → (Rt p' x y ↔ Rt p x y)) ∧ Hid (∀ x, undo L' p' x = undo L p x) ∧ Hid (∀ c ∈ L', c ∈ L ∨ (c.1 < n ∧ p c.1 ≠ c.1)) ∧ Hid (Fst wr base F E n lv cv' p' L') ∧ Hid (Frm base F E w wr) ∧ Hid (Kpt F E cv cv' w wr)) (fun ev _ => rk (evN ev))
  case atStart => exact ⟨k, cv, p, L, hk, rfl, Nat.le_refl _, HR, HF, Lib.hid (fun x y _ => Iff.rfl), Lib.hid (fun x => rfl), Lib.hid (fun c h => .inl h), HS, Lib.hid (Frm.refl _ _ _ _), Lib.hid (Kpt.refl _ _ _ _)⟩
  case round =>
    obtain ⟨x, cv', p', L', hx, rfl, hlen, HRx, HFx, HQ, HU, HC, HSx, HW, HK⟩ := hrel
    obtain ⟨c1, c2, c3, c4⟩ := HSx.out.elm.at_ hx
    have ez := HSx.out.elm.lt
    have bz := HSx.out.box.lt
    obtain ⟨y, hy⟩ : ∃ y, p' x = y := ⟨_, rfl⟩
    have HY := Lib.hid hy
    rw [hy] at c2
    clear hy
    by_cases hxy : y = x
    · subst hxy
      have n1 := ptr_ne_no wr E y
      have hrr := HRx.out.uniq (.top HY.out)
      go_wp2
      go_ret
      exact ⟨cv', p', L', by rw [hrr]; rfl, HFx.out, HQ.out, HU.out, by have := HRK.out k hk; omega, HC.out, HSx.out, HW.out, HK.out⟩
    · have n1 := HSx.out.elm.ne_yes hxy
      have hy : y < n := by rw [← HY.out]; exact HFx.out.lt x hx
      have hdn : rk y < rk x := by have := HFx.out.dn x hx; rw [HY.out] at this; omega
      obtain ⟨d1, d2, d3, d4⟩ := HSx.out.elm.at_ hy
      obtain ⟨z, hz⟩ : ∃ z, p' y = z := ⟨_, rfl⟩
      have HZ := Lib.hid hz
      rw [hz] at d2
      clear hz
      by_cases hzy : z = y
      · subst hzy
        have n2 := ptr_ne_no wr E z
        have HR2 := Lib.hid (by have := HRx.out.step; rw [HY.out] at this; exact this)
        go_wp2
        go_roundw
        case rel => exact ⟨z, cv', p', L', hy, rfl, by omega, HR2, HFx, HQ, HU, HC, HSx, HW, HK⟩
        case measure => simpa [evN] using hdn
      · have n2 := HSx.out.elm.ne_yes hzy
        have hz : z < n := by rw [← HZ.out]; exact HFx.out.lt y hy
        have b2 := HSx.out.box.cellv (i := 2) rfl
        have f2 := HSx.out.box.frozen 2
        have hl1 : L'.length ≤ 1001000 := by have := HRK.out k hk; omega
        have hfarF : ∀ g, cv'.ownBlock = some g → base ≤ g := fun g hg => (HSx.out.chg.lt g hg).1
        have HFAR := Lib.hid hfarF
        obtain ⟨i0, hi, hz0, hz1, hz2⟩ := info_parts infoSh
        have HOW := Lib.hid HSx.out.chg
        have hlow := HSx.out.low
        have hF := HSx.out.far1
        have hE := HSx.out.far2
        have hFE := HSx.out.ne
        clear hfarF c1 c3 d1 d3 d4
        go_wp2
        go_region_law (refine step_append_lies (wr.drew.alloc (.cells #[.pointer (some ⟨E, x * 2, none⟩), .pointer (some ⟨E, y * 2, none⟩)] 130)) (by rfl) (.tmp 36) (.tmp 43) 93 (by rfl) base 130 i0 _ 2 16 Try.underlying93 hi hz0 hz1 hz2 rfl (by omega) cv' L'.length (chV E L') (by rfl) (HOW.out.drew.alloc _) ⟨wr.heap.size, 0, none⟩ 1 1 [.pointer (some ⟨E, x * 2, none⟩), .pointer (some ⟨E, y * 2, none⟩)] (by rfl) (by rfl) (World.news_of_block (cs := #[.pointer (some ⟨E, x * 2, none⟩), .pointer (some ⟨E, y * 2, none⟩)]) (t := 130) (fr := (0, 0)) (heap_alloc_new wr.drew _)) (fun u hu => by simp at hu; rcases hu with rfl | rfl <;> rfl) (by omega) (by unfold maxLen; omega) (by omega) (by simp; omega) (wr.heap.size + 1) (by simp) ?_; intro gg cap w1 hown1 hgrow hat hlt1; have bb : Below base wr w1 := ((((Below.refl base wr).drew).alloc (by show base ≤ wr.heap.size; omega) _).grown hgrow (by simp; omega) (fun b e => HFAR.out b e)); have q2 := (bb.cell (p := ⟨F, 2, none⟩) hF).trans b2; have q3 := (bb.cell (p := ⟨E, x * 2 + 1, none⟩) hE).trans c2; have g2 := (bb.frozen (p := ⟨F, 2, none⟩) hF).trans f2; have g3 := (bb.frozen (p := ⟨E, x * 2 + 1, none⟩) hE).trans c4; have zF := Nat.lt_of_lt_of_le bz bb.size; have zE := Nat.lt_of_lt_of_le ez bb.size; have q4 : (w1.setCell ⟨F, 2, none⟩ (.slice (some ⟨gg, 0, none⟩) (L'.length + 1) cap)).cell? ⟨E, x * 2 + 1, none⟩ = some (.pointer (some ⟨E, y * 2, none⟩)) := (by rw [World.cell?_setCell_other _ _ _ _ (fun e => by injection e; omega)]; exact q3); have g4 : (w1.setCell ⟨F, 2, none⟩ (.slice (some ⟨gg, 0, none⟩) (L'.length + 1) cap)).frozen? ⟨E, x * 2 + 1, none⟩ = false := (by rw [World.frozen?_setCell]; exact g3); have HOW1 := Lib.hid hown1; have HBB := Lib.hid bb; have HGG := Lib.hid hgrow; have HAT := Lib.hid hat; clear hown1 hgrow hat bb)
        all_goals
          have hdz : rk z < rk y := by have := HFx.out.dn y hy; rw [HZ.out] at this; omega
          go_wp2
          clear n1 n2 q2 q3 q4 g2 g3 g4 b2 c2 d2 f2 c4
          go_roundw
          case rel =>
            refine ⟨z, .slice (some ⟨gg, 0, none⟩) (L'.length + 1) cap, hvP p' x z, L' ++ [(x, y)], hz, rfl, by simp; omega, Lib.hid ?_, Lib.hid ?_, Lib.hid (fun a b ha => ?_), Lib.hid (fun a => ?_), Lib.hid (fun c hc => ?_), Lib.hid ⟨?_, ?_, ?_, hF, hE, hFE, ?_⟩, Lib.hid (HW.out.trans ?_), Lib.hid ⟨fun k hk k1 k2 k3 => ?_, fun q hq => ?_⟩⟩
            · have h1 := HFx.out.same hx (x := z) (r := r) hz
              rw [HY.out, HZ.out] at h1
              refine h1.2 ?_
              have h2 := HRx.out.step.step
              rw [HY.out, HZ.out] at h2
              exact h2
            · have h1 := HFx.out.halve hx
              rw [HY.out, HZ.out] at h1
              exact h1
            · have h1 := HFx.out.same hx (x := a) (r := b) ha
              rw [HY.out, HZ.out] at h1
              exact h1.trans (HQ.out a b ha)
            · rw [undo_snoc, ← HU.out a]
              refine undo_congr (fun t => ?_) L' a
              unfold hvP
              by_cases ht : t = x
              · rw [if_pos ht, ht, HY.out]
              · rw [if_neg ht, if_neg ht]
            · rcases List.mem_append.1 hc with hc | hc
              · exact HC.out c hc
              · rw [List.mem_singleton.1 hc]
                refine .inr ⟨hx, fun e => ?_⟩
                have h1 := ((HQ.out x x hx).2 (.top e)).root
                rw [HY.out] at h1
                exact hxy h1
            · have h1 := (((HSx.out.box.below HBB.out hF).set 2 (.slice (some ⟨gg, 0, none⟩) (L'.length + 1) cap)).setOther (a := ⟨E, x * 2 + 1, none⟩) (fun e => hFE e.symm) (.pointer (some ⟨E, z * 2, none⟩)))
              exact h1
            · exact ((HSx.out.elm.of_block (HBB.out.block E hE)).of_block (Below.heap_setCell w1 ⟨F, 2, none⟩ _ E (fun e => hFE e.symm))).put hx z
            · have h1 : chV E (L' ++ [(x, y)]) = chV E L' ++ [.pointer (some ⟨E, x * 2, none⟩), .pointer (some ⟨E, y * 2, none⟩)] := by simp [chV]
              rw [h1, List.length_append]
              exact ownsRow_setCell_below (ownsRow_setCell_below HOW1.out (by exact hF) _) (by exact hE) _
            · have := HBB.out.size
              simp [World.setCell]
              omega
            · refine ⟨HBB.out.os, HBB.out.tape, HBB.out.output, by have := HBB.out.size; simpa [World.setCell] using this, fun q h1 h2 h3 => ?_⟩
              rw [Below.heap_setCell _ _ _ _ h3, Below.heap_setCell _ _ _ _ h2]
              exact HBB.out.block q h1
            · have hsz := HW.out.size
              rw [Below.heap_setCell _ _ _ _ k2, Below.heap_setCell _ _ _ _ k1]
              refine ((HGG.out.block k (by simp; omega) (fun e => ?_)).trans (Below.heap_alloc _ _ _ (by show k < wr.heap.size; omega))).trans (HK.out.1 k hk k1 k2 k3)
              rcases HK.out.2 k e.symm with h1 | h1
              · exact k3 h1
              · omega
            · have hsz := HW.out.size
              have hq' : gg = q := by simpa [Value.ownBlock] using hq
              subst hq'
              rcases HAT.out with h1 | h1
              · exact HK.out.2 gg h1
              · exact .inr (by omega)
          case measure => simp [evN]; omega
theorem impl_standing (w : World) (base F E n : Nat) (lv cv : Value) (rk p : Nat → Nat) (L : List (Nat × Nat)) (k r : Nat) (hs : Fst w base F E n lv cv p L) (hf : FR n p rk) (hk : k < n) (hr : Rt p k r) (hn : n ≤ 256) (hL : L.length ≤ 1000000) (hrk : ∀ x, x < n → rk x ≤ 256) :
    Calls Try.prog 62 #[.pointer (some ⟨F, 0, none⟩), .int .i64 (k : Int)] w (Stood base F E n lv rk p L r w) :=
  (impl_standing2 w base F E n lv cv rk p L k r hs hf hk hr hn hL hrk).mono fun _ _ ⟨cv', p', L', h1, h2, h3, h4, h5, h6, h7, h8, _⟩ => ⟨cv', p', L', h1, h2, h3, h4, h5, h6, h7, h8⟩
end Go.Proofs.Ytneknajeecgnoaa.Base
