/-
  Pairings that the specification draws.
-/
import Derived.Test.YtpkajonnopmciaaDoorPrc
import Derived.Test.YtpkajonnopmciaaDoorDrw
import Derived.Test.YtpkajonnopmciaaDoorWls
import Derived.Test.YtpkajonnopmciaaDoorSetB
import Derived.IntWalk
namespace Go.Proofs.YtpkajonnopmciaaDoor.Base
open Go Go.RowKit
set_option linter.unusedVariables false
set_option linter.unusedSimpArgs false

theorem owns_put {w : World} {base n g cap : Nat} {e : TypeId} {xs : List Value} (h : w.ownsRow base e 1 (.slice (some ⟨g, 0, none⟩) n cap) n xs) {i : Nat} (hi : i < n) (u : Value) :
    (w.setCell ⟨g, i, none⟩ u).ownsRow base e 1 (.slice (some ⟨g, 0, none⟩) n cap) n (xs.set i u) := by
  refine ⟨by have := h.1; simpa using this, .inr ?_⟩
  rcases h.2 with ⟨e1, e2⟩ | ⟨g', cap', cur, e1, hb, hg, hnc, hcm, hcs, ht⟩
  · cases e1
  · injection e1 with e2 e3 e4
    injection e2 with e2
    injection e2 with e5
    subst e5 e4
    refine ⟨g, cap, cur.setIfInBounds i u, rfl, hb, ?_, hnc, hcm, by simpa using hcs, ?_⟩
    · simp [World.setCell, Array.getElem?_modify, hg]
    · rw [Array.toList_setIfInBounds, List.take_set, ht]
theorem owns_otherB {w : World} {base n g cap : Nat} {e : TypeId} {xs : List Value} (h : w.ownsRow base e 1 (.slice (some ⟨g, 0, none⟩) n cap) n xs) {p : Addr} (hp : p.block ≠ g) (u : Value) :
    ((w.setCell p u).drew).ownsRow base e 1 (.slice (some ⟨g, 0, none⟩) n cap) n xs := by
  have hg : w.grownBy (w.setCell p u) (some p.block) := ⟨rfl, rfl, rfl, by simp [World.setCell], fun k hk hne => Below.heap_setCell w p u k (by rintro rfl; exact hne rfl)⟩
  have h1 := h.kept hg (.inr (by simp [Value.ownBlock]; omega))
  exact owns_belowS h1 (Below.refl _ _).drew
/-- different numbers below k -/
structure PI (k : Nat) (p : Nat → Nat) : Prop where
  lt : ∀ i, i < k → p i < k
  inj : ∀ i j, i < k → j < k → p i = p j → i = j
def pfS (p : Nat → Nat) (k a : Nat) (i : Nat) : Nat := if i = a then k else if i = k then p a else p i
theorem PI.step {k a : Nat} {p : Nat → Nat} (h : PI k p) (ha : a ≤ k) : PI (k + 1) (pfS p k a) := by
  refine ⟨fun i hi => ?_, fun i j hi hj e => ?_⟩
  · unfold pfS
    split
    · omega
    · split
      · have := h.lt a (by omega); omega
      · have := h.lt i (by omega); omega
  · have key : ∀ x, x < k + 1 → x ≠ a → pfS p k a x < k := fun x hx hxa => by
      unfold pfS
      rw [if_neg hxa]
      split
      · exact h.lt a (by omega)
      · exact h.lt x (by omega)
    by_cases hia : i = a
    · by_cases hja : j = a
      · omega
      · have h1 := key j hj hja
        have h2 : pfS p k a i = k := if_pos hia
        omega
    · by_cases hja : j = a
      · have h1 := key i hi hia
        have h2 : pfS p k a j = k := if_pos hja
        omega
      · unfold pfS at e
        rw [if_neg hia, if_neg hja] at e
        by_cases hik : i = k
        · by_cases hjk : j = k
          · omega
          · rw [if_pos hik, if_neg hjk] at e
            have := h.inj a j (by omega) (by omega) e
            omega
        · by_cases hjk : j = k
          · rw [if_neg hik, if_pos hjk] at e
            have := h.inj i a (by omega) (by omega) e
            omega
          · rw [if_neg hik, if_neg hjk] at e
            exact h.inj i j (by omega) (by omega) e
theorem PI.onto {k : Nat} {p : Nat → Nat} (h : PI k p) {x : Nat} (hx : x < k) : ∃ i, i < k ∧ p i = x := by
  refine Classical.byContradiction fun hne => ?_
  have hnd : (((List.range k).map p) ++ [x]).Nodup := by
    rw [List.nodup_append]
    refine ⟨nodup_map_of List.nodup_range (fun a ha b hb e => h.inj a b (List.mem_range.1 ha) (List.mem_range.1 hb) e), by simp, ?_⟩
    intro a ha b hb e
    obtain ⟨i, hi, rfl⟩ := List.mem_map.1 ha
    rw [List.mem_singleton.1 hb] at e
    exact hne ⟨i, List.mem_range.1 hi, e⟩
  have := pig k _ hnd (fun y hy => by
    rcases List.mem_append.1 hy with hy | hy
    · obtain ⟨i, hi, rfl⟩ := List.mem_map.1 hy
      exact h.lt i (List.mem_range.1 hi)
    · rw [List.mem_singleton.1 hy]; exact hx)
  simp at this
  omega
theorem grown_of_ext {w w' : World} {s : Nat} (X : Ext [s] w w') : w.grownBy w' (some s) := ⟨X.os, X.tape, X.output, X.size, fun k hk hne => X.block k hk (by simp; rintro rfl; exact hne rfl)⟩
theorem Src.of_block {w w' : World} {s : Nat} {A : Option Addr} {n c : Nat} {k : Int} (h : Src w s A n c k) (e : w'.heap[s]? = w.heap[s]?) (hz : w.heap.size ≤ w'.heap.size) : Src w' s A n c k := by
  obtain ⟨h1, h2, h3, ⟨z, h4⟩, h5, h6⟩ := h
  exact ⟨by omega, (World.cell?_of_block (a := ⟨s, 0, none⟩) e).trans h2, (World.cell?_of_block (a := ⟨s, 1, none⟩) e).trans h3, ⟨z, (World.cell?_of_block (a := ⟨s, 2, none⟩) e).trans h4⟩, (World.frozen?_of_block (a := ⟨s, 1, none⟩) e).trans h5, (World.frozen?_of_block (a := ⟨s, 2, none⟩) e).trans h6⟩
theorem Ext.thenB {X : List Nat} {a b c : World} (h : Ext X a b) (k : Below a.heap.size b c) : Ext X a c := ⟨k.os.trans h.os, k.tape.trans h.tape, k.output.trans h.output, Nat.le_trans h.size k.size, fun i hi hx => (k.block i hi).trans (h.block i hi hx)⟩
def pfL (p : Nat → Nat) (k : Nat) : List Int := (List.range k).map fun i => (p i : Int)
theorem pfL_len (p : Nat → Nat) (k : Nat) : (pfL p k).length = k := by simp [pfL]
theorem pfL_get (p : Nat → Nat) {k i : Nat} (h : i < k) : (ivs (pfL p k))[i]? = some (.int .i64 (p i)) := by simp [ivs, pfL, h]
theorem pfL_step (p : Nat → Nat) {k a : Nat} (ha : a ≤ k) : (((ivs (pfL p k) ++ [Value.int .i64 (k : Int)]).set k (Value.int .i64 ((if a = k then k else p a : Nat) : Int))).set a (Value.int .i64 (k : Int))) = ivs (pfL (pfS p k a) (k + 1)) := by
  apply List.ext_getElem?
  intro i
  have hl : (ivs (pfL p k)).length = k := by simp [ivs, pfL]
  rw [List.getElem?_set, List.getElem?_set]
  simp only [List.length_set, List.length_append, hl, List.length_singleton]
  by_cases h : i < k + 1
  · rw [pfL_get _ h]
    unfold pfS
    by_cases h1 : i = a
    · subst h1; simp [h]
    · rw [if_neg (by omega), if_neg h1]
      by_cases h2 : i = k
      · subst h2
        rw [if_pos rfl, if_pos rfl, if_pos (by omega), if_neg (by omega)]
      · rw [if_neg (by omega), if_neg h2, List.getElem?_append_left (by omega), pfL_get p (by omega)]
  · have : (ivs (pfL (pfS p k a) (k + 1)))[i]? = none := by rw [List.getElem?_eq_none]; simp [ivs, pfL]; omega
    rw [this, if_neg (by omega), if_neg (by omega), List.getElem?_eq_none]
    simp [hl]; omega
theorem pfL_app (p : Nat → Nat) {k a : Nat} (ha : a ≤ k) : (ivs (pfL p k) ++ [Value.int .i64 (k : Int)])[a]? = some (Value.int .i64 ((if a = k then k else p a : Nat) : Int)) := by
  have hl : (ivs (pfL p k)).length = k := by simp [ivs, pfL]
  by_cases h : a = k
  · subst h; rw [List.getElem?_append_right (by omega), hl]; simp
  · rw [List.getElem?_append_left (by omega), pfL_get p (by omega), if_neg h]
theorem pfL_app2 (p : Nat → Nat) {k a pa : Nat} (ha : a ≤ k) (h : (ivs (pfL p k) ++ [Value.int .i64 (k : Int)])[a]? = some (Value.int .i64 (pa : Int))) : ((ivs (pfL p k) ++ [Value.int .i64 (k : Int)]).set k (.int .i64 (pa : Int)))[a]? = some (Value.int .i64 (pa : Int)) := by
  rw [List.getElem?_set]
  by_cases e : k = a
  · rw [if_pos e, if_pos (by simp [ivs, pfL])]
  · rw [if_neg e]; exact h
/-- a pairing out of numbers in some order -/
theorem pr_of {m : Nat} {p : Nat → Nat} {o : Nat → Int} (h : PI (2 * m) p) (ho : ∀ j, j < m → o (p (2 * j)) = p (2 * j + 1) ∧ o (p (2 * j + 1)) = p (2 * j)) : PR (2 * m) o := by
  refine ⟨fun x hx => ?_⟩
  obtain ⟨i, hi, rfl⟩ := h.onto hx
  obtain ⟨h1, h2⟩ := ho (i / 2) (by omega)
  by_cases he : i % 2 = 0
  · have e : 2 * (i / 2) = i := by omega
    rw [e] at h1 h2
    have hl := h.lt (i + 1) (by omega)
    refine ⟨by omega, by omega, fun e' => ?_, ?_⟩
    · rw [h1] at e'
      have := h.inj (i + 1) i (by omega) hi (by omega)
      omega
    · rw [h1, Int.toNat_natCast]; exact h2
  · have e : 2 * (i / 2) + 1 = i := by omega
    rw [e] at h1 h2
    have hl := h.lt (2 * (i / 2)) (by omega)
    refine ⟨by omega, by omega, fun e' => ?_, ?_⟩
    · rw [h2] at e'
      have := h.inj (2 * (i / 2)) i (by omega) hi (by omega)
      omega
    · rw [h2, Int.toNat_natCast]; exact h1
theorem pick_one (w : World) (s : Nat) (A : Option Addr) (n c : Nat) (k : Int) (hs : Src w s A n c k) :
    Calls Tryd.prog 19 #[.pointer (some ⟨s, 0, none⟩), .int .i64 1] w (Took s A n c k 2 (1 - 1) w) := by
  have HS := Lib.hid hs
  clear hs
  go_enter Tryd.func19, Tryd.ntmps19
  go_wp2
  go_ret
  exact ⟨0, k, rfl, Int.le_refl _, Int.le_refl _, HS.out, Int.le_refl _, by omega, Ext.refl _ _⟩
theorem pick_pos (w : World) (s : Nat) (A : Option Addr) (n c : Nat) (f : Nat → Int) (k m : Int) (hs : Src w s A n c k) (hr : Row .u8 w A n c f) (hne : ∀ b, blk A = some b → 0 < n → b ≠ s) (k0 : 0 ≤ k) (k1 : k ≤ 900000) (hn : n ≤ 1000000) (m1 : 1 ≤ m) (m2 : m ≤ 60000) :
    Calls Tryd.prog 19 #[.pointer (some ⟨s, 0, none⟩), .int .i64 m] w (Took s A n c k 2 (m - 1) w) := by
  by_cases h : m = 1
  · subst h; exact pick_one w s A n c k hs
  · exact pick_any w s A n c f k m hs hr hne k0 k1 hn (by omega) m2
/-- a pairing that is drawn -/
def PairDrawn (s : Nat) (A0 : Option Addr) (n0 c0 : Nat) (k : Int) (m : Nat) (w : World) (e : Ending) (w' : World) : Prop :=
  ∃ (A : Option Addr) (c : Nat) (o : Nat → Int) (k' : Int), e = .returned (.slice A (2 * m) c) ∧ PR (2 * m) o ∧ OwnRow w' w.heap.size A (2 * m) c o ∧ Src w' s A0 n0 c0 k' ∧ k ≤ k' ∧ k' ≤ k + 4 * m ∧ Ext [s] w w'
set_option maxHeartbeats 4000000 in
set_option maxRecDepth 100000 in
theorem pairDraw_any (w : World) (s : Nat) (A0 : Option Addr) (n0 c0 : Nat) (f0 : Nat → Int) (k : Int) (m : Nat) (hs : Src w s A0 n0 c0 k) (hr : Row .u8 w A0 n0 c0 f0) (hne : ∀ b, blk A0 = some b → 0 < n0 → b ≠ s) (k0 : 0 ≤ k) (k1 : k ≤ 1000) (hn : n0 ≤ 1000000) (m1 : 1 ≤ m) (m2 : m ≤ 6) :
    Calls Tryd.prog 20 #[.pointer (some ⟨s, 0, none⟩), .int .i64 (m : Int)] w (PairDrawn s A0 n0 c0 k m w) := by
  obtain ⟨i2, hi2, hz0, hz1, hz2⟩ := info_parts infoI64
  have HR := Lib.hid hr
  have HNE := Lib.hid hne
  have hsl := hs.1
  have HO1 := Lib.hid (owns_empty w 2)
  have HS1 := Lib.hid (hs.ext (Ext.alloc (X := []) w (.cells #[] 2)) (by simp))
  have HX1 := Lib.hid (Ext.alloc (X := [s]) w (.cells #[] 2))
  clear hs hr hne
  go_enter Tryd.func20, Tryd.ntmps20
  go_wp2
  go_loopw [5, 6] (fun u qv wr => ∃ (q : Nat) (p : Nat → Nat) (k' : Int), q ≤ 2 * m ∧ qv = .int .i64 (q : Int) ∧ k ≤ k' ∧ k' ≤ k + 2 * q ∧ Hid (PI q p) ∧ Hid (wr.ownsRow w.heap.size 2 1 u q (ivs (pfL p q))) ∧ Hid (Src wr s A0 n0 c0 k') ∧ Hid (Ext [s] w wr)) (fun _ qv _ => 100 - (intOf qv).toNat)
  case atStart => exact ⟨0, fun i => i, k, Nat.zero_le _, rfl, Int.le_refl _, by omega, Lib.hid ⟨fun i h => by omega, fun i j h => by omega⟩, HO1, HS1, HX1⟩
  case round =>
    clear HO1 HS1 HX1
    obtain ⟨q, p, k', hq, rfl, hk1, hk2, HP, HU, HS, HX⟩ := hrel
    obtain ⟨Ao, co, rfl⟩ := owns_slice HU.out
    have hXz := HX.out.size
    by_cases hlt : q < 2 * m
    · go_wp2_with fail
      refine (pick_pos wr s A0 n0 c0 f0 k' ((q : Int) + 1) HS.out (HR.out.ext HX.out (fun b hb h0 => by simpa using HNE.out b hb h0)) HNE.out (by omega) (by omega) hn (by omega) (by omega)).mono ?_
      rintro e w2 ⟨v, k2, rfl, v0, v1, S2, j1, j2, X2⟩
      obtain ⟨a, rfl⟩ : ∃ a : Nat, v = a := ⟨v.toNat, by omega⟩
      have ha : a ≤ q := by omega
      have hfar : ∀ g, (Value.slice Ao q co).ownBlock = some g → w.heap.size ≤ g := fun g hg => (HU.out.lt g hg).1
      have hnot : (Value.slice Ao q co).ownBlock = none ∨ (Value.slice Ao q co).ownBlock ≠ some s := by
        by_cases e : (Value.slice Ao q co).ownBlock = some s
        · have := hfar s e
          omega
        · exact .inr e
      have HU2 := Lib.hid (HU.out.kept (grown_of_ext X2) hnot)
      clear hnot
      have HS2 := Lib.hid S2
      have HX2 := Lib.hid (HX.out.trans X2)
      have hX2z := HX2.out.size
      clear S2 X2 HU HS HX v0 v1
      have hXa := Lib.hid ((Below.refl w2.heap.size w2).alloc (Nat.le_refl _) (.cells #[.int .i64 (q : Int)] 2))
      have hsl2 := HS2.out.1
      obtain ⟨pa, hpa⟩ : ∃ pa, (if a = q then q else p a) = pa := ⟨_, rfl⟩
      have happ := pfL_app p ha
      rw [hpa] at happ
      have HPA := Lib.hid hpa
      have HAP := Lib.hid happ
      clear hpa happ
      go_wp2_with (first
        | (at_builtin; refine wpList_append_lies _ (by rfl) _ _ _ (by rfl) w.heap.size 2 i2 _ 1 8 Tryd.underlying22 hi2 hz0 hz1 hz2 rfl (by omega) _ q (ivs (pfL p q)) (by rfl) (owns_belowS HU2.out hXa.out) ⟨w2.heap.size, 0, none⟩ 1 1 [.int .i64 (q : Int)] (by rfl) (by rfl) (World.news_of_block (cs := #[.int .i64 (q : Int)]) (t := 2) (fr := (0, 0)) (heap_alloc_new w2 _)) (fun u hu => by simp at hu; subst hu; rfl) (by omega) (by unfold maxLen; omega) (by omega) (by simp; omega) (w2.heap.size + 1) (by simp) ?_; intro g6 cap6 w6 hown6 hgrow6 hat6 hlt6; have hg6 := (hown6.lt g6 rfl).1; have hg6' := (hown6.lt g6 rfl).2; have q1 : w6.cell? ⟨g6, a, none⟩ = some (.int .i64 (pa : Int)) := (by rw [hown6.cellAt a (by omega)]; exact HAP.out); have q2 : w6.cell? ⟨g6, q, none⟩ = some (.int .i64 (q : Int)) := (by rw [hown6.cellAt q (by omega)]; simp [ivs, pfL]); have fq := hown6.frozenAt q; have fa := hown6.frozenAt a; have q3 : (w6.setCell ⟨g6, q, none⟩ (.int .i64 (pa : Int))).cell? ⟨g6, a, none⟩ = some (.int .i64 (pa : Int)) := (by rw [(owns_put hown6 (i := q) (by omega) (.int .i64 (pa : Int))).cellAt a (by omega)]; exact pfL_app2 p ha HAP.out); have f3 : (w6.setCell ⟨g6, q, none⟩ (.int .i64 (pa : Int))).frozen? ⟨g6, a, none⟩ = false := (by rw [World.frozen?_setCell]; exact fa); have HOW := Lib.hid hown6; have HGR := Lib.hid hgrow6; clear hown6 hgrow6 hat6))
      have HFR := Lib.hid hfar
      clear hfar q1 q2 q3 fq fa f3
      go_roundw
      case rel =>
        have hbl : Below w.heap.size w2 ((w6.setCell ⟨g6, q, none⟩ (.int .i64 (pa : Int))).setCell ⟨g6, a, none⟩ (.int .i64 (q : Int))) :=
          (((hXa.out.mono (by omega)).grown HGR.out (by simp; omega) (fun b e => HFR.out b e)).setCell (by exact hg6) _).setCell (by exact hg6) _
        have hst := owns_put (owns_put HOW.out (i := q) (by omega) (.int .i64 (pa : Int))) (i := a) (by omega) (.int .i64 (q : Int))
        rw [← HPA.out, pfL_step p ha, HPA.out] at hst
        exact ⟨q + 1, pfS p q a, k2, by omega, by go_num, by omega, by omega, Lib.hid (HP.out.step ha), Lib.hid hst, Lib.hid (HS2.out.of_block (hbl.block s hsl) hbl.size), Lib.hid (HX2.out.thenB hbl)⟩
      case measure => simp [intOf]; omega
    · obtain rfl : q = 2 * m := by omega
      rcases HU.out.2 with ⟨e, e'⟩ | ⟨g, cap, cur, e, hg0, hg, hnc2, hcm2, hcs, ht⟩
      · omega
      injection e with e1 e2 e3
      subst e1 e3
      have hgl := (Array.getElem?_eq_some_iff.1 hg).1
      clear e2 hg hcs ht
      have hmk := run_make_row' (P := Tryd.prog) 22 2 (.int .i64 0) 8 Tryd.underlying22 infoI64 rfl .i64 .i64 (2 * m) (by omega) (by omega)
      rw [show ((2 * m : Nat) : Int) = 2 * (m : Int) by simp] at hmk
      have hrow := World.rowIs_made wr (.int .i64 0) (2 * m) 2
      have HO1 := Lib.hid (ownRow_of (base := w.heap.size) (f := fun _ => 0) hrow (by unfold maxLen; omega) (fun i hi => by rfl) hXz)
      have bA := (Below.refl wr.heap.size wr).alloc (Nat.le_refl _) (.cells (madeCells #[.int .i64 0] (2 * m)) 2)
      have HU1 := Lib.hid (owns_belowS HU.out bA)
      have HS1 := Lib.hid (HS.out.of_block (bA.block s HS.out.1) bA.size)
      have HX1 := Lib.hid (HX.out.thenB (bA.mono hXz))
      have hob : w.heap.size ≤ wr.heap.size := hXz
      have hgo : g ≠ wr.heap.size := by omega
      clear hrow bA
      go_wp2
      clear hmk
      generalize (wr.alloc (.cells (madeCells #[.int .i64 0] (2 * m)) 2)) = wA at *
      generalize wr.heap.size = ob at *
      generalize hwo : wr = wo at *
      clear hwo wr HS HX HU
      rw [show ((2 * m : Nat) : Int) = 2 * (m : Int) by simp]
      go_loopw [9] (fun jv wr => ∃ (j : Nat) (o : Nat → Int), j ≤ m ∧ jv = .int .i64 (j : Int) ∧ Hid (∀ i, i < j → o (p (2 * i)) = p (2 * i + 1) ∧ o (p (2 * i + 1)) = p (2 * i)) ∧ Hid (OwnRow wr w.heap.size (some ⟨ob, 0, none⟩) (2 * m) (2 * m) o) ∧ Hid (wr.ownsRow w.heap.size 2 1 (.slice (some ⟨g, 0, none⟩) (2 * m) co) (2 * m) (ivs (pfL p (2 * m)))) ∧ Hid (Src wr s A0 n0 c0 k') ∧ Hid (Ext [s] w wr)) (fun jv _ => 100 - (intOf jv).toNat)
      case atStart => exact ⟨0, fun _ => 0, Nat.zero_le _, rfl, Lib.hid (fun i h => absurd h (Nat.not_lt_zero _)), HO1, HU1, HS1, HX1⟩
      case round =>
        clear HO1 HU1 HS1 HX1
        obtain ⟨j, o, hj, rfl, HA, HO, HU, HS, HX⟩ := hrel
        by_cases hjm : j < m
        · have hx := HP.out.lt (2 * j) (by omega)
          have hy := HP.out.lt (2 * j + 1) (by omega)
          have l0 : wr.cell? ⟨g, 2 * j, none⟩ = some (.int .i64 (p (2 * j) : Nat)) := by rw [HU.out.cellAt (2 * j) (by omega)]; exact pfL_get p (by omega)
          have l1 : wr.cell? ⟨g, 2 * j + 1, none⟩ = some (.int .i64 (p (2 * j + 1) : Nat)) := by rw [HU.out.cellAt (2 * j + 1) (by omega)]; exact pfL_get p (by omega)
          obtain ⟨x, hxe⟩ : ∃ x, p (2 * j) = x := ⟨_, rfl⟩
          obtain ⟨y, hye⟩ : ∃ y, p (2 * j + 1) = y := ⟨_, rfl⟩
          have HXE := Lib.hid hxe
          have HYE := Lib.hid hye
          rw [hxe] at l0 hx
          rw [hye] at l1 hy
          clear hxe hye
          have hgw := (HU.out.lt g rfl).2
          obtain ⟨b1, o1, e1, hb1, hb2, hc⟩ := HO.out.2.2.2 (by omega)
          obtain ⟨rfl, rfl⟩ : ob = b1 ∧ o1 = 0 := by injection e1 with e1; injection e1 with e2 e3; exact ⟨e2, e3.symm⟩
          have cx := (hc x hx).1
          have fx := (hc x hx).2
          have fy := (hc y hy).2
          have cy := (hc y hy).1
          simp only [Nat.zero_add] at cx fx fy cy
          have HO2 := Lib.hid (HO.out.put hx (y : Int) (WalkArith.wf_i64 (by omega)))
          have HO3 := Lib.hid (HO2.out.put hy (x : Int) (WalkArith.wf_i64 (by omega)))
          clear hc e1
          have ht0 : (2 * (j : Int)).toNat = 2 * j := by omega
          have ht1 : (2 * (j : Int) + 1).toNat = 2 * j + 1 := by omega
          have hw0 : IntKind.i64.wrap (2 * (j : Int)) = 2 * (j : Int) := IntWalk.i64_in _ (by omega)
          have hw1 : IntKind.i64.wrap (2 * (j : Int) + 1) = 2 * (j : Int) + 1 := IntWalk.i64_in _ (by omega)
          have hb0 : (0 : Int) ≤ 2 * (j : Int) := by omega
          have hb0' : ¬ 2 * (j : Int) < 0 := by omega
          have hb1' : ¬ 2 * (j : Int) + 1 < 0 := by omega
          have hb2' : 2 * (j : Int) < ((2 * m : Nat) : Int) := by omega
          have hb3' : 2 * (j : Int) + 1 < ((2 * m : Nat) : Int) := by omega
          have hb4' : 2 * (j : Int) < 2 * (m : Int) := by omega
          have hb5' : 2 * (j : Int) + 1 < 2 * (m : Int) := by omega
          have hb6' : ¬ ((2 * m : Nat) : Int) ≤ 2 * (j : Int) := by omega
          have hb7' : ¬ ((2 * m : Nat) : Int) ≤ 2 * (j : Int) + 1 := by omega
          have hb8' : ¬ 2 * (m : Int) ≤ 2 * (j : Int) := by omega
          have hb9' : ¬ 2 * (m : Int) ≤ 2 * (j : Int) + 1 := by omega
          have hx2 : (x : Int) < ((2 * m : Nat) : Int) := by omega
          have hx3 : (x : Int) < 2 * (m : Int) := by omega
          have hy2 : (y : Int) < ((2 * m : Nat) : Int) := by omega
          have hy3 : (y : Int) < 2 * (m : Int) := by omega
          have t0 : (wr.setCell ⟨ob, x, none⟩ (.int .i64 (y : Int))).drew.cell? ⟨g, 2 * j, none⟩ = some (.int .i64 (x : Int)) := by
            show (wr.setCell _ _).cell? _ = _
            rw [World.cell?_setCell_other _ _ _ _ (fun e => by injection e; omega)]; exact l0
          have t1 : (wr.setCell ⟨ob, x, none⟩ (.int .i64 (y : Int))).drew.cell? ⟨g, 2 * j + 1, none⟩ = some (.int .i64 (y : Int)) := by
            show (wr.setCell _ _).cell? _ = _
            rw [World.cell?_setCell_other _ _ _ _ (fun e => by injection e; omega)]; exact l1
          go_wp2
          go_region_held3 (fun w' => w'.cell? ⟨g, 2 * j, none⟩ = some (.int .i64 (x : Int)) ∧ w'.cell? ⟨g, 2 * j + 1, none⟩ = some (.int .i64 (y : Int)))
            (first | exact ⟨l0, l1⟩ | exact ⟨t0, t1⟩ | go_keep | assumption)
            (fail)
          rename_i hSx
          clear hSx
          have HX2 := Lib.hid ((HX.out.thenB ((Below.refl w.heap.size wr).setCell (p := ⟨ob, x, none⟩) hob (.int .i64 (y : Int)))).trans (Ext.drew _))
          have HS2 := Lib.hid (HS.out.of_block (w' := (wr.setCell ⟨ob, x, none⟩ (.int .i64 (y : Int))).drew) (Below.heap_setCell wr ⟨ob, x, none⟩ (.int .i64 (y : Int)) s (by show s ≠ ob; omega)) (by show _ ≤ (wr.setCell _ _).heap.size; simp [World.setCell]))
          have HU2 := Lib.hid (owns_otherB (HU.out) (p := ⟨ob, x, none⟩) (by show ob ≠ g; omega) (.int .i64 (y : Int)))
          have HO2d : Hid (OwnRow (wr.setCell ⟨ob, x, none⟩ (.int .i64 (y : Int))).drew w.heap.size (some ⟨ob, 0, none⟩) (2 * m) (2 * m) (putF o x (y : Int))) := Lib.hid (by have h := HO2.out; rw [Nat.zero_add] at h; exact h.below ((Below.refl _ _).drew) (Nat.le_refl _))
          have t2 : (((wr.setCell ⟨ob, x, none⟩ (.int .i64 (y : Int))).drew.setCell ⟨ob, y, none⟩ (.int .i64 (x : Int))).drew).cell? ⟨g, 2 * j, none⟩ = some (.int .i64 (x : Int)) := by
            show (World.setCell _ _ _).cell? _ = _
            rw [World.cell?_setCell_other _ _ _ _ (fun e => by injection e; omega)]; exact t0
          have t3 : (((wr.setCell ⟨ob, x, none⟩ (.int .i64 (y : Int))).drew.setCell ⟨ob, y, none⟩ (.int .i64 (x : Int))).drew).cell? ⟨g, 2 * j + 1, none⟩ = some (.int .i64 (y : Int)) := by
            show (World.setCell _ _ _).cell? _ = _
            rw [World.cell?_setCell_other _ _ _ _ (fun e => by injection e; omega)]; exact t1
          obtain ⟨b2, o2, e2, hc1, hc2, hc3⟩ := HO2d.out.2.2.2 (by omega)
          obtain ⟨rfl, rfl⟩ : ob = b2 ∧ o2 = 0 := by injection e2 with e2; injection e2 with e3 e4; exact ⟨e3, e4.symm⟩
          have cy2 := (hc3 y hy).1
          have fy2 := (hc3 y hy).2
          simp only [Nat.zero_add] at cy2 fy2
          have hgw2 : g < ((wr.setCell ⟨ob, x, none⟩ (.int .i64 (y : Int))).drew).heap.size := by show _ < (World.setCell _ _ _).heap.size; simp [World.setCell]; omega
          have HO3 := Lib.hid (HO2d.out.put hy (x : Int) (WalkArith.wf_i64 (by omega)))
          have HU3 := Lib.hid (owns_otherB (HU2.out) (p := ⟨ob, y, none⟩) (by show ob ≠ g; omega) (.int .i64 (x : Int)))
          have HX3 := Lib.hid ((HX2.out.thenB ((Below.refl w.heap.size _).setCell (p := ⟨ob, y, none⟩) hob (.int .i64 (x : Int)))).trans (Ext.drew _))
          have HS3 := Lib.hid (HS2.out.of_block (w' := ((wr.setCell ⟨ob, x, none⟩ (.int .i64 (y : Int))).drew.setCell ⟨ob, y, none⟩ (.int .i64 (x : Int))).drew) (Below.heap_setCell _ ⟨ob, y, none⟩ (.int .i64 (x : Int)) s (by show s ≠ ob; omega)) (by show _ ≤ (World.setCell _ _ _).heap.size; simp [World.setCell]))
          clear hc3 e2 HO HU HO2 cx fx fy cy l0 l1 HX HS HX2 HS2 HU2
          generalize (wr.setCell ⟨ob, x, none⟩ (.int .i64 (y : Int))).drew = w7 at *
          go_wp2
          go_region_held3 (fun w' => w'.cell? ⟨g, 2 * j, none⟩ = some (.int .i64 (x : Int)) ∧ w'.cell? ⟨g, 2 * j + 1, none⟩ = some (.int .i64 (y : Int)))
            (first | exact ⟨t0, t1⟩ | exact ⟨t2, t3⟩ | go_keep | assumption)
            (fail)
          rename_i hSx
          clear hSx
          go_wp2
          go_roundw
          case rel =>
            refine ⟨j + 1, _, by omega, by go_num, Lib.hid (fun i hi => ?_), Lib.hid (by have h := HO3.out; rw [Nat.zero_add] at h; exact h.below ((Below.refl _ _).drew) (Nat.le_refl _)), HU3, HS3, HX3⟩
            have hinj := HP.out.inj
            unfold putF
            rcases Nat.lt_succ_iff_lt_or_eq.1 hi with h | rfl
            · obtain ⟨a1, a2⟩ := HA.out i h
              have n1 : p (2 * i) ≠ y := fun e => by have := hinj (2 * i) (2 * j + 1) (by omega) (by omega) (by rw [e, HYE.out]); omega
              have n2 : p (2 * i) ≠ x := fun e => by have := hinj (2 * i) (2 * j) (by omega) (by omega) (by rw [e, HXE.out]); omega
              have n3 : p (2 * i + 1) ≠ y := fun e => by have := hinj (2 * i + 1) (2 * j + 1) (by omega) (by omega) (by rw [e, HYE.out]); omega
              have n4 : p (2 * i + 1) ≠ x := fun e => by have := hinj (2 * i + 1) (2 * j) (by omega) (by omega) (by rw [e, HXE.out]); omega
              rw [if_neg n1, if_neg n2, if_neg n3, if_neg n4]
              exact ⟨a1, a2⟩
            · have n1 : x ≠ y := fun e => by have := hinj (2 * i) (2 * i + 1) (by omega) (by omega) (by rw [HXE.out, HYE.out, e]); omega
              rw [HXE.out, HYE.out, if_neg n1, if_pos rfl, if_pos rfl]
              exact ⟨rfl, rfl⟩
          case measure => simp [intOf]; omega
        · obtain rfl : j = m := by omega
          have HPR := Lib.hid (pr_of HP.out HA.out)
          go_wp2
          go_ret
          exact ⟨_, _, o, k', rfl, HPR.out, HO.out, HS.out, hk1, by omega, HX.out⟩
end Go.Proofs.YtpkajonnopmciaaDoor.Base
