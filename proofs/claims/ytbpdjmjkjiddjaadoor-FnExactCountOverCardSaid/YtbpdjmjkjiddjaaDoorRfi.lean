/-
  A range over a function whose iterator keeps one box of its own: the contract of such an iterator, and the law of the walk for its caller.
-/
import Derived.RangeFuncNested
import Derived.RangeFuncBound
import Derived.RangeFuncCalls
import Derived.RangeFuncLeaves
import Derived.Test.YtbpdjmjkjiddjaaDoorStab
namespace Go.Proofs.YtbpdjmjkjiddjaaDoor.Base
open Go Go.RowKit
set_option linter.unusedVariables false

/-- what a round keeps for the iterator: what is older than n₀, and the blocks Ks -/
structure Kept (n₀ : Nat) (Ks : List Nat) (A A' : World) : Prop where
  below : Below n₀ A A'
  box : ∀ b ∈ Ks, b < A.heap.size → A'.heap[b]? = A.heap[b]?

/-- the iterator g gives el 0 .. el (N-1); it keeps its state in the block that is the c-th that it makes, and it reads the blocks Ks between two rounds -/
def IterN (F : Fence) (n : Nat) (P : Program) (g : Nat) (lb : Array Value) (el : Nat → Array Value) (N n₀ : Nat) (Ks : List Nat) (c : Nat) (w : World) : Prop :=
  ∀ (l : Nat) (J Jx : Nat → World → Prop) (W : World), Below w.heap.size w W →
    (∀ k A A', J k A → Below A.heap.size A A' → J k A') →
    (∀ k A A', Jx k A → Below A.heap.size A A' → Jx k A') →
    (∀ k A i u, J k A → J k (A.setCell ⟨W.heap.size + c, i, none⟩ u)) →
    (∀ k A, k < N → J k A → YieldAt F (n - 1) P l (el k) A fun e A' =>
      (e = .returned (.bool true) ∧ J (k + 1) A' ∧ Kept n₀ ((W.heap.size + c) :: Ks) A A') ∨ (e = .returned (.bool false) ∧ Jx (k + 1) A')) →
    J 0 W →
    CallsIn F n P g (#[.func (.yield l) #[] #[]] ++ lb) W fun e W' => (∃ v, e = .returned v) ∧ (J N W' ∨ ∃ k, k ≤ N ∧ Jx k W')

/-- what the caller's invariant must stand: new blocks, the turn of a block from B on that is no cells, stores into the iterator's box V -/
structure Holds (B V : Nat) (I : Nat → World → Prop) : Prop where
  below : ∀ k A A', I k A → Below A.heap.size A A' → I k A'
  put : ∀ k A l o', I k A → B ≤ l → (∃ o : Obj, A.heap[l]? = some o ∧ o.isCells = false) → I k (A.putObj l o')
  box : ∀ k A i u, I k A → I k (A.setCell ⟨V, i, none⟩ u)

def Owns (B n₀ : Nat) (Ks : List Nat) (W : World) (X : List Nat) : Prop := ∀ b ∈ X, n₀ ≤ b ∧ b ∉ Ks ∧ ∀ o : Obj, W.heap[b]? = some o → B ≤ b → o.isCells = true

/-- how the body of a round may be left: it has changed blocks of its own alone -/
def ItPost (B n₀ : Nat) (Ks : List Nat) (I : Nat → World → Prop) (Ix : Code → Nat → World → Prop) (k : Nat) (W : World) : Exit → Act → World → Prop
  | .normal, _, W' => (∃ X, Ext X W W' ∧ Owns B n₀ Ks W X) ∧ I (k + 1) W'
  | .ret, _, W' => (∃ X, Ext X W W' ∧ Owns B n₀ Ks W X) ∧ Ix .ret (k + 1) W'
  | .exit id, _, W' => (∃ X, Ext X W W' ∧ Owns B n₀ Ks W X) ∧ Ix (.exit id) (k + 1) W'
  | .goto t, _, W' => (∃ X, Ext X W W' ∧ Owns B n₀ Ks W X) ∧ Ix (.goto t) (k + 1) W'
  | .panic _, _, _ => False
  | .outgrown, _, _ => False

variable {F : Fence} {n : Nat} {P : Program}

theorem wpIn_rangeIt {g : Operand} {ps : Array Tmp} {assign body : Code} {Q : Exit → Act → World → Prop} {a : Act} {w : World}
    (hro : F.round = none) (h1 : 1 ≤ n) {gf : Nat} {lb : Array Value} (hg : a.eval g = .func (.func gf) #[] lb) (hFg : F.fn gf) (eg : ∀ args w, (callFunc gf args).run P w = .ok (.enter gf args) w)
    {el : Nat → Array Value} {N n₀ : Nat} {Ks : List Nat} {c : Nat} {w0 : World} (hseq : IterN F (n - 1) P gf lb el N n₀ Ks c w0) (hn₀ : n₀ ≤ w.heap.size) (hKs : ∀ b ∈ Ks, b < w.heap.size) (hb0 : Below w0.heap.size w0 w) (hps : ∀ k, (el k).size = ps.size)
    (I : Nat → World → Prop) (Ix : Code → Nat → World → Prop) (hI : Holds w.heap.size (w.heap.size + 2 + c) I) (hIx : ∀ t, Holds w.heap.size (w.heap.size + 2 + c) (Ix t)) (h0 : I 0 w)
    (Ax : Nat → Act → World → Prop) (hAx : ∀ k a' A l o', Ax k a' A → (∃ o : Obj, A.heap[l]? = some o ∧ o.isCells = false) → Ax k a' (A.putObj l o'))
    (hassign : ∀ (l k : Nat) (W : World) (K : Act → World → Prop), k < N → w.heap.size + 1 < W.heap.size → I k W → (∀ a' W', Below W.heap.size W W' → Ax k a' W' → K a' W') →
      assign.wpIn (F.inRound l) (n - 1 - 1) P (Exit.then K (fun _ _ _ => False)) { tmps := (ps.zip (el k)).foldl (fun t (p, v) => t.setIfInBounds p v) a.tmps, defers := [] } W)
    (hbody : ∀ (l k : Nat) (a' : Act) (W : World), k < N → w.heap.size + 1 < W.heap.size → I k W → Ax k a' W → body.wpIn (F.inRound l) (n - 1 - 1) P (ItPost w.heap.size n₀ ((w.heap.size + 2 + c) :: Ks) I Ix k W) a' W)
    (hdone : ∀ (D : Nat) (W : World), w.heap.size ≤ D → I N W → W.heap[D]? = some (.deferred (some [])) → Q .normal { a with defers := { target := .collected D, args := #[] } :: a.defers } W)
    (hstop : ∀ (D : Nat) (t : Code) (k : Nat) (W : World), w.heap.size ≤ D → k ≤ N → Ix t k W → W.heap[D]? = some (.deferred (some [])) → t.wpIn F n P Q { a with defers := { target := .collected D, args := #[] } :: a.defers } W) :
    (Code.rangeFunc g ps assign body).wpIn F n P Q a w := by
  refine wpIn_rangeFunc ?_
  intro fn hfn
  rw [hro]
  obtain ⟨rec, hrec⟩ : ∃ rec : LoopState → Option Code → Loop, rec = fun st pe => { state := st, pending := pe, fn, tmps := a.tmps, params := ps, assign, body, defers := w.heap.size } := ⟨_, rfl⟩
  obtain ⟨W1, hW1⟩ : ∃ W1, (w.alloc (.deferred (some []))).alloc (.loop (rec .ready none)) = W1 := ⟨_, rfl⟩
  have hL1 : W1.heap[w.heap.size + 1]? = some (.loop (rec .ready none)) := by
    rw [← hW1]; have := World.alloc_heap_new (w.alloc (.deferred (some []))) (.loop (rec .ready none)); rwa [World.size_alloc] at this
  have hK1 : W1.heap[w.heap.size]? = some (.deferred (some [])) := by
    rw [← hW1]; exact (Below.heap_alloc _ _ _ (by simp)).trans (World.alloc_heap_new w _)
  have hbw : Below w.heap.size w W1 := by rw [← hW1]; exact ((Below.refl _ w).alloc (Nat.le_refl _) _).alloc (by simp) _
  have hI1 : I 0 W1 := hI.below _ _ _ h0 hbw
  have hb1 : Below w0.heap.size w0 W1 := hb0.trans (hbw.mono hb0.size)
  have hsz : W1.heap.size = w.heap.size + 2 := by rw [← hW1]; simp
  refine ⟨w.heap.size + 1, [{ target := .collected w.heap.size, args := #[] }], W1, { target := .fn (.func gf) lb, args := #[.func (.yield (w.heap.size + 1)) #[] #[]] }, W1, gf,
    #[.func (.yield (w.heap.size + 1)) #[] #[]] ++ lb, W1, ?_, ?_, ?_, ?_, fun _ => h1, ?_⟩
  · rw [← hW1, hrec]; exact run_enterLoop_outer _ _ _ _ _
  · simp only [resolve, hg]
    simp [go_sem]
  · intro f' hf'; simp [Target.leads] at hf'; subst hf'; exact hFg
  · simp [invoke, go_sem, eg]
  · have lt : ∀ {A : World} {k : Nat} {o : Obj}, A.heap[k]? = some o → k < A.heap.size := fun h => (Array.getElem?_eq_some_iff.1 h).1
    refine (hseq (w.heap.size + 1)
      (fun k W => I k W ∧ W.heap[w.heap.size + 1]? = some (.loop (rec .ready none)) ∧ W.heap[w.heap.size]? = some (.deferred (some [])))
      (fun k W => ∃ t, Ix t k W ∧ W.heap[w.heap.size + 1]? = some (.loop (rec .done (some t))) ∧ W.heap[w.heap.size]? = some (.deferred (some [])))
      W1 hb1
      (fun k A A' h hb => ⟨hI.below _ _ _ h.1 hb, (hb.block _ (lt h.2.1)).trans h.2.1, (hb.block _ (lt h.2.2)).trans h.2.2⟩)
      (fun k A A' h hb => by
        obtain ⟨t, ht, hl, hk⟩ := h
        exact ⟨t, (hIx t).below _ _ _ ht hb, (hb.block _ (lt hl)).trans hl, (hb.block _ (lt hk)).trans hk⟩)
      (fun k A i u h => ⟨by rw [hsz]; exact hI.box _ _ _ _ h.1, (Below.heap_setCell _ _ _ _ (by simp; omega)).trans h.2.1, (Below.heap_setCell _ _ _ _ (by simp; omega)).trans h.2.2⟩)
      ?_ ⟨hI1, hL1, hK1⟩).mono ?_
    · -- one round
      rintro k W hkN ⟨hi, hl, hk⟩
      have hy := run_yield (P := P) (args := el k) hl (by rw [hrec]; exact hps k)
      rw [hrec] at hy
      have hlt : w.heap.size + 1 < W.heap.size := lt hl
      refine ⟨fn, _, assign, body, hy, roundIn_of_wpIn hfn (hassign _ k W _ hkN hlt hi ?_)⟩
      clear hy
      intro a' Wa hba hax
      have hia := hI.below _ _ _ hi hba
      have hla := (hba.block _ (lt hl)).trans hl
      have hka := (hba.block _ (lt hk)).trans hk
      have hlta : w.heap.size + 1 < Wa.heap.size := lt hla
      refine ⟨_, run_beginRound hla (by rw [hrec]), ?_⟩
      have hl2 : (Wa.putObj (w.heap.size + 1) (.loop { rec .ready none with state := .busy })).heap[w.heap.size + 1]? = some (.loop { rec .ready none with state := .busy }) := World.putObj_heap_same hlta
      have hk2 : (Wa.putObj (w.heap.size + 1) (.loop { rec .ready none with state := .busy })).heap[w.heap.size]? = some (.deferred (some [])) := (World.putObj_heap_other (by omega)).trans hka
      obtain ⟨W2, hW2⟩ : ∃ W2, Wa.putObj (w.heap.size + 1) (.loop { rec .ready none with state := .busy }) = W2 := ⟨_, rfl⟩
      have hsz2 : W2.heap.size = Wa.heap.size := by rw [← hW2]; simp
      have hv2 : ∀ b, b ≠ w.heap.size + 1 → W2.heap[b]? = Wa.heap[b]? := fun b hb => by rw [← hW2]; exact World.putObj_heap_other hb
      have hi2 : I k W2 := by rw [← hW2]; exact hI.put _ _ _ _ hia (by omega) ⟨_, hla, rfl⟩
      have hax2 : Ax k a' W2 := by rw [← hW2]; exact hAx _ _ _ _ _ hax ⟨_, hla, rfl⟩
      have hg2 : Wa.grownBy W2 (some (w.heap.size + 1)) := by rw [← hW2]; exact grownBy_putObj' _ _ _
      rw [hW2] at hl2 hk2 ⊢
      refine wpIn_mono (hbody _ k a' W2 hkN (by omega) hi2 hax2) ?_
      -- what the round has left, and what stands behind endRound
      have fin : ∀ (jump : Option Code) (W3 : World), (∃ X, Ext X W2 W3 ∧ Owns w.heap.size n₀ ((w.heap.size + 2 + c) :: Ks) W2 X) →
          (Instr.endRound (w.heap.size + 1) jump).run P W3 = .ok (.bool jump.isNone) (W3.putObj (w.heap.size + 1) (.loop (rec (if jump.isNone then .ready else .done) jump))) ∧
          W3.heap[w.heap.size + 1]? = some (.loop { rec .ready none with state := .busy }) ∧
          (W3.putObj (w.heap.size + 1) (.loop (rec (if jump.isNone then .ready else .done) jump))).heap[w.heap.size + 1]? = some (.loop (rec (if jump.isNone then .ready else .done) jump)) ∧
          (W3.putObj (w.heap.size + 1) (.loop (rec (if jump.isNone then .ready else .done) jump))).heap[w.heap.size]? = some (.deferred (some [])) ∧
          Kept n₀ ((W1.heap.size + c) :: Ks) W (W3.putObj (w.heap.size + 1) (.loop (rec (if jump.isNone then .ready else .done) jump))) := fun jump W3 hx => by
        obtain ⟨X, hX, hO⟩ := hx
        have no : ∀ {b : Nat} {o : Obj}, W2.heap[b]? = some o → o.isCells = false → w.heap.size ≤ b → b ∉ X := fun ho hc hB hb => by
          have := (hO _ hb).2.2 _ ho hB; rw [hc] at this; cases this
        have hl3 := (hX.block _ (lt hl2) (no hl2 rfl (by omega))).trans hl2
        have hk3 := (hX.block _ (lt hk2) (no hk2 rfl (by omega))).trans hk2
        have := run_endRound (P := P) jump hl3
        rw [hrec] at this ⊢
        refine ⟨this, by rw [hrec] at hl3; exact hl3, World.putObj_heap_same (lt hl3), (World.putObj_heap_other (by omega)).trans hk3, ?_, ?_⟩
        · have b1 : Below n₀ W W2 := (hba.mono (by omega)).trans ((Below.refl n₀ Wa).grown hg2 (by omega) (fun j e => by cases e; omega))
          have b2 : Below n₀ W2 W3 := hX.below (fun b hb => (hO b hb).1) (by omega)
          exact (b1.trans b2).trans ((Below.refl n₀ W3).grown (grownBy_putObj' _ _ _) (by have := lt hl3; omega) (fun j e => by cases e; omega))
        · intro b hbm hbs
          rw [hsz] at hbm
          have hne : b ≠ w.heap.size + 1 := by
            rcases List.mem_cons.1 hbm with h | h
            · omega
            · have := hKs _ h; omega
          rw [World.putObj_heap_other hne, hX.block _ (by have := hba.size; omega) (fun hb => (hO _ hb).2.1 hbm), hv2 _ hne, hba.block _ hbs]
      rintro e a3 W3 hp
      cases e with
      | normal =>
        obtain ⟨hx, hi3⟩ := hp
        obtain ⟨hr, hl3, hl4, hk4, hkp⟩ := fin none W3 hx
        exact ⟨_, _, hr, .inl ⟨rfl, ⟨hI.put _ _ _ _ hi3 (by omega) ⟨_, hl3, rfl⟩, hl4, hk4⟩, hkp⟩⟩
      | ret =>
        obtain ⟨hx, hi3⟩ := hp
        obtain ⟨hr, hl3, hl4, hk4, -⟩ := fin (some .ret) W3 hx
        exact ⟨_, _, hr, .inr ⟨rfl, .ret, (hIx _).put _ _ _ _ hi3 (by omega) ⟨_, hl3, rfl⟩, hl4, hk4⟩⟩
      | exit id =>
        obtain ⟨hx, hi3⟩ := hp
        obtain ⟨hr, hl3, hl4, hk4, -⟩ := fin (some (.exit id)) W3 hx
        exact ⟨_, _, hr, .inr ⟨rfl, .exit id, (hIx _).put _ _ _ _ hi3 (by omega) ⟨_, hl3, rfl⟩, hl4, hk4⟩⟩
      | goto t =>
        obtain ⟨hx, hi3⟩ := hp
        obtain ⟨hr, hl3, hl4, hk4, -⟩ := fin (some (.goto t)) W3 hx
        exact ⟨_, _, hr, .inr ⟨rfl, .goto t, (hIx _).put _ _ _ _ hi3 (by omega) ⟨_, hl3, rfl⟩, hl4, hk4⟩⟩
      | panic ch => exact hp.elim
      | outgrown => exact hp.elim
    · -- behind the iterator
      rintro e W2 ⟨⟨v, rfl⟩, (⟨hi, hl, hk⟩ | ⟨k, hkN, t, hi, hl, hk⟩)⟩
      · exact ⟨none, _, by have := run_endLoop (P := P) hl (by rw [hrec]; simp); rw [hrec] at this; exact this, hdone _ _ (Nat.le_refl _) (hI.put _ _ _ _ hi (by omega) ⟨_, hl, rfl⟩) ((World.putObj_heap_other (by omega)).trans hk)⟩
      · exact ⟨some t, _, by have := run_endLoop (P := P) hl (by rw [hrec]; simp); rw [hrec] at this; exact this, hstop _ t k _ (Nat.le_refl _) hkN ((hIx t).put _ _ _ _ hi (by omega) ⟨_, hl, rfl⟩) ((World.putObj_heap_other (by omega)).trans hk)⟩
end Go.Proofs.YtbpdjmjkjiddjaaDoor.Base
