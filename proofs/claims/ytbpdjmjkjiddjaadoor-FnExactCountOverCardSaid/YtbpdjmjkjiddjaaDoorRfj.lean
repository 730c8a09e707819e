/-
  A range over a function whose iterator makes boxes of its own in every round (a loop variable of each round's own), and whose body may own blocks that it makes: the contract, and the law of the walk for the caller.
-/
import Derived.Test.YtbpdjmjkjiddjaaDoorRfi
namespace Go.Proofs.YtbpdjmjkjiddjaaDoor.Base
open Go Go.RowKit
set_option linter.unusedVariables false

/-- the iterator g gives el 0 .. el (N-1); the blocks Y are its own; it reads the blocks Ks between two rounds -/
def IterY (F : Fence) (n : Nat) (P : Program) (g : Nat) (lb : Array Value) (el : Nat → Array Value) (N n₀ : Nat) (Ks : List Nat) (w : World) : Prop :=
  ∀ (l : Nat) (J : List Nat → Nat → World → Prop) (Jx : Nat → World → Prop) (W : World), Below w.heap.size w W →
    (∀ Y k A A' b, J Y k A → Below A.heap.size A A' → A.heap.size ≤ b → b < A'.heap.size → J (b :: Y) k A') →
    (∀ Y k A A', J Y k A → Below A.heap.size A A' → J Y k A') →
    (∀ k A A', Jx k A → Below A.heap.size A A' → Jx k A') →
    (∀ Y k A b i u, b ∈ Y → J Y k A → J Y k (A.setCell ⟨b, i, none⟩ u)) →
    (∀ Y k A, k < N → J Y k A → YieldAt F (n - 1) P l (el k) A fun e A' =>
      (e = .returned (.bool true) ∧ J Y (k + 1) A' ∧ Kept n₀ (Y ++ Ks) A A') ∨ (e = .returned (.bool false) ∧ Jx (k + 1) A')) →
    J [] 0 W →
    CallsIn F n P g (#[.func (.yield l) #[] #[]] ++ lb) W fun e W' => (∃ v, e = .returned v) ∧ ((∃ Y, J Y N W') ∨ ∃ k, k ≤ N ∧ Jx k W')

/-- what the caller's invariant must stand; X: the blocks that the caller owns -/
structure HoldsY (B : Nat) (I : List Nat → Nat → World → Prop) : Prop where
  below : ∀ X k A A', I X k A → Below A.heap.size A A' → I X k A'
  put : ∀ X k A l o', I X k A → B ≤ l → l ∉ X → (∃ o : Obj, A.heap[l]? = some o ∧ o.isCells = false) → I X k (A.putObj l o')
  set : ∀ X k A b i u, I X k A → B ≤ b → b ∉ X → I X k (A.setCell ⟨b, i, none⟩ u)
structure HoldsX (B : Nat) (I : Nat → World → Prop) : Prop where
  below : ∀ k A A', I k A → Below A.heap.size A A' → I k A'
  put : ∀ k A l o', I k A → B ≤ l → (∃ o : Obj, A.heap[l]? = some o ∧ o.isCells = false) → I k (A.putObj l o')

def ItPostY (I : List Nat → Nat → World → Prop) (Ix : Code → Nat → World → Prop) (X : List Nat) (k : Nat) (W : World) : Exit → Act → World → Prop
  | .normal, _, W' => ∃ X', I X' (k + 1) W' ∧ Ext X W W' ∧ ∀ b ∈ X', (b ∈ X ∨ W.heap.size ≤ b) ∧ b < W'.heap.size
  | .ret, _, W' => Ext X W W' ∧ Ix .ret (k + 1) W'
  | .exit id, _, W' => Ext X W W' ∧ Ix (.exit id) (k + 1) W'
  | .goto t, _, W' => Ext X W W' ∧ Ix (.goto t) (k + 1) W'
  | .panic _, _, _ => False
  | .outgrown, _, _ => False

variable {F : Fence} {n : Nat} {P : Program}

theorem wpIn_rangeY {g : Operand} {ps : Array Tmp} {assign body : Code} {Q : Exit → Act → World → Prop} {a : Act} {w : World}
    (hro : F.round = none) (h1 : 1 ≤ n) {gf : Nat} {lb : Array Value} (hg : a.eval g = .func (.func gf) #[] lb) (hFg : F.fn gf) (eg : ∀ args w, (callFunc gf args).run P w = .ok (.enter gf args) w)
    {el : Nat → Array Value} {N n₀ : Nat} {Ks : List Nat} {w0 : World} (hseq : IterY F (n - 1) P gf lb el N n₀ Ks w0) (hn₀ : n₀ ≤ w.heap.size) (hKs : ∀ b ∈ Ks, b < w.heap.size) (hb0 : Below w0.heap.size w0 w) (hps : ∀ k, (el k).size = ps.size)
    (I : List Nat → Nat → World → Prop) (Ix : Code → Nat → World → Prop) (hI : HoldsY w.heap.size I) (hIx : ∀ t, HoldsX w.heap.size (Ix t)) (X0 : List Nat) (hX0 : ∀ b ∈ X0, n₀ ≤ b ∧ b < w.heap.size ∧ b ∉ Ks) (h0 : I X0 0 w)
    (Ax : Nat → Act → World → Prop) (hAx : ∀ k a' A l o', Ax k a' A → (∃ o : Obj, A.heap[l]? = some o ∧ o.isCells = false) → Ax k a' (A.putObj l o'))
    (hassign : ∀ (l k : Nat) (X : List Nat) (W : World) (K : Act → World → Prop), k < N → w.heap.size + 1 < W.heap.size → I X k W → (∀ a' W', Below W.heap.size W W' → Ax k a' W' → K a' W') →
      assign.wpIn (F.inRound l) (n - 1 - 1) P (Exit.then K (fun _ _ _ => False)) { tmps := (ps.zip (el k)).foldl (fun t (p, v) => t.setIfInBounds p v) a.tmps, defers := [] } W)
    (hbody : ∀ (l k : Nat) (X : List Nat) (a' : Act) (W : World), k < N → w.heap.size + 1 < W.heap.size → (∀ b ∈ X, n₀ ≤ b ∧ b < W.heap.size ∧ b ∉ Ks ∧ b ≠ w.heap.size ∧ b ≠ w.heap.size + 1) → I X k W → Ax k a' W →
      body.wpIn (F.inRound l) (n - 1 - 1) P (ItPostY I Ix X k W) a' W)
    (hdone : ∀ (D : Nat) (X : List Nat) (W : World), w.heap.size ≤ D → (∀ b ∈ X, n₀ ≤ b ∧ b < W.heap.size ∧ b ≠ D) → I X N W → W.heap[D]? = some (.deferred (some [])) → Q .normal { a with defers := { target := .collected D, args := #[] } :: a.defers } W)
    (hstop : ∀ (D : Nat) (t : Code) (k : Nat) (W : World), w.heap.size ≤ D → k ≤ N → Ix t k W → W.heap[D]? = some (.deferred (some [])) → t.wpIn F n P Q { a with defers := { target := .collected D, args := #[] } :: a.defers } W) :
    (Code.rangeFunc g ps assign body).wpIn F n P Q a w := by
  refine wpIn_rangeFunc ?_
  intro fn hfn
  rw [hro]
  obtain ⟨rec, hrec⟩ : ∃ rec : LoopState → Option Code → Loop, rec = fun st pe => { state := st, pending := pe, fn, tmps := a.tmps, params := ps, assign, body, defers := w.heap.size } := ⟨_, rfl⟩
  obtain ⟨W1, hW1⟩ : ∃ W1, (w.alloc (.deferred (some []))).alloc (.loop (rec .ready none)) = W1 := ⟨_, rfl⟩
  have hL1 : W1.heap[w.heap.size + 1]? = some (.loop (rec .ready none)) := by
    rw [← hW1]; have := World.alloc_heap_new (w.alloc (.deferred (some []))) (.loop (rec .ready none)); rwa [World.size_alloc] at this
  have hK1 : W1.heap[w.heap.size]? = some (.deferred (some [])) := by
    rw [← hW1]; exact (Below.heap_alloc _ _ _ (by simp)).trans (World.alloc_heap_new w _)
  have hbw : Below w.heap.size w W1 := by rw [← hW1]; exact ((Below.refl _ w).alloc (Nat.le_refl _) _).alloc (by simp) _
  have hI1 : I X0 0 W1 := hI.below _ _ _ _ h0 hbw
  have hb1 : Below w0.heap.size w0 W1 := hb0.trans (hbw.mono hb0.size)
  have hsz : W1.heap.size = w.heap.size + 2 := by rw [← hW1]; simp
  refine ⟨w.heap.size + 1, [{ target := .collected w.heap.size, args := #[] }], W1, { target := .fn (.func gf) lb, args := #[.func (.yield (w.heap.size + 1)) #[] #[]] }, W1, gf,
    #[.func (.yield (w.heap.size + 1)) #[] #[]] ++ lb, W1, ?_, ?_, ?_, ?_, fun _ => h1, ?_⟩
  · rw [← hW1, hrec]; exact run_enterLoop_outer _ _ _ _ _
  · simp only [resolve, hg]
    simp [go_sem]
  · intro f' hf'; simp [Target.leads] at hf'; subst hf'; exact hFg
  · simp [invoke, go_sem, eg]
  · have lt : ∀ {A : World} {k : Nat} {o : Obj}, A.heap[k]? = some o → k < A.heap.size := fun h => (Array.getElem?_eq_some_iff.1 h).1
    refine (hseq (w.heap.size + 1)
      (fun Y k W => ∃ X, I X k W ∧ (∀ b ∈ X, n₀ ≤ b ∧ b < W.heap.size ∧ b ∉ Ks ∧ b ≠ w.heap.size ∧ b ≠ w.heap.size + 1 ∧ b ∉ Y) ∧ (∀ b ∈ Y, w.heap.size + 2 ≤ b ∧ b < W.heap.size) ∧ W.heap[w.heap.size + 1]? = some (.loop (rec .ready none)) ∧ W.heap[w.heap.size]? = some (.deferred (some [])))
      (fun k W => ∃ t, Ix t k W ∧ W.heap[w.heap.size + 1]? = some (.loop (rec .done (some t))) ∧ W.heap[w.heap.size]? = some (.deferred (some [])))
      W1 hb1 ?_ ?_ ?_ ?_ ?_ ⟨X0, hI1, (fun b hb => ?_), (fun b hb => (by cases hb)), hL1, hK1⟩).mono ?_
    · -- a new block becomes the iterator's
      rintro Y k A A' b ⟨X, hi, hx, hy, hl, hk⟩ hb h2 h3
      have := lt hl
      refine ⟨X, hI.below _ _ _ _ hi hb, fun c hc => ?_, fun c hc => ?_, (hb.block _ (lt hl)).trans hl, (hb.block _ (lt hk)).trans hk⟩
      · obtain ⟨q1, q2, q3, q4, q5, q6⟩ := hx c hc
        refine ⟨q1, Nat.lt_of_lt_of_le q2 hb.size, q3, q4, q5, ?_⟩
        rintro hm
        rcases List.mem_cons.1 hm with h | h
        · omega
        · exact q6 h
      · rcases List.mem_cons.1 hc with h | h
        · omega
        · have := hy c h; exact ⟨this.1, Nat.lt_of_lt_of_le this.2 hb.size⟩
    · rintro Y k A A' ⟨X, hi, hx, hy, hl, hk⟩ hb
      exact ⟨X, hI.below _ _ _ _ hi hb, fun c hc => by obtain ⟨q1, q2, q3⟩ := hx c hc; exact ⟨q1, Nat.lt_of_lt_of_le q2 hb.size, q3⟩, fun c hc => ⟨(hy c hc).1, Nat.lt_of_lt_of_le (hy c hc).2 hb.size⟩, (hb.block _ (lt hl)).trans hl, (hb.block _ (lt hk)).trans hk⟩
    · rintro k A A' ⟨t, ht, hl, hk⟩ hb
      exact ⟨t, (hIx t).below _ _ _ ht hb, (hb.block _ (lt hl)).trans hl, (hb.block _ (lt hk)).trans hk⟩
    · rintro Y k A b i u hb ⟨X, hi, hx, hy, hl, hk⟩
      have hbB := (hy b hb).1
      have hsz2 : (A.setCell ⟨b, i, none⟩ u).heap.size = A.heap.size := by simp [World.setCell]
      exact ⟨X, hI.set _ _ _ _ _ _ hi (by omega) (fun hm => (hx b hm).2.2.2.2.2 hb), fun c hc => by rw [hsz2]; exact hx c hc, fun c hc => by rw [hsz2]; exact hy c hc,
        (Below.heap_setCell _ _ _ _ (by simp; omega)).trans hl, (Below.heap_setCell _ _ _ _ (by simp; omega)).trans hk⟩
    · -- one round
      rintro Y k W hkN ⟨X, hi, hx, hY, hl, hk⟩
      have hy := run_yield (P := P) (args := el k) hl (by rw [hrec]; exact hps k)
      rw [hrec] at hy
      have hlt : w.heap.size + 1 < W.heap.size := lt hl
      refine ⟨fn, _, assign, body, hy, roundIn_of_wpIn hfn (hassign _ k X W _ hkN hlt hi ?_)⟩
      clear hy
      intro a' Wa hba hax
      have hia := hI.below _ _ _ _ hi hba
      have hla := (hba.block _ (lt hl)).trans hl
      have hka := (hba.block _ (lt hk)).trans hk
      have hlta : w.heap.size + 1 < Wa.heap.size := lt hla
      refine ⟨_, run_beginRound hla (by rw [hrec]), ?_⟩
      have hl2 : (Wa.putObj (w.heap.size + 1) (.loop { rec .ready none with state := .busy })).heap[w.heap.size + 1]? = some (.loop { rec .ready none with state := .busy }) := World.putObj_heap_same hlta
      have hk2 : (Wa.putObj (w.heap.size + 1) (.loop { rec .ready none with state := .busy })).heap[w.heap.size]? = some (.deferred (some [])) := (World.putObj_heap_other (by omega)).trans hka
      obtain ⟨W2, hW2⟩ : ∃ W2, Wa.putObj (w.heap.size + 1) (.loop { rec .ready none with state := .busy }) = W2 := ⟨_, rfl⟩
      have hsz2 : W2.heap.size = Wa.heap.size := by rw [← hW2]; simp
      have hv2 : ∀ b, b ≠ w.heap.size + 1 → W2.heap[b]? = Wa.heap[b]? := fun b hb => by rw [← hW2]; exact World.putObj_heap_other hb
      have hi2 : I X k W2 := by rw [← hW2]; exact hI.put _ _ _ _ _ hia (by omega) (fun hm => (hx _ hm).2.2.2.2.1 rfl) ⟨_, hla, rfl⟩
      have hax2 : Ax k a' W2 := by rw [← hW2]; exact hAx _ _ _ _ _ hax ⟨_, hla, rfl⟩
      have hg2 : Wa.grownBy W2 (some (w.heap.size + 1)) := by rw [← hW2]; exact grownBy_putObj' _ _ _
      rw [hW2] at hl2 hk2 ⊢
      have hxW2 : ∀ b ∈ X, n₀ ≤ b ∧ b < W2.heap.size ∧ b ∉ Ks ∧ b ≠ w.heap.size ∧ b ≠ w.heap.size + 1 := fun b hb => by
        obtain ⟨q1, q2, q3, q4, q5, -⟩ := hx b hb
        exact ⟨q1, by have := hba.size; omega, q3, q4, q5⟩
      refine wpIn_mono (hbody _ k X a' W2 hkN (by omega) hxW2 hi2 hax2) ?_
      have fin : ∀ (jump : Option Code) (W3 : World), Ext X W2 W3 →
          (Instr.endRound (w.heap.size + 1) jump).run P W3 = .ok (.bool jump.isNone) (W3.putObj (w.heap.size + 1) (.loop (rec (if jump.isNone then .ready else .done) jump))) ∧
          W3.heap[w.heap.size + 1]? = some (.loop { rec .ready none with state := .busy }) ∧
          (W3.putObj (w.heap.size + 1) (.loop (rec (if jump.isNone then .ready else .done) jump))).heap[w.heap.size + 1]? = some (.loop (rec (if jump.isNone then .ready else .done) jump)) ∧
          (W3.putObj (w.heap.size + 1) (.loop (rec (if jump.isNone then .ready else .done) jump))).heap[w.heap.size]? = some (.deferred (some [])) ∧
          Kept n₀ (Y ++ Ks) W (W3.putObj (w.heap.size + 1) (.loop (rec (if jump.isNone then .ready else .done) jump))) := fun jump W3 hX => by
        have hl3 := (hX.block _ (lt hl2) (fun hm => (hx _ hm).2.2.2.2.1 rfl)).trans hl2
        have hk3 := (hX.block _ (lt hk2) (fun hm => (hx _ hm).2.2.2.1 rfl)).trans hk2
        have := run_endRound (P := P) jump hl3
        rw [hrec] at this ⊢
        refine ⟨this, by rw [hrec] at hl3; exact hl3, World.putObj_heap_same (lt hl3), (World.putObj_heap_other (by omega)).trans hk3, ?_, ?_⟩
        · have b1 : Below n₀ W W2 := (hba.mono (by omega)).trans ((Below.refl n₀ Wa).grown hg2 (by omega) (fun j e => by cases e; omega))
          have b2 : Below n₀ W2 W3 := hX.below (fun b hb => (hx b hb).1) (by omega)
          exact (b1.trans b2).trans ((Below.refl n₀ W3).grown (grownBy_putObj' _ _ _) (by have := lt hl3; omega) (fun j e => by cases e; omega))
        · intro b hbm hbs
          have hne : b ≠ w.heap.size + 1 ∧ b ∉ X := by
            rcases List.mem_append.1 hbm with h | h
            · exact ⟨by have := (hY b h).1; omega, fun hm => (hx b hm).2.2.2.2.2 h⟩
            · exact ⟨by have := hKs _ h; omega, fun hm => (hx b hm).2.2.1 h⟩
          rw [World.putObj_heap_other hne.1, hX.block _ (by have := hba.size; omega) hne.2, hv2 _ hne.1, hba.block _ hbs]
      have hYs : ∀ W3 : World, W2.heap.size ≤ W3.heap.size → ∀ b ∈ Y, w.heap.size + 2 ≤ b ∧ b < W3.heap.size := fun W3 h b hb => ⟨(hY b hb).1, by have := (hY b hb).2; have := hba.size; omega⟩
      rintro e a3 W3 hp
      cases e with
      | normal =>
        obtain ⟨X', hi3, hx3, hn3⟩ := hp
        obtain ⟨hr, hl3, hl4, hk4, hkp⟩ := fin none W3 hx3
        have hX' : ∀ b ∈ X', n₀ ≤ b ∧ b < W3.heap.size ∧ b ∉ Ks ∧ b ≠ w.heap.size ∧ b ≠ w.heap.size + 1 ∧ b ∉ Y := fun b hb => by
          obtain ⟨h1, h2⟩ := hn3 b hb
          rcases h1 with h1 | h1
          · obtain ⟨q1, q2, q3, q4, q5, q6⟩ := hx b h1
            exact ⟨q1, h2, q3, q4, q5, q6⟩
          · have hbs := hba.size
            exact ⟨by omega, h2, fun hm => by have := hKs _ hm; omega, by omega, by omega, fun hm => by have := (hY b hm).2; omega⟩
        exact ⟨_, _, hr, .inl ⟨rfl, ⟨X', hI.put _ _ _ _ _ hi3 (by omega) (fun hm => (hX' _ hm).2.2.2.2.1 rfl) ⟨_, hl3, rfl⟩, fun b hb => by rw [World.putObj_size]; exact hX' b hb, fun b hb => by rw [World.putObj_size]; exact hYs W3 hx3.size b hb, hl4, hk4⟩, hkp⟩⟩
      | ret =>
        obtain ⟨hx3, hi3⟩ := hp
        obtain ⟨hr, hl3, hl4, hk4, -⟩ := fin (some .ret) W3 hx3
        exact ⟨_, _, hr, .inr ⟨rfl, .ret, (hIx _).put _ _ _ _ hi3 (by omega) ⟨_, hl3, rfl⟩, hl4, hk4⟩⟩
      | exit id =>
        obtain ⟨hx3, hi3⟩ := hp
        obtain ⟨hr, hl3, hl4, hk4, -⟩ := fin (some (.exit id)) W3 hx3
        exact ⟨_, _, hr, .inr ⟨rfl, .exit id, (hIx _).put _ _ _ _ hi3 (by omega) ⟨_, hl3, rfl⟩, hl4, hk4⟩⟩
      | goto t =>
        obtain ⟨hx3, hi3⟩ := hp
        obtain ⟨hr, hl3, hl4, hk4, -⟩ := fin (some (.goto t)) W3 hx3
        exact ⟨_, _, hr, .inr ⟨rfl, .goto t, (hIx _).put _ _ _ _ hi3 (by omega) ⟨_, hl3, rfl⟩, hl4, hk4⟩⟩
      | panic ch => exact hp.elim
      | outgrown => exact hp.elim
    · obtain ⟨q1, q2, q3⟩ := hX0 b hb
      exact ⟨q1, by omega, q3, by omega, by omega, fun h => by cases h⟩
    · -- behind the iterator
      rintro e W2 ⟨⟨v, rfl⟩, (⟨Y, X, hi, hx, -, hl, hk⟩ | ⟨k, hkN, t, hi, hl, hk⟩)⟩
      · exact ⟨none, _, by have := run_endLoop (P := P) hl (by rw [hrec]; simp); rw [hrec] at this; exact this, hdone _ X _ (Nat.le_refl _) (fun b hb => by rw [World.putObj_size]; obtain ⟨q1, q2, q3, q4, q5, q6⟩ := hx b hb; exact ⟨q1, q2, q4⟩) (hI.put _ _ _ _ _ hi (by omega) (fun hm => (hx _ hm).2.2.2.2.1 rfl) ⟨_, hl, rfl⟩) ((World.putObj_heap_other (by omega)).trans hk)⟩
      · exact ⟨some t, _, by have := run_endLoop (P := P) hl (by rw [hrec]; simp); rw [hrec] at this; exact this, hstop _ t k _ (Nat.le_refl _) hkN ((hIx t).put _ _ _ _ hi (by omega) ⟨_, hl, rfl⟩) ((World.putObj_heap_other (by omega)).trans hk)⟩
end Go.Proofs.YtbpdjmjkjiddjaaDoor.Base
