/-
  FnSegments: the contracts at a segment's two walkers.
-/
import Derived.Test.YtfgbfmpolhilcabSgo
import Derived.Test.YtfgbfmpolhilcabAllI
import Derived.Test.YtfgbfmpolhilcabWlk
import Derived.Test.YtfgbfmpolhilcabPnt
namespace Go.Proofs.Ytfgbfmpolhilcab.Base
open Go.RowKit
set_option linter.unusedVariables false

section
variable {W H : Int} {A : Option Addr} {n c : Nat} {f : Nat → Int}
theorem walkerAt_k (w : World) (k : Nat) (hr : Row .i64 w A n c f) (hv : validB W H n f = true) (h : (k : Int) < 4 * W * H) :
    Calls Try.prog 54 #[.agg #[.int .i64 W, .int .i64 H, .slice A n c], .int .i64 k] w (Gives (.tuple #[.agg #[.int .i64 (wtX H k), .int .i64 (wtY H k), .int .i64 1, .int .i64 (wtD H k)], .int .i64 0]) w) := by
  have hk : inB (k : Int) 0 (4 * W * H - 1) = true := decide_eq_true ⟨by omega, by omega⟩
  have h' := impl_walkerAt w W H A n c f k hr
  obtain ⟨e1, e2⟩ := wt_in hv hk
  simpa only [e1, e2] using h'
theorem validWalker_k (w : World) (k : Nat) (hr : Row .i64 w A n c f) (hv : validB W H n f = true) (h : (k : Int) < 4 * W * H) :
    Calls Try.prog 39 #[.agg #[.int .i64 W, .int .i64 H, .slice A n c], .agg #[.int .i64 (wtX H k), .int .i64 (wtY H k), .int .i64 1, .int .i64 (wtD H k)]] w (Gives (.bool true) w) := by
  have h' := spec_validWalker w W H A n c f (wtX H k) (wtY H k) 1 (wtD H k) hr
  rwa [(seg_go hv h).1] at h'
theorem backWalker_k (w : World) (k : Nat) (hr : Row .i64 w A n c f) (hv : validB W H n f = true) (h : (k : Int) < 4 * W * H) :
    Calls Try.prog 44 #[.agg #[.int .i64 W, .int .i64 H, .slice A n c], .agg #[.int .i64 (wtX H k), .int .i64 (wtY H k), .int .i64 1, .int .i64 (wtD H k)]] w (Gives (.tuple #[.agg #[.int .i64 (wtX H k + 1), .int .i64 (wtY H k + wtD H k), .int .i64 (-1), .int .i64 (-wtD H k)], .int .i64 0]) w) := by
  have h' := spec_backWalker w W H A n c f (wtX H k) (wtY H k) 1 (wtD H k) hr
  have hb := (seg_go hv h).1
  have e : wkC W H n f (wtX H k) (wtY H k) 1 (wtD H k) = 0 := by simp [wkC, hb]
  simpa only [bkV_yes hb, e] using h'
theorem segmentR_k (w : World) (k : Nat) (hr : Row .i64 w A n c f) (hv : validB W H n f = true) (h : (k : Int) < 4 * W * H) :
    Calls Try.prog 48 #[.agg #[.int .i64 W, .int .i64 H, .slice A n c], .agg #[.int .i64 (wtX H k), .int .i64 (wtY H k), .int .i64 1, .int .i64 (wtD H k)]] w (Gives (.tuple #[.int .i64 k, .int .i64 0]) w) := by
  have h' := impl_segmentOf w W H A n c f (wtX H k) (wtY H k) 1 (wtD H k) hr
  have hb := (seg_go hv h).1
  have e : wkC W H n f (wtX H k) (wtY H k) 1 (wtD H k) = 0 := by simp [wkC, hb]
  obtain ⟨hW, hH, -, -⟩ := validB_yes hv
  rwa [sgN_yes hb, e, (seg_pts hW hH h).2.2.2.1] at h'
theorem segmentL_k (w : World) (k : Nat) (hr : Row .i64 w A n c f) (hv : validB W H n f = true) (h : (k : Int) < 4 * W * H) :
    Calls Try.prog 48 #[.agg #[.int .i64 W, .int .i64 H, .slice A n c], .agg #[.int .i64 (wtX H k + 1), .int .i64 (wtY H k + wtD H k), .int .i64 (-1), .int .i64 (-wtD H k)]] w (Gives (.tuple #[.int .i64 k, .int .i64 0]) w) := by
  have h' := impl_segmentOf w W H A n c f (wtX H k + 1) (wtY H k + wtD H k) (-1) (-wtD H k) hr
  have hb := (seg_go hv h).2
  have e : wkC W H n f (wtX H k + 1) (wtY H k + wtD H k) (-1) (-wtD H k) = 0 := by simp [wkC, hb]
  obtain ⟨hW, hH, -, -⟩ := validB_yes hv
  rwa [sgN_yes hb, e, (seg_pts hW hH h).2.2.2.2] at h'
end
/-- the eight cells of a segment in the list of all -/
theorem wls_at (H : Int) : ∀ (m : Nat) (k : Nat), k < m → ∀ i, i < 8 → (wls H m).getD (k * 8 + i) 0 = (wl8 H k).getD i 0
  | m + 1, k, hk, i, hi => by
    have hl : (wls H m).length = m * 8 := by rw [wls_length]; omega
    by_cases h : k < m
    · have := wls_at H m k h i hi
      rw [← this]
      simp only [wls, List.getD]
      rw [List.getElem?_append_left (by omega)]
    · have e : k = m := by omega
      subst e
      simp only [wls, List.getD]
      rw [List.getElem?_append_right (by omega), hl, Nat.add_sub_cancel_left]
theorem wls_at0 (H : Int) {m k : Nat} (hk : k < m) : (wls H m).getD (2 * k * 4) 0 = wtX H k ∧ (wls H m).getD (2 * k * 4 + 1) 0 = wtY H k ∧ (wls H m).getD (2 * k * 4 + 2) 0 = 1 ∧ (wls H m).getD (2 * k * 4 + 3) 0 = wtD H k ∧
    (wls H m).getD ((2 * k + 1) * 4) 0 = wtX H k + 1 ∧ (wls H m).getD ((2 * k + 1) * 4 + 1) 0 = wtY H k + wtD H k ∧ (wls H m).getD ((2 * k + 1) * 4 + 2) 0 = -1 ∧ (wls H m).getD ((2 * k + 1) * 4 + 3) 0 = -wtD H k := by
  have h := wls_at H m k hk
  have e : 2 * k * 4 = k * 8 := by omega
  have e' : (2 * k + 1) * 4 = k * 8 + 4 := by omega
  rw [e, e', Nat.add_assoc (k * 8) 4 1, Nat.add_assoc (k * 8) 4 2, Nat.add_assoc (k * 8) 4 3]
  exact ⟨by simpa [wl8] using h 0 (by omega), by simpa [wl8] using h 1 (by omega), by simpa [wl8] using h 2 (by omega), by simpa [wl8] using h 3 (by omega), by simpa [wl8] using h 4 (by omega), by simpa [wl8] using h 5 (by omega), by simpa [wl8] using h 6 (by omega), by simpa [wl8] using h 7 (by omega)⟩
/-- the eight cells of segment k at address b, o -/
def SegAt (w : World) (b o : Nat) (H : Int) (k : Nat) : Prop :=
  b < w.heap.size ∧ w.cell? ⟨b, o + 2 * k * 4, none⟩ = some (.int .i64 (wtX H k)) ∧ w.cell? ⟨b, o + 2 * k * 4 + 1, none⟩ = some (.int .i64 (wtY H k)) ∧ w.cell? ⟨b, o + 2 * k * 4 + 2, none⟩ = some (.int .i64 1) ∧ w.cell? ⟨b, o + 2 * k * 4 + 3, none⟩ = some (.int .i64 (wtD H k)) ∧
    w.cell? ⟨b, o + (2 * k + 1) * 4, none⟩ = some (.int .i64 (wtX H k + 1)) ∧ w.cell? ⟨b, o + (2 * k + 1) * 4 + 1, none⟩ = some (.int .i64 (wtY H k + wtD H k)) ∧ w.cell? ⟨b, o + (2 * k + 1) * 4 + 2, none⟩ = some (.int .i64 (-1)) ∧ w.cell? ⟨b, o + (2 * k + 1) * 4 + 3, none⟩ = some (.int .i64 (-wtD H k))
theorem segAt_of {w : World} {b o M c : Nat} {H : Int} (h : RowS 4 w (some ⟨b, o, none⟩) (2 * M) c (fun i => (wls H M).getD i 0)) {k : Nat} (hk : k < M) : SegAt w b o H k := by
  obtain ⟨b', o', e, hb, hc⟩ := h.2.2.2 (by omega)
  injection e with e
  injection e with e1 e2
  subst e1 e2
  obtain ⟨v0, v1, v2, v3, v4, v5, v6, v7⟩ := wls_at0 H hk
  refine ⟨hb, ?_, ?_, ?_, ?_, ?_, ?_, ?_, ?_⟩
  · exact (hc _ (by omega)).trans (congrArg (fun z => some (Value.int .i64 z)) v0)
  · rw [Nat.add_assoc]
    exact (hc _ (by omega)).trans (congrArg (fun z => some (Value.int .i64 z)) v1)
  · rw [Nat.add_assoc]
    exact (hc _ (by omega)).trans (congrArg (fun z => some (Value.int .i64 z)) v2)
  · rw [Nat.add_assoc]
    exact (hc _ (by omega)).trans (congrArg (fun z => some (Value.int .i64 z)) v3)
  · exact (hc _ (by omega)).trans (congrArg (fun z => some (Value.int .i64 z)) v4)
  · rw [Nat.add_assoc]
    exact (hc _ (by omega)).trans (congrArg (fun z => some (Value.int .i64 z)) v5)
  · rw [Nat.add_assoc]
    exact (hc _ (by omega)).trans (congrArg (fun z => some (Value.int .i64 z)) v6)
  · rw [Nat.add_assoc]
    exact (hc _ (by omega)).trans (congrArg (fun z => some (Value.int .i64 z)) v7)
theorem countSegs_k {W H : Int} {A : Option Addr} {n c : Nat} {f : Nat → Int} (w : World) (hr : Row .i64 w A n c f) (hv : validB W H n f = true) :
    Calls Try.prog 52 #[.agg #[.int .i64 W, .int .i64 H, .slice A n c]] w (Gives (.tuple #[.int .i64 (4 * W * H), .int .i64 0]) w) := by
  have h := impl_countSegments w W H A n c f hr
  rwa [(segN_yes hv).1, (segN_yes hv).2] at h
theorem allWalkers_k {W H : Int} {A : Option Addr} {n c : Nat} {f : Nat → Int} (w : World) (hr : Row .i64 w A n c f) (hv : validB W H n f = true) {M : Nat} (hM : (M : Int) = 4 * W * H) :
    Calls Try.prog 53 #[.agg #[.int .i64 W, .int .i64 H, .slice A n c]] w (ListOut 4 (2 * M) (fun i => (wls H M).getD i 0) 0 w.heap.size w) := by
  have h := impl_allWalkers w W H A n c f hr
  have e : M = (segN W H n f).toNat := by rw [(segN_yes hv).1]; omega
  unfold AllOut allN allF at h
  rw [← e, (segN_yes hv).2] at h
  exact h
end Go.Proofs.Ytfgbfmpolhilcab.Base
