/-
  AllWalkers: the list, and the slice that owns it; spec's.
-/
import Derived.Test.YtbpdjmjkjiddjaaDoorWls
import Derived.Test.YtbpdjmjkjiddjaaDoorWlk
import Derived.Test.YtbpdjmjkjiddjaaDoorClone
import Derived.Deep.AppendLies
import Derived.Laws.OwnMore
namespace Go.Proofs.YtbpdjmjkjiddjaaDoor.Base
open Go.RowKit
set_option linter.unusedVariables false
set_option linter.unusedSimpArgs false

/-- the eight numbers of a segment: its walker to the right, and the one that goes back -/
def wl8 (H : Int) (s : Nat) : List Int := [wtX H s, wtY H s, 1, wtD H s, wtX H s + 1, wtY H s + wtD H s, -1, -(wtD H s)]
def wls (H : Int) : Nat → List Int
  | 0 => []
  | k + 1 => wls H k ++ wl8 H k
theorem wls_length (H : Int) : ∀ k, (wls H k).length = 2 * k * 4
  | 0 => rfl
  | k + 1 => by simp [wls, wl8, wls_length H k]; omega
theorem wt_rng {W H : Int} {s : Nat} (hW : sideB W = true) (hH : sideB H = true) (h : (s : Int) < 4 * W * H) : 0 ≤ wtX H s ∧ wtX H s ≤ 15 ∧ 0 ≤ wtY H s ∧ wtY H s ≤ 16 ∧ signB (wtD H s) = true ∧ (s : Int) ≤ 255 ∧ 0 ≤ wtY H s + wtD H s ∧ wtY H s + wtD H s ≤ 17 := by
  obtain ⟨a1, a2⟩ := side_mk hW
  obtain ⟨m0, m1⟩ := segs_bd hW hH
  have h255 : (s : Int) ≤ 255 := by omega
  obtain ⟨b1, b2, b3, b4, b5, b6⟩ := wt_bd (s := (s : Int)) hH (by omega) h255
  have hx : (s : Int) / (2 * H) < 2 * W := Int.ediv_lt_of_lt_mul (by omega) (by rw [show 2 * W * (2 * H) = 4 * W * H by rw [Int.mul_comm 2 W, Int.mul_assoc W 2 (2 * H), ← Int.mul_assoc 2 2 H, ← Int.mul_assoc W (2 * 2) H, Int.mul_comm W (2 * 2)]; rfl]; exact h)
  refine ⟨b1, by unfold wtX; omega, ?_, ?_, ?_, h255, ?_, ?_⟩
  · unfold wtY; split <;> omega
  · unfold wtY; split <;> omega
  · unfold wtD; split <;> rfl
  · unfold wtY wtD; split <;> omega
  · unfold wtY wtD; split <;> omega
theorem sign_is {d : Int} (h : signB d = true) : -1 ≤ d ∧ d ≤ 1 := sign_bd h
theorem wls_wf {W H : Int} (hW : sideB W = true) (hH : sideB H = true) : ∀ k : Nat, (k : Int) ≤ 4 * W * H → ∀ x ∈ wls H k, (Lit.int .i64 x).wf = true
  | 0, _ => fun x hx => by simp [wls] at hx
  | k + 1, hk => fun x hx => by
    rcases List.mem_append.1 hx with hx | hx
    · exact wls_wf hW hH k (by omega) x hx
    · obtain ⟨c1, c2, c3, c4, c5, c6, c7, c8⟩ := wt_rng (s := k) hW hH (by omega)
      obtain ⟨d1, d2⟩ := sign_is c5
      simp only [wl8, List.mem_cons, List.not_mem_nil, or_false] at hx
      rcases hx with rfl | rfl | rfl | rfl | rfl | rfl | rfl | rfl <;> exact WalkArith.wf_i64 (by omega)

theorem ownS_of_owns {w : World} {base n : Nat} {xs : List Int} {v : Value} {e : TypeId} (h : w.ownsRow base e 4 v n (ivs xs)) (hw : ∀ x ∈ xs, (Lit.int .i64 x).wf = true) :
    ∃ A c, v = .slice A n c ∧ OwnS 4 w base A n c (fun i => xs.getD i 0) := by
  have hl : xs.length = n * 4 := by have := h.1; simpa [ivs] using this
  have hwf : ∀ i, i < n * 4 → (Lit.int .i64 (xs.getD i 0)).wf = true := fun i hi => by
    rw [show xs.getD i 0 = xs[i]'(by omega) by simp [List.getD, List.getElem?_eq_getElem (show i < xs.length by omega)]]
    exact hw _ (List.getElem_mem _)
  rcases h.2 with ⟨rfl, rfl⟩ | ⟨g, cap, cur, rfl, hb, hg, hnc, hcm, hcs, ht⟩
  · exact ⟨none, 0, rfl, Nat.le_refl _, Nat.zero_le _, hwf, fun h => absurd h (by omega)⟩
  · refine ⟨_, cap, rfl, hnc, hcm, hwf, fun hn => ⟨g, 0, rfl, hb, ?_, fun i hi => ⟨?_, ?_⟩⟩⟩
    · rcases Nat.lt_or_ge g w.heap.size with h | h
      · exact h
      · rw [Array.getElem?_eq_none h] at hg; cases hg
    · rw [Nat.zero_add, h.cellAt i hi]
      simp [ivs, List.getElem?_eq_getElem (show i < xs.length by omega)]
    · rw [Nat.zero_add]
      exact h.frozenAt i

def allN (W H : Int) (n : Nat) (f : Nat → Int) : Nat := 2 * (segN W H n f).toNat
def allF (W H : Int) (n : Nat) (f : Nat → Int) : Nat → Int := fun i => (wls H (segN W H n f).toNat).getD i 0
/-- a slice that reads as all walkers, made from block base on, and the code -/
def AllOut (base : Nat) (W H : Int) (n : Nat) (f : Nat → Int) (w : World) (e : Ending) (w' : World) : Prop :=
  ∃ A c, e = .returned (.tuple #[.slice A (allN W H n f) c, .int .i64 (okC W H n f)]) ∧ OwnS 4 w' base A (allN W H n f) c (allF W H n f) ∧ Below base w w'
theorem allN_le (W H : Int) (n : Nat) (f : Nat → Int) : allN W H n f ≤ 1048576 := by
  unfold allN
  cases hv : validB W H n f
  · rw [(segN_no hv).1]
    omega
  · obtain ⟨hW, hH, -, -⟩ := validB_yes hv
    obtain ⟨m0, m1⟩ := segs_bd hW hH
    rw [(segN_yes hv).1]
    omega
end Go.Proofs.YtbpdjmjkjiddjaaDoor.Base
