/-
  FnPlain's calls: the formulas, and tracing in panels without breaks.
-/
import Derived.Test.YtajikegfladelaaCtr
import Derived.Test.YtajikegfladelaaCln
import Derived.Test.YtajikegfladelaaSsz
import Derived.Test.YtajikegfladelaaPnt
import Derived.Test.YtajikegfladelaaPwm
namespace Go.Proofs.Ytajikegfladelaa.Base
open Go Go.RowKit
set_option linter.unusedVariables false
set_option linter.unusedSimpArgs false

theorem wf_side {z : Int} (h : sideB z = true) : (Lit.int .i64 z).wf = true := by
  have := side_mk h
  exact WalkArith.wf_i64 (by omega)
theorem valid_zeros {W H : Int} {N : Nat} (hW : sideB W = true) (hH : sideB H = true) (hN : (N : Int) = inner W H) : validB W H N (fun _ => 0) = true := valid_mk hW hH hN (kinds_iff.2 fun j _ => ⟨by omega, by omega⟩)
theorem lc_small8 {W H : Int} (hW : sideB W = true) (hH : sideB H = true) : 1 ≤ lcI W H ∧ lcI W H ≤ 64 := by
  obtain ⟨a1, a2⟩ := side_mk hW
  obtain ⟨b1, b2⟩ := side_mk hH
  rw [lcI_nat a1 b1]
  have h1 : 0 < Nat.lcm W.toNat H.toNat := Nat.lcm_pos (by omega) (by omega)
  have h2 : Nat.lcm W.toNat H.toNat ≤ W.toNat * H.toNat := Nat.le_of_dvd (Nat.mul_pos (by omega) (by omega)) (Nat.lcm_dvd_mul _ _)
  have h3 : W.toNat * H.toNat ≤ 8 * 8 := Nat.mul_le_mul (by omega) (by omega)
  omega
/-- what the formulas say of a size -/
structure PlnIs (W H : Int) (G : Nat) (ll tt : Int) : Prop where
  g : gcI W H = G
  l : lcI W H = ll
  t : 2 * (W + H) / gcI W H = tt
theorem pln_prod {W H : Int} {G : Nat} {ll tt : Int} (hW : sideB W = true) (hH : sideB H = true) (h : PlnIs W H G ll tt) : (G : Int) * ll = W * H ∧ W % G = 0 ∧ H % G = 0 ∧ 1 ≤ (G : Int) ∧ (G : Int) ≤ 8 ∧ 0 ≤ W * H ∧ W * H ≤ 64 := by
  obtain ⟨a1, a2⟩ := side_mk hW
  obtain ⟨b1, b2⟩ := side_mk hH
  have hg := h.g
  have hl := h.l
  rw [lcI_nat a1 b1] at hl
  have p1 : 0 ≤ W * H := Int.mul_nonneg (by omega) (by omega)
  have p2 : W * H ≤ 8 * 8 := Int.mul_le_mul a2 b2 (by omega) (by omega)
  have g1 := gcI_pos (b := H) a1
  have g2 := gcI_le (b := H) a1
  obtain ⟨a, rfl⟩ : ∃ a : Nat, W = a := ⟨W.toNat, by omega⟩
  obtain ⟨b, rfl⟩ : ∃ b : Nat, H = b := ⟨H.toNat, by omega⟩
  unfold gcI at hg g1 g2
  simp only [Int.toNat_natCast] at hg hl g1 g2
  have hgn : Nat.gcd a b = G := by omega
  rw [hgn] at g1 g2
  refine ⟨?_, ?_, ?_, g1, by omega, p1, by omega⟩
  · rw [← hl, ← hgn, ← Int.natCast_mul, ← Int.natCast_mul, Nat.gcd_mul_lcm]
  · rw [← hgn]; exact Int.emod_eq_zero_of_dvd (Int.natCast_dvd_natCast.2 (Nat.gcd_dvd_left a b))
  · rw [← hgn]; exact Int.emod_eq_zero_of_dvd (Int.natCast_dvd_natCast.2 (Nat.gcd_dvd_right a b))
section
variable {W H : Int} {G : Nat} {ll tt : Int}
theorem curves_f (w : World) (hW : sideB W = true) (hH : sideB H = true) (h : PlnIs W H G ll tt) : Calls Try.prog 10 #[.int .i64 W, .int .i64 H] w (Two G 0 w) := by
  have h' := impl_PlainCurves w W H (wf_side hW) (wf_side hH)
  obtain ⟨e1, e2, e3, e4⟩ := gd_yes (big_side hW) (big_side hH)
  rwa [e1, e4, h.g] at h'
theorem divisor_f (w : World) (hW : sideB W = true) (hH : sideB H = true) (h : PlnIs W H G ll tt) : Calls Try.prog 14 #[.int .i64 W, .int .i64 H] w (Two G 0 w) := by
  have h' := impl_GreatestDivisor w W H (wf_side hW) (wf_side hH)
  obtain ⟨e1, e2, e3, e4⟩ := gd_yes (big_side hW) (big_side hH)
  rwa [e1, e4, h.g] at h'
theorem multiple_f (w : World) (hW : sideB W = true) (hH : sideB H = true) (h : PlnIs W H G ll tt) : Calls Try.prog 15 #[.int .i64 W, .int .i64 H] w (Two ll 0 w) := by
  have h' := impl_LeastMultiple w W H (wf_side hW) (wf_side hH)
  obtain ⟨e1, e2, e3, e4⟩ := gd_yes (big_side hW) (big_side hH)
  rwa [e2, e4, h.l] at h'
theorem length_f (w : World) (hW : sideB W = true) (hH : sideB H = true) (h : PlnIs W H G ll tt) : Calls Try.prog 11 #[.int .i64 W, .int .i64 H] w (Two (4 * ll) 0 w) := by
  have h' := impl_PlainLength w W H (wf_side hW) (wf_side hH)
  obtain ⟨e1, e2, e3, e4⟩ := gd_yes (big_side hW) (big_side hH)
  rwa [e2, e4, h.l] at h'
theorem touches_f (w : World) (hW : sideB W = true) (hH : sideB H = true) (h : PlnIs W H G ll tt) : Calls Try.prog 12 #[.int .i64 W, .int .i64 H] w (Two tt 0 w) := by
  have h' := impl_PlainTouches w W H (wf_side hW) (wf_side hH)
  obtain ⟨e1, e2, e3, e4⟩ := gd_yes (big_side hW) (big_side hH)
  rwa [e3, e4, h.t] at h'
theorem pln_cnt (hW : sideB W = true) (hH : sideB H = true) (h : PlnIs W H G ll tt) : cnN W H (fun _ => 0) = G := by
  obtain ⟨a1, -⟩ := plain_is hW hH
  rw [h.g] at a1
  show (trE W H (fun _ => 0)).cnt = G
  omega
theorem lengths_f (w : World) {A : Option Addr} {N c : Nat} (hr : Row .i64 w A N c (fun _ => 0)) (hW : sideB W = true) (hH : sideB H = true) (hN : (N : Int) = inner W H) (h : PlnIs W H G ll tt) :
    Calls Try.prog 13 #[.agg #[.int .i64 W, .int .i64 H, .slice A N c]] w (ListOut 1 G (lnF W H (fun _ => 0)) 0 w.heap.size w) := by
  have hv := valid_zeros hW hH hN
  have h' := spec_curveLengths w W H A N c (fun _ => 0) hr
  have e1 : lnN W H N (fun _ => 0) = G := by unfold lnN; rw [if_pos hv]; exact pln_cnt hW hH h
  have e2 : okC W H N (fun _ => 0) = 0 := (segN_yes hv).2
  rwa [e1, e2] at h'
theorem lnF_is (hW : sideB W = true) (hH : sideB H = true) (h : PlnIs W H G ll tt) {i : Nat} (hi : i < G) : lnF W H (fun _ => 0) i = 4 * ll := by
  obtain ⟨-, a2⟩ := plain_is hW hH
  have hc := pln_cnt hW hH h
  obtain ⟨b1, -⟩ := a2 i (by show i < cnN W H (fun _ => 0); rw [hc]; exact hi)
  unfold lnF
  rw [b1, h.l]
theorem touched_f (w : World) {A : Option Addr} {N c : Nat} (hr : Row .i64 w A N c (fun _ => 0)) (hW : sideB W = true) (hH : sideB H = true) (hN : (N : Int) = inner W H) (h : PlnIs W H G ll tt) {i : Nat} (hi : i < G) :
    Calls Try.prog 17 #[.agg #[.int .i64 W, .int .i64 H, .slice A N c], .int .i64 (i : Int)] w (Gives (.tuple #[.int .i64 tt, .int .i64 0]) w) := by
  have hv := valid_zeros hW hH hN
  have hc := pln_cnt hW hH h
  have h' := spec_touchesOf w W H A N c (fun _ => 0) i hr
  have e1 : cuC W H N (fun _ => 0) (i : Int) = 0 := cu_in hv (decide_eq_true ⟨by omega, by rw [hc]; omega⟩)
  have e2 : toV W H N (fun _ => 0) (i : Int) = tt := by
    unfold toV
    rw [if_pos e1]
    obtain ⟨-, a2⟩ := plain_is hW hH
    obtain ⟨-, b2⟩ := a2 i (by show i < cnN W H (fun _ => 0); rw [hc]; exact hi)
    rw [Int.toNat_natCast, b2, h.t]
  rwa [e1, e2] at h'
theorem sizes_f (w : World) (hH : sideB H = true) : Calls Try.prog 16 #[.int .i64 H] w (ListOut 1 (ssM H) (ssF H) 0 w.heap.size w) := by
  have h' := impl_singleSizes w H
  rwa [show ssN H = ssM H by unfold ssN; rw [if_pos hH], show ssC H = 0 by unfold ssC; rw [if_pos hH]] at h'
/-- whether W is one of the first k widths of the list -/
def fnd (W H : Int) (k : Nat) : Bool := (List.range k).any fun i => ssF H i == W
theorem fnd_succ (k : Nat) : fnd W H (k + 1) = (fnd W H k || ssF H k == W) := by simp [fnd, List.range_succ, List.any_append]
theorem fnd_all (hW : sideB W = true) (h : PlnIs W H G ll tt) : fnd W H (ssM H) = ((G : Int) == 1) := by
  obtain ⟨a1, a2⟩ := side_mk hW
  rw [Bool.eq_iff_iff, beq_iff_eq, ← h.g]
  have hm := ssI_mem (h := H) 8 W
  have e : fnd W H (ssM H) = true ↔ W ∈ ssI H 8 := by
    unfold fnd
    simp only [List.any_eq_true, List.mem_range, beq_iff_eq]
    constructor
    · rintro ⟨i, hi, e⟩
      unfold ssF at e
      rw [← e, List.getD_eq_getElem?_getD, List.getElem?_eq_getElem (show i < (ssI H 8).length from hi)]
      exact List.getElem_mem _
    · intro hw
      obtain ⟨i, hi, e⟩ := List.getElem_of_mem hw
      exact ⟨i, hi, by unfold ssF; rw [List.getD_eq_getElem?_getD, List.getElem?_eq_getElem hi]; exact e⟩
  rw [e, hm]
  exact ⟨fun h => h.2.2, fun h => ⟨a1, by omega, h⟩⟩
end
end Go.Proofs.Ytajikegfladelaa.Base
