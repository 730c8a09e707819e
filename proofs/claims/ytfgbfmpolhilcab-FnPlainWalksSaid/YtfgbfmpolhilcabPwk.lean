/-
  FnPlainWalks' calls at drawn walkers.
-/
import Derived.Test.YtfgbfmpolhilcabPwm
import Derived.Test.YtfgbfmpolhilcabPwi
import Derived.Test.YtfgbfmpolhilcabWst
import Derived.Test.YtfgbfmpolhilcabA2w
namespace Go.Proofs.Ytfgbfmpolhilcab.Base
open Go Go.RowKit
set_option linter.unusedVariables false
set_option linter.unusedSimpArgs false

theorem lc_small {W H : Int} (hW : sideB W = true) (hH : sideB H = true) : 1 ≤ lcI W H ∧ lcI W H ≤ 64 := by
  obtain ⟨a1, a2⟩ := side_mk hW
  obtain ⟨b1, b2⟩ := side_mk hH
  rw [lcI_nat a1 b1]
  have h1 : 0 < Nat.lcm W.toNat H.toNat := Nat.lcm_pos (by omega) (by omega)
  have h2 : Nat.lcm W.toNat H.toNat ≤ W.toNat * H.toNat := Nat.le_of_dvd (Nat.mul_pos (by omega) (by omega)) (Nat.lcm_dvd_mul _ _)
  have h3 : W.toNat * H.toNat ≤ 8 * 8 := Nat.mul_le_mul (by omega) (by omega)
  omega
section
variable {W H x y dx dy s X Y DX DY ll : Int}
theorem pw_zero (hW : sideB W = true) (hH : sideB H = true) (hg : goB W H x y dx dy = true) (hs : inB s 0 1000000000000 = true) : pwC W H x y dx dy s = 0 := by
  unfold pwC
  rw [plC_yes (big_side hW) (big_side hH) hg, if_pos rfl, if_pos hs]
theorem pw_vals (h : pwC W H x y dx dy s = 0) (hv : mvE (2 * W) x dx s = X ∧ mvE (2 * H) y dy s = Y ∧ mvG (2 * W) x dx s = DX ∧ mvG (2 * H) y dy s = DY) :
    pwX W H x y dx dy s = X ∧ pwY W H x y dx dy s = Y ∧ pwDX W H x y dx dy s = DX ∧ pwDY W H x y dx dy s = DY := by
  simp only [pwX, pwY, pwDX, pwDY, pwV, if_pos h]
  exact hv
theorem wf_small {z : Int} (h : sideB z = true) : (Lit.int .i64 z).wf = true := by
  have := side_mk h
  exact WalkArith.wf_i64 (by omega)
theorem plw_k (w : World) (hW : sideB W = true) (hH : sideB H = true) (hg : goB W H x y dx dy = true) (hs : inB s 0 1000000000000 = true) (hv : mvE (2 * W) x dx s = X ∧ mvE (2 * H) y dy s = Y ∧ mvG (2 * W) x dx s = DX ∧ mvG (2 * H) y dy s = DY) :
    Calls Try.prog 57 #[.int .i64 W, .int .i64 H, .agg #[.int .i64 x, .int .i64 y, .int .i64 dx, .int .i64 dy], .int .i64 s] w (Gives (.tuple #[.agg #[.int .i64 X, .int .i64 Y, .int .i64 DX, .int .i64 DY], .int .i64 0]) w) := by
  have h0 := pw_zero hW hH hg hs
  obtain ⟨e1, e2, e3, e4⟩ := pw_vals h0 hv
  have h := impl_PlainWalk w W H x y dx dy s (wf_small hW) (wf_small hH)
  rwa [h0, e1, e2, e3, e4] at h
theorem mv_home (hW : sideB W = true) (hH : sideB H = true) (hg : goB W H x y dx dy = true) (hl : lcI W H = ll) :
    mvE (2 * W) x dx (4 * ll) = x ∧ mvE (2 * H) y dy (4 * ll) = y ∧ mvG (2 * W) x dx (4 * ll) = dx ∧ mvG (2 * H) y dy (4 * ll) = dy := by
  obtain ⟨a1, a2⟩ := side_mk hW
  obtain ⟨b1, b2⟩ := side_mk hH
  obtain ⟨s1, s2, p1, p2⟩ := go_yes hg
  obtain ⟨x1, x2, y1, y2, hm⟩ := has_yes p1
  obtain ⟨u1, u2, v1, v2, -⟩ := has_yes p2
  obtain ⟨e1, e2⟩ := mv_zero (E := 2 * W) x1 x2 u1 u2 s1
  obtain ⟨e3, e4⟩ := mv_zero (E := 2 * H) y1 y2 v1 v2 s2
  obtain ⟨d1, d2⟩ := lcI_dvd a1 b1
  rw [hl] at d1 d2
  have f1 : 2 * (2 * W) ∣ 4 * ll := by
    obtain ⟨q, rfl⟩ := d1
    exact ⟨q, by rw [show 2 * (2 * W) = 4 * W by omega, Int.mul_assoc]⟩
  have f2 : 2 * (2 * H) ∣ 4 * ll := by
    obtain ⟨q, rfl⟩ := d2
    exact ⟨q, by rw [show 2 * (2 * H) = 4 * H by omega, Int.mul_assoc]⟩
  have m1 := mv_add (a := x) (d := dx) (s := 0) f1
  have m2 := mv_add (a := y) (d := dy) (s := 0) f2
  rw [Int.add_zero, e1, e2] at m1
  rw [Int.add_zero, e3, e4] at m2
  exact ⟨m1.1, m2.1, m1.2, m2.2⟩
theorem home_k (w : World) (hW : sideB W = true) (hH : sideB H = true) (hg : goB W H x y dx dy = true) (hl : lcI W H = ll) :
    Calls Try.prog 57 #[.int .i64 W, .int .i64 H, .agg #[.int .i64 x, .int .i64 y, .int .i64 dx, .int .i64 dy], .int .i64 (4 * ll)] w (Gives (.tuple #[.agg #[.int .i64 x, .int .i64 y, .int .i64 dx, .int .i64 dy], .int .i64 0]) w) := by
  have := lc_small hW hH
  rw [hl] at this
  exact plw_k w hW hH hg (decide_eq_true ⟨by omega, by omega⟩) (mv_home hW hH hg hl)
theorem far_k (w : World) (hW : sideB W = true) (hH : sideB H = true) (hg : goB W H x y dx dy = true) (hl : lcI W H = ll) (hs : inB s 0 1000000000000 = true) (hs2 : s < 256) (hv : mvE (2 * W) x dx s = X ∧ mvE (2 * H) y dy s = Y ∧ mvG (2 * W) x dx s = DX ∧ mvG (2 * H) y dy s = DY) :
    Calls Try.prog 57 #[.int .i64 W, .int .i64 H, .agg #[.int .i64 x, .int .i64 y, .int .i64 dx, .int .i64 dy], .int .i64 (1000000 * (4 * ll) + s)] w (Gives (.tuple #[.agg #[.int .i64 X, .int .i64 Y, .int .i64 DX, .int .i64 DY], .int .i64 0]) w) := by
  have hl2 := lc_small hW hH
  rw [hl] at hl2
  have hs1 := (in_yes hs).1
  obtain ⟨a1, a2⟩ := side_mk hW
  obtain ⟨b1, b2⟩ := side_mk hH
  obtain ⟨d1, d2⟩ := lcI_dvd a1 b1
  rw [hl] at d1 d2
  have f1 : 2 * (2 * W) ∣ 1000000 * (4 * ll) := by
    obtain ⟨q, rfl⟩ := d1
    exact ⟨1000000 * q, by rw [show 2 * (2 * W) = 4 * W by omega]; simp only [Int.mul_assoc, Int.mul_left_comm, Int.mul_comm]⟩
  have f2 : 2 * (2 * H) ∣ 1000000 * (4 * ll) := by
    obtain ⟨q, rfl⟩ := d2
    exact ⟨1000000 * q, by rw [show 2 * (2 * H) = 4 * H by omega]; simp only [Int.mul_assoc, Int.mul_left_comm, Int.mul_comm]⟩
  refine plw_k w hW hH hg (decide_eq_true ⟨by omega, by omega⟩) ?_
  rw [(mv_add f1).1, (mv_add f1).2, (mv_add f2).1, (mv_add f2).2]
  exact hv
theorem pret_k (w : World) (hW : sideB W = true) (hH : sideB H = true) (hg : goB W H x y dx dy = true) (hl : lcI W H = ll) :
    Calls Try.prog 59 #[.int .i64 W, .int .i64 H, .agg #[.int .i64 x, .int .i64 y, .int .i64 dx, .int .i64 dy]] w (Gives (.tuple #[.int .i64 (4 * ll), .int .i64 0]) w) := by
  have h0 : plC W H x y dx dy = 0 := plC_yes (big_side hW) (big_side hH) hg
  have h := impl_PlainReturn w W H x y dx dy (wf_small hW) (wf_small hH)
  rwa [show prN W H x y dx dy = 4 * ll by simp [prN, h0, hl], h0] at h
theorem valid_zero {N : Nat} (hW : sideB W = true) (hH : sideB H = true) (hN : (N : Int) = inner W H) : validB W H N (fun _ => 0) = true := valid_mk hW hH hN (kinds_iff.2 fun j _ => ⟨by omega, by omega⟩)
theorem wsteps_k (w : World) {A : Option Addr} {N c : Nat} (hr : Row .i64 w A N c (fun _ => 0)) (hW : sideB W = true) (hH : sideB H = true) (hN : (N : Int) = inner W H) (hg : goB W H x y dx dy = true) (s1 : 0 ≤ s) (s2 : s < 256) (hv : mvE (2 * W) x dx s = X ∧ mvE (2 * H) y dy s = Y ∧ mvG (2 * W) x dx s = DX ∧ mvG (2 * H) y dy s = DY) :
    Calls Try.prog 58 #[.agg #[.int .i64 W, .int .i64 H, .slice A N c], .agg #[.int .i64 x, .int .i64 y, .int .i64 dx, .int .i64 dy], .int .i64 s] w (Gives (.tuple #[.agg #[.int .i64 X, .int .i64 Y, .int .i64 DX, .int .i64 DY], .int .i64 0]) w) := by
  have hw : wkB W H N (fun _ => 0) x y dx dy = true := by rw [wk_is (valid_zero hW hH hN)]; exact hg
  have h := spec_walkStepsOk w W H A N c (fun _ => 0) x y dx dy s hr hw (decide_eq_true ⟨s1, by omega⟩)
  obtain ⟨e, -⟩ := plain_walk hW hH hg s.toNat
  rw [show ((s.toNat : Nat) : Int) = s by omega, hv.1, hv.2.1, hv.2.2.1, hv.2.2.2] at e
  rw [e] at h
  exact h
/-- one comes back when told, and not before -/
theorem back_when (hW : sideB W = true) (hH : sideB H = true) (hg : goB W H x y dx dy = true) (hl : lcI W H = ll) (s1 : 0 ≤ s) (hv : mvE (2 * W) x dx s = x ∧ mvE (2 * H) y dy s = y ∧ mvG (2 * W) x dx s = dx ∧ mvG (2 * H) y dy s = dy) : s % (4 * ll) = 0 := by
  obtain ⟨a1, a2⟩ := side_mk hW
  obtain ⟨b1, b2⟩ := side_mk hH
  obtain ⟨t1, t2, p1, p2⟩ := go_yes hg
  obtain ⟨x1, x2, y1, y2, hm⟩ := has_yes p1
  obtain ⟨u1, u2, v1, v2, -⟩ := has_yes p2
  obtain ⟨e1, e2⟩ := mv_zero (E := 2 * W) x1 x2 u1 u2 t1
  obtain ⟨e3, e4⟩ := mv_zero (E := 2 * H) y1 y2 v1 v2 t2
  have h1 := mv_back (E := 2 * W) (by omega) (hv.1.trans e1.symm) (hv.2.2.1.trans e2.symm)
  have h2 := mv_back (E := 2 * H) (by omega) (hv.2.1.trans e3.symm) (hv.2.2.2.trans e4.symm)
  rw [show 2 * (2 * W) = 4 * W by omega] at h1
  rw [show 2 * (2 * H) = 4 * H by omega] at h2
  have h3 := lcI_least a1 b1 s1 h1 h2
  rw [hl] at h3
  exact Int.emod_eq_zero_of_dvd h3
end
end Go.Proofs.Ytfgbfmpolhilcab.Base
