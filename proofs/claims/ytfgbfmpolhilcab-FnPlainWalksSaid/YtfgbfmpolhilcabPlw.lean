/-
  Walks in panels without breaks: PlainWalk and PlainReturn, the model's and the program's.
-/
import Derived.Test.YtfgbfmpolhilcabGcd
import Derived.Test.YtfgbfmpolhilcabWlk
import Derived.Test.YtfgbfmpolhilcabShape
import Derived.Laws.EntriesVeiled
namespace Go.Proofs.Ytfgbfmpolhilcab.Base
open Go Go.RowKit
set_option linter.unusedVariables false
set_option linter.unusedSimpArgs false

def plC (W H x y dx dy : Int) : Int := if bigB W && bigB H then (if goB W H x y dx dy then 0 else 1) else 2
section
variable {W H x y dx dy : Int}
theorem plC_no (h : (bigB W && bigB H) = false) : plC W H x y dx dy = 2 := by simp [plC, h]
theorem plC_bad (h : bigB W = true) (h' : bigB H = true) (g : goB W H x y dx dy = false) : plC W H x y dx dy = 1 := by simp [plC, h, h', g]
theorem plC_yes (h : bigB W = true) (h' : bigB H = true) (g : goB W H x y dx dy = true) : plC W H x y dx dy = 0 := by simp [plC, h, h', g]
theorem plC_zero (h : plC W H x y dx dy = 0) : bigB W = true ∧ bigB H = true ∧ goB W H x y dx dy = true := by
  unfold plC at h
  cases e : bigB W <;> cases e' : bigB H <;> cases g : goB W H x y dx dy <;> simp_all
theorem plC_bd : 0 ≤ plC W H x y dx dy ∧ plC W H x y dx dy ≤ 2 := by
  unfold plC
  split
  · split <;> omega
  · omega
end
theorem specGoG_is {w : World} {p : Nat} {W H : Int} {A : Option Addr} {n c : Nat} {x y dx dy : Int} {v : Bool} (h : goB W H x y dx dy = v) (hb : Box w p W H A n c) (hW : bigB W = true) (hH : bigB H = true) :
    Calls Try.prog 83 #[.pointer (some ⟨p, 0, none⟩), .agg #[.int .i64 x, .int .i64 y, .int .i64 dx, .int .i64 dy]] w (Gives (.bool v) w) := by rw [← h]; exact specGoG w p W H A n c x y dx dy hb hW hH
theorem impl_plainCode (w : World) (W H x y dx dy : Int) (wa : (Lit.int .i64 W).wf = true) (wb : (Lit.int .i64 H).wf = true) :
    Calls Try.prog 105 #[.int .i64 W, .int .i64 H, .agg #[.int .i64 x, .int .i64 y, .int .i64 dx, .int .i64 dy]] w (Gives (.int .i64 (plC W H x y dx dy)) w) := by
  cases hv : bigB W && bigB H
  · rw [plC_no hv]
    have HC := Lib.hid (fun w w1 p T h hp => impl_plain2 hv w w1 p T wa wb h hp)
    clear hv
    go_enter Try.func105, Try.ntmps105
    go_wp2_with fail
    refine (HC.out _ _ _ _ rfl (by simp)).mono ?_
    rintro e w1 ⟨rfl, rfl⟩
    go_wp2
    go_ret
    exact ⟨rfl, by go_grown⟩
  · have h2 : bigB W = true ∧ bigB H = true := by simpa using hv
    have H2 := Lib.hid h2
    have HC := Lib.hid (fun w w1 p T h hp => impl_plain2 hv w w1 p T wa wb h hp)
    cases hg : goB W H x y dx dy
    · rw [plC_bad h2.1 h2.2 hg]
      have HG := Lib.hid hg
      clear hv h2 hg
      go_enter Try.func105, Try.ntmps105
      go_wp2_with fail
      refine (HC.out _ _ _ _ rfl (by simp)).mono ?_
      rintro e w1 ⟨rfl, rfl⟩
      go_wp2_with fail
      refine (hasWalker_is HG.out H2.out.1 H2.out.2).mono ?_
      rintro e w2 ⟨rfl, b2⟩
      go_wp2
      go_ret
      exact ⟨rfl, Below.trans (by go_grown) (b2.mono (by simp; omega))⟩
    · rw [plC_yes h2.1 h2.2 hg]
      have HG := Lib.hid hg
      clear hv h2 hg
      go_enter Try.func105, Try.ntmps105
      go_wp2_with fail
      refine (HC.out _ _ _ _ rfl (by simp)).mono ?_
      rintro e w1 ⟨rfl, rfl⟩
      go_wp2_with fail
      refine (hasWalker_is HG.out H2.out.1 H2.out.2).mono ?_
      rintro e w2 ⟨rfl, b2⟩
      go_wp2
      go_ret
      exact ⟨rfl, Below.trans (by go_grown) (b2.mono (by simp; omega))⟩

/-- how often a walk of so many segments is closed -/
def prN (W H x y dx dy : Int) : Int := if plC W H x y dx dy = 0 then 4 * lcI W H else 0
theorem impl_PlainReturn (w : World) (W H x y dx dy : Int) (wa : (Lit.int .i64 W).wf = true) (wb : (Lit.int .i64 H).wf = true) :
    Calls Try.prog 59 #[.int .i64 W, .int .i64 H, .agg #[.int .i64 x, .int .i64 y, .int .i64 dx, .int .i64 dy]] w (Two (prN W H x y dx dy) (plC W H x y dx dy) w) := by
  have HC := Lib.hid (fun w => impl_plainCode w W H x y dx dy wa wb)
  by_cases hc : plC W H x y dx dy = 0
  · obtain ⟨ha, hb, hg⟩ := plC_zero hc
    have HL := Lib.hid (fun w => impl_PlainLength w W H wa wb)
    rw [(gd_yes ha hb).2.1, (gd_yes ha hb).2.2.2] at HL
    rw [show prN W H x y dx dy = 4 * lcI W H by simp [prN, hc], hc]
    rw [hc] at HC
    clear hc ha hb hg
    go_enter Try.func59, Try.ntmps59
    go_wp2_with fail
    refine (HC.out _).mono ?_
    rintro e w1 ⟨rfl, bx⟩
    have HB := Lib.hid (Below.trans (show Below w.heap.size w _ from (Below.refl _ _).alloc (Nat.le_refl _) _) (bx.mono (by simp)))
    clear bx
    go_wp2_with fail
    refine (HL.out _).mono ?_
    rintro e w2 ⟨rfl, bx⟩
    go_wp2
    go_ret2
    exact ⟨rfl, HB.out.trans (bx.mono HB.out.size)⟩
  · rw [show prN W H x y dx dy = 0 by simp [prN, hc]]
    have hcb : (plC W H x y dx dy != 0) = true := bne_iff_ne.2 hc
    have hcc : (plC W H x y dx dy == 0) = false := beq_eq_false_iff_ne.2 hc
    clear hc
    go_enter Try.func59, Try.ntmps59
    go_wp2_with fail
    refine (HC.out _).mono ?_
    rintro e w1 ⟨rfl, bx⟩
    go_wp2
    go_ret2
    exact ⟨rfl, Below.trans (show Below w.heap.size w _ from (Below.refl _ _).alloc (Nat.le_refl _) _) (bx.mono (by simp))⟩

/-! moving to and fro -/
def phS (m at' d : Int) : Int := if d < 0 then m - at' else at'
def phE (m at' d s : Int) : Int := (phS m at' d + s) % m
def mvE (E at' d s : Int) : Int := if phE (2 * E) at' d s < E then phE (2 * E) at' d s else 2 * E - phE (2 * E) at' d s
def mvG (E at' d s : Int) : Int := if phE (2 * E) at' d s < E then 1 else -1
theorem phE_bd {m at' d s : Int} (hm : 1 ≤ m) : 0 ≤ phE m at' d s ∧ phE m at' d s < m := ⟨Int.emod_nonneg _ (by omega), Int.emod_lt_of_pos _ (by omega)⟩
theorem impl_fro (w : World) (b : Nat) (at' d E s : Int) (hb : Cel w b [.int .i64 E]) (n1 : 1 ≤ E) (n2 : E ≤ 2000000) (x1 : 0 ≤ at') (x2 : at' ≤ E) (s1 : 0 ≤ s) (s2 : s ≤ 1000000000000) :
    Calls Try.prog 128 #[.int .i64 at', .int .i64 d, .int .i64 s, .pointer (some ⟨b, 0, none⟩)] w fun e w' => e = .returned (.tuple #[.int .i64 (mvE E at' d s), .int .i64 (mvG E at' d s)]) ∧ w = w' := by
  have hz := hb.1
  have k0 : w.cell? ⟨b, 0, none⟩ = some (.int .i64 E) := hb.2 0 _ rfl
  clear hb
  by_cases hd : d < 0
  · have hp0 : 0 ≤ 2 * E - at' := by omega
    obtain ⟨p1, p2⟩ : 0 ≤ (2 * E - at' + s) % (2 * E) ∧ (2 * E - at' + s) % (2 * E) < 2 * E := ⟨Int.emod_nonneg _ (by omega), Int.emod_lt_of_pos _ (by omega)⟩
    by_cases hp : (2 * E - at' + s) % (2 * E) < E
    · have HE := Lib.hid (show mvE E at' d s = (2 * E - at' + s) % (2 * E) ∧ mvG E at' d s = 1 by simp only [mvE, mvG, phE, phS, if_pos hd, if_pos hp, and_self])
      go_enter Try.func128, Try.ntmps128
      go_wp2
      go_ret2
      exact ⟨ret_eq HE.out.1.symm HE.out.2.symm, rfl⟩
    · have HE := Lib.hid (show mvE E at' d s = 2 * E - (2 * E - at' + s) % (2 * E) ∧ mvG E at' d s = -1 by simp only [mvE, mvG, phE, phS, if_pos hd, if_neg hp, and_self])
      go_enter Try.func128, Try.ntmps128
      go_wp2
      go_ret2
      exact ⟨ret_eq HE.out.1.symm HE.out.2.symm, rfl⟩
  · obtain ⟨p1, p2⟩ : 0 ≤ (at' + s) % (2 * E) ∧ (at' + s) % (2 * E) < 2 * E := ⟨Int.emod_nonneg _ (by omega), Int.emod_lt_of_pos _ (by omega)⟩
    by_cases hp : (at' + s) % (2 * E) < E
    · have HE := Lib.hid (show mvE E at' d s = (at' + s) % (2 * E) ∧ mvG E at' d s = 1 by simp only [mvE, mvG, phE, phS, if_neg hd, if_pos hp, and_self])
      go_enter Try.func128, Try.ntmps128
      go_wp2
      go_ret2
      exact ⟨ret_eq HE.out.1.symm HE.out.2.symm, rfl⟩
    · have HE := Lib.hid (show mvE E at' d s = 2 * E - (at' + s) % (2 * E) ∧ mvG E at' d s = -1 by simp only [mvE, mvG, phE, phS, if_neg hd, if_neg hp, and_self])
      go_enter Try.func128, Try.ntmps128
      go_wp2
      go_ret2
      exact ⟨ret_eq HE.out.1.symm HE.out.2.symm, rfl⟩
def FroMade (E : Int) (w : World) (e : Ending) (w' : World) : Prop :=
  e = .returned (.func (.func 128) #[] #[.pointer (some ⟨w.heap.size, 0, none⟩)]) ∧ Cel w' w.heap.size [.int .i64 E] ∧ Below w.heap.size w w'
theorem impl_toAndFro (w : World) (E : Int) : Calls Try.prog 106 #[.int .i64 E] w (FroMade E w) := by
  have hc := Cel.new w [.int .i64 E] 2
  have HC := Lib.hid hc
  clear hc
  go_enter Try.func106, Try.ntmps106
  go_wp2
  go_ret
  exact ⟨rfl, HC.out, by go_grown⟩

def pwC (W H x y dx dy s : Int) : Int := if plC W H x y dx dy = 0 then (if inB s 0 1000000000000 then 0 else 2) else plC W H x y dx dy
def pwV (W H x y dx dy s v : Int) : Int := if pwC W H x y dx dy s = 0 then v else 0
def pwX (W H x y dx dy s : Int) : Int := pwV W H x y dx dy s (mvE (2 * W) x dx s)
def pwY (W H x y dx dy s : Int) : Int := pwV W H x y dx dy s (mvE (2 * H) y dy s)
def pwDX (W H x y dx dy s : Int) : Int := pwV W H x y dx dy s (mvG (2 * W) x dx s)
def pwDY (W H x y dx dy s : Int) : Int := pwV W H x y dx dy s (mvG (2 * H) y dy s)
end Go.Proofs.Ytfgbfmpolhilcab.Base
