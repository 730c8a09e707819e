/-
  Walks in panels without breaks: PlainWalk and PlainReturn, the model's and the program's.
-/
import Derived.Test.YtajikegfladelaaGcd
import Derived.Test.YtajikegfladelaaWlk
import Derived.Test.YtajikegfladelaaShape
import Derived.Laws.EntriesVeiled
namespace Go.Proofs.Ytajikegfladelaa.Base
open Go Go.RowKit
set_option linter.unusedVariables false
set_option linter.unusedSimpArgs false

def plC (W H x y dx dy : Int) : Int := if bigB W && bigB H then (if goB W H x y dx dy then 0 else 1) else 2
section
variable {W H x y dx dy : Int}
theorem plC_no (h : (bigB W && bigB H) = false) : plC W H x y dx dy = 2 := by simp [plC, h]
theorem plC_bad (h : bigB W = true) (h' : bigB H = true) (g : goB W H x y dx dy = false) : plC W H x y dx dy = 1 := by simp [plC, h, h', g]
theorem plC_yes (h : bigB W = true) (h' : bigB H = true) (g : goB W H x y dx dy = true) : plC W H x y dx dy = 0 := by simp [plC, h, h', g]
theorem plC_zero (h : plC W H x y dx dy = 0) : bigB W = true ∧ bigB H = true ∧ goB W H x y dx dy = true := by
  unfold plC at h
  cases e : bigB W <;> cases e' : bigB H <;> cases g : goB W H x y dx dy <;> simp_all
theorem plC_bd : 0 ≤ plC W H x y dx dy ∧ plC W H x y dx dy ≤ 2 := by
  unfold plC
  split
  · split <;> omega
  · omega
end
/-- how often a walk of so many segments is closed -/
def prN (W H x y dx dy : Int) : Int := if plC W H x y dx dy = 0 then 4 * lcI W H else 0
/-! moving to and fro -/
def phS (m at' d : Int) : Int := if d < 0 then m - at' else at'
def phE (m at' d s : Int) : Int := (phS m at' d + s) % m
def mvE (E at' d s : Int) : Int := if phE (2 * E) at' d s < E then phE (2 * E) at' d s else 2 * E - phE (2 * E) at' d s
def mvG (E at' d s : Int) : Int := if phE (2 * E) at' d s < E then 1 else -1
theorem phE_bd {m at' d s : Int} (hm : 1 ≤ m) : 0 ≤ phE m at' d s ∧ phE m at' d s < m := ⟨Int.emod_nonneg _ (by omega), Int.emod_lt_of_pos _ (by omega)⟩
def pwC (W H x y dx dy s : Int) : Int := if plC W H x y dx dy = 0 then (if inB s 0 1000000000000 then 0 else 2) else plC W H x y dx dy
def pwV (W H x y dx dy s v : Int) : Int := if pwC W H x y dx dy s = 0 then v else 0
def pwX (W H x y dx dy s : Int) : Int := pwV W H x y dx dy s (mvE (2 * W) x dx s)
def pwY (W H x y dx dy s : Int) : Int := pwV W H x y dx dy s (mvE (2 * H) y dy s)
def pwDX (W H x y dx dy s : Int) : Int := pwV W H x y dx dy s (mvG (2 * W) x dx s)
def pwDY (W H x y dx dy s : Int) : Int := pwV W H x y dx dy s (mvG (2 * H) y dy s)
end Go.Proofs.Ytajikegfladelaa.Base
