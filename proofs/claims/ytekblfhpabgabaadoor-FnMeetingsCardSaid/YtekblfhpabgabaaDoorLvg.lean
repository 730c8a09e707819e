/-
  A row that says 'leaving' out of the same row that says 'alone'.
-/
import Derived.JoinedCond
import Derived.Leaving
import Derived.RowKit
import Derived.SevenTiedAt
namespace Go.Proofs.YtekblfhpabgabaaDoor.Base
open Go Go.RowKit
set_option linter.unusedVariables false

theorem leaving_of {p : Pinned} {s : OpenSpec} {c : OpenClaim} (ht : c.leaving = true) (hw : c.wf s = true) (hstart : c.start = .entering) (hst : c.stops = []) (h : ({ c with leaving := false } : OpenClaim).holds p s) : c.holds p s := by
  obtain ⟨_, a2, a3, a4, a5, a6, a7, a8, f, fn, b1, b2, c1, c2, c3, c4, c5, c6, c7, c8, c9, c10, c11, c12, c13, c14, c15, c16, c17, c18, d1, L, hL, hall⟩ := h
  refine ⟨hw, a2, a3, a4, a5, a6, a7, a8, f, fn, b1, b2, c1, c2, c3, c4, c5, c6, c7, c8, c9, c10, c11, c12, c13, c14, c15, c16, c17, c18, d1, L, hL, fun os st hq H enc inj => ?_⟩
  have F := hall os st hq H enc inj
  unfold OpenClaim.form at F ⊢
  dsimp only at F
  rw [hstart, hst] at F ⊢
  intro FF
  have G := F FF
  have e1 : c.atReturn p.checked.prog = leavingAtReturn p.checked.prog := by unfold OpenClaim.atReturn; rw [ht]
  rw [e1]
  obtain ⟨g1, g2, g3, g4, all⟩ := G
  refine ⟨g1, g2, g3, g4, fun w tape i hf => ?_⟩
  obtain ⟨n, v, w', r1, r2, r3, r4, ⟨j, last, r5, r6, r7⟩, r8⟩ := all w tape i hf
  have r7 : aloneAtReturn p.checked.prog last w' _ := r7
  exact ⟨n, v, w', r1, r2, r3, r4, ⟨j, last, r5, r6, r7.2.1, onlyLeaving_of_quiet r7.1, r7.2.2⟩, r8⟩

/-- a tied card whose cell 'goes' may be on -/
theorem tied_goes (Lk : Looks) {p : Pinned} {s : OpenSpec} {c : OpenClaim} (kinds : List LaidKind) (tests : Bool) (har : Bool × String) (lk g : Bool)
    (hc : c.holds p s) (hw : c.wfByText s = true) (htie : c.laidByTextAt Lk p kinds tests)
    (hst : c.start = .entering) (hnb : c.noBlocks = false ∧ c.again = false) (hm : p.checked.prog.mainIs = some (har.1, har.2.toList)) (hn : (!har.1 && har.2.isEmpty && !lk) = false)
    (hl : ∀ f fn, p.checked.prog.funcNamed c.func = some f → p.checked.prog.funcs[f]? = some fn → lk = p.checked.prog.looks [] ∧ ∀ (j : Nat) t, fn.params[j]? = some t → p.checked.prog.wantsStandIn t = false)
    (hg : g = c.goesBy p.checked.prog) :
    Claim7.holds p (.plain s) { stood := { row := c, standIns := [], harness := har, looks := lk }, kinds := [], alts := [], goes := g, laidByText := true, laidKinds := kinds, laidTests := tests, laidLooks := Lk } := by
  have h6 : Claim7.isSixth { stood := { row := c, standIns := [], harness := har, looks := lk }, kinds := [] } = false := by simpa [Claim7.isSixth] using hn
  exact ⟨Claim7.tied_new_at Lk kinds tests (Claim7.new_of_sixth hc har lk hst hnb hm h6 hl) hw, (fun D hD => by cases hD), htie, (fun h => by cases h), hg⟩
end Go.Proofs.YtekblfhpabgabaaDoor.Base
