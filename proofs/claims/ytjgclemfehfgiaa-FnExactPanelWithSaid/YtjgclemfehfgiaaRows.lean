/-
  No cell of these rows narrows 'for every input' (looked for: loops, veiled, ifaces, maps, wideKeys, modest, calm, conditions, laid).
  DERIVED. THE GIVEN ROWS OF THIS SEAT. 3 by the template 'for every input the law returns true; each argument reads behind the call as it read before'; 0 by the template 'total and deterministic' (their statements: YtjgclemfehfgiaaTotals.lean).
  GIVEN WITH THE SEED: the statements are not yours to turn. If you find one false, say at which input.
  Laid BY PROGRAM, IN A SANDBOX (cutbox-rows.mjs): the forced cells as the released guide's own fill.sh prints them over the translation d574bd892b248e07… (all of the seat's roots in one cut). By AI agents, Wed Nov 11 2026. No macro, syntax, notation, axiom, sorry.
-/
import Derived.Test.YtjgclemfehfgiaaChecked
import GoSem.Claim
import GoSem.ClaimJoined
import GoSem.ClaimMapViews
import Derived.JoinedTies
import Derived.KernelRfl
namespace Go.Proofs.Ytjgclemfehfgiaa
/- THE CELL 'sum', in the pinned program and in every row, IS THE sha256 OF THE DUMP (.gsa) THAT YtjgclemfehfgiaaProg.lean LOADS. Nothing in Lean hashes anything: it is a label: what it is worth is what the hold of that sum in a sandbox is worth. -/
noncomputable def Try.pinned : Pinned := { name := "ytjgclemfehfgiaa", sum := "d574bd892b248e07250b8b214aa9bf709dc45af66b2deff638a0a633a4345892", checked := Try.checked }
namespace Rows
def none {H : Type} : Left H := { results := [], args := [] }

/-- 'laws.FnExactPanelCount': WHATEVER THE INPUT: true; the input reads as it did. -/
def fnExactPanelCountSpec : ChangeSpec := { name := "fnExactPanelCount", fn := fun _ => fun
  | [d1, d2] => { results := [.lit (.bool true)], args := [d1, d2] }
  | _ => none }
def fnExactPanelCountRow : OpenClaim := { program := "ytjgclemfehfgiaa", sum := "d574bd892b248e07250b8b214aa9bf709dc45af66b2deff638a0a633a4345892", func := "loop.example/g00931/laws.FnExactPanelCount", spec := "fnExactPanelCount", apart := false }
def FnExactPanelCountSaid : Prop := fnExactPanelCountRow.holds Try.pinned (OpenSpec.ofChange fnExactPanelCountSpec)

/-- ITS FALSE NEIGHBOUR: 'it returns false'. Refute it at one input. -/
def fnExactPanelCountWrong : ChangeSpec := { name := "fnExactPanelCount", fn := fun _ => fun
  | [d1, d2] => { results := [.lit (.bool false)], args := [d1, d2] }
  | _ => none }
def FnExactPanelCountWrongFalsely : Prop := fnExactPanelCountRow.holds Try.pinned (OpenSpec.ofChange fnExactPanelCountWrong)

/-- 'laws.FnExactPanelNumber': WHATEVER THE INPUT: true; the input reads as it did. -/
def fnExactPanelNumberSpec : ChangeSpec := { name := "fnExactPanelNumber", fn := fun _ => fun
  | [d] => { results := [.lit (.bool true)], args := [d] }
  | _ => none }
def fnExactPanelNumberRow : OpenClaim := { program := "ytjgclemfehfgiaa", sum := "d574bd892b248e07250b8b214aa9bf709dc45af66b2deff638a0a633a4345892", func := "loop.example/g00931/laws.FnExactPanelNumber", spec := "fnExactPanelNumber", apart := false }
def FnExactPanelNumberSaid : Prop := fnExactPanelNumberRow.holds Try.pinned (OpenSpec.ofChange fnExactPanelNumberSpec)

/-- ITS FALSE NEIGHBOUR: 'it returns false'. Refute it at one input. -/
def fnExactPanelNumberWrong : ChangeSpec := { name := "fnExactPanelNumber", fn := fun _ => fun
  | [d] => { results := [.lit (.bool false)], args := [d] }
  | _ => none }
def FnExactPanelNumberWrongFalsely : Prop := fnExactPanelNumberRow.holds Try.pinned (OpenSpec.ofChange fnExactPanelNumberWrong)

/-- 'laws.FnExactPanelWith': WHATEVER THE INPUT: true; the input reads as it did. -/
def fnExactPanelWithSpec : ChangeSpec := { name := "fnExactPanelWith", fn := fun _ => fun
  | [d1, d2, d3] => { results := [.lit (.bool true)], args := [d1, d2, d3] }
  | _ => none }
def fnExactPanelWithRow : OpenClaim := { program := "ytjgclemfehfgiaa", sum := "d574bd892b248e07250b8b214aa9bf709dc45af66b2deff638a0a633a4345892", func := "loop.example/g00931/laws.FnExactPanelWith", spec := "fnExactPanelWith", unfollowed := true, recurses := true, apart := false }
def FnExactPanelWithSaid : Prop := fnExactPanelWithRow.holds Try.pinned (OpenSpec.ofChange fnExactPanelWithSpec)

/-- ITS FALSE NEIGHBOUR: 'it returns false'. Refute it at one input. -/
def fnExactPanelWithWrong : ChangeSpec := { name := "fnExactPanelWith", fn := fun _ => fun
  | [d1, d2, d3] => { results := [.lit (.bool false)], args := [d1, d2, d3] }
  | _ => none }
def FnExactPanelWithWrongFalsely : Prop := fnExactPanelWithRow.holds Try.pinned (OpenSpec.ofChange fnExactPanelWithWrong)

/- THE SECOND FORM. 'bulk': how many values and letters a reading holds, each counted each time it is reached (what is shared counts as often as it is met; a slice's spare places count too). A statement '..UptoSaid' is the law's where the arguments, and the package variables that the reading takes, are together of bulk at most 1048576: NARROWER than '..Said'. Prove '..Said' where nothing that the law and all that it calls make is longer than what came in: it says more and counts as full. Else prove '..UptoSaid'. A law counts once. -/
mutual
def uptoBulk {H : Type} : DataW H → Nat
  | .lit (.string bytes) => bytes.length + 1
  | .lit _ => 1
  | .nil => 1
  | .ptr d => uptoBulk d + 1
  | .slice elems spare => uptoBulkAll elems + uptoBulkAll spare + 1
  | .agg parts => uptoBulkAll parts + 1
  | .iface _ d => uptoBulk d + 1
  | .map entries => uptoBulkEntries entries + 1
  | .held _ => 1
def uptoBulkAll {H : Type} : List (DataW H) → Nat
  | [] => 0
  | d :: r => uptoBulk d + uptoBulkAll r
def uptoBulkEntries {H : Type} : List (Lit × DataW H) → Nat
  | [] => 0
  | x :: r => uptoBulkEntry x + uptoBulkEntries r
def uptoBulkEntry {H : Type} : Lit × DataW H → Nat
  | (.string bytes, d) => bytes.length + uptoBulk d + 1
  | (_, d) => uptoBulk d + 1
 end
def uptoSmall : (H : Type) → List (DataW H) → Bool := fun _ ds => decide (uptoBulkAll ds ≤ 1048576)
def OpenSpec.upto (s : _root_.Go.ChangeSpec) : _root_.Go.OpenSpec := { _root_.Go.OpenSpec.ofChange s with cond := some uptoSmall }

/-- 'laws.FnExactPanelCount', WHERE WHAT IT READS IS OF BULK AT MOST 1048576: true; the input reads as it did. -/
def fnExactPanelCountUptoRow : OpenClaim := { program := "ytjgclemfehfgiaa", sum := "d574bd892b248e07250b8b214aa9bf709dc45af66b2deff638a0a633a4345892", func := "loop.example/g00931/laws.FnExactPanelCount", spec := "fnExactPanelCount", apart := false, narrowed := true }
def FnExactPanelCountUptoSaid : Prop := fnExactPanelCountUptoRow.holds Try.pinned (OpenSpec.upto fnExactPanelCountSpec)

/-- 'laws.FnExactPanelNumber', WHERE WHAT IT READS IS OF BULK AT MOST 1048576: true; the input reads as it did. -/
def fnExactPanelNumberUptoRow : OpenClaim := { program := "ytjgclemfehfgiaa", sum := "d574bd892b248e07250b8b214aa9bf709dc45af66b2deff638a0a633a4345892", func := "loop.example/g00931/laws.FnExactPanelNumber", spec := "fnExactPanelNumber", apart := false, narrowed := true }
def FnExactPanelNumberUptoSaid : Prop := fnExactPanelNumberUptoRow.holds Try.pinned (OpenSpec.upto fnExactPanelNumberSpec)

/-- 'laws.FnExactPanelWith', WHERE WHAT IT READS IS OF BULK AT MOST 1048576: true; the input reads as it did. -/
def fnExactPanelWithUptoRow : OpenClaim := { program := "ytjgclemfehfgiaa", sum := "d574bd892b248e07250b8b214aa9bf709dc45af66b2deff638a0a633a4345892", func := "loop.example/g00931/laws.FnExactPanelWith", spec := "fnExactPanelWith", unfollowed := true, recurses := true, apart := false, narrowed := true }
def FnExactPanelWithUptoSaid : Prop := fnExactPanelWithUptoRow.holds Try.pinned (OpenSpec.upto fnExactPanelWithSpec)

end Rows
end Go.Proofs.Ytjgclemfehfgiaa
