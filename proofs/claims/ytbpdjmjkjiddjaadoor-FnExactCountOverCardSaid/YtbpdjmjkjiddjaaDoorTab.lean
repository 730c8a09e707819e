/-
  Package-level tables of integers: the cells of one that reads as listed.
-/
import Derived.Test.YtbpdjmjkjiddjaaDoorShape
import Derived.Lib.LaidTab
namespace Go.Proofs.YtbpdjmjkjiddjaaDoor.Base
open Go.RowKit Go.ChangeShapes Go.WideShapes Go.ChangeAt
set_option linter.unusedVariables false
theorem cel_of_cells {w : World} {p : Nat} {cs : List Value} (hne : 0 < cs.length) (h : ∀ i v, cs[i]? = some v → w.cell? ⟨p, i, none⟩ = some v) : Cel w p cs :=
  ⟨World.block_lt_of_cell? _ ⟨p, 0, none⟩ (h 0 (cs[0]'hne) (List.getElem?_eq_getElem hne)), h⟩
/-- an array of arrays of integers that reads as listed holds the numbers, cell for cell -/
theorem cells_of_rows {H : Type} {enc : TypeId × Value → H} {P : Program} {w : World} {base : Nat} {sp : Nat → Bool} {held : Bool} {fuel : Nat} {t e e2 : TypeId} {n m : Nat} {cs : List Value} {rows : List (List Int)} {p : List MemPlace}
    (ht : P.underlying t = some (.array n e)) (he : P.underlying e = some (.array m e2)) (hi2 : P.underlying e2 = some (.int .i64)) (hce : P.cellsOf e = m) (hce2 : P.cellsOf e2 = 1)
    (h : DataW.trod enc P w base sp held fuel t cs = some (.agg (rows.map fun r => .agg (r.map fun z => .lit (.int .i64 z))), p)) (i j : Nat) (hi : i < n) (hj : j < m) (r : List Int) (z : Int) (hr : rows[i]? = some r) (hz : r[j]? = some z) :
    cs[i * m + j]? = some (.int .i64 z) := by
  obtain ⟨xs, k, -, hx, hlen, hn, hel⟩ := DataW.trod_array ht h
  have hxi := hel i hi
  rw [hce] at hxi
  have hxs : xs.map (·.1) = rows.map fun r => (DataW.agg (r.map fun z => .lit (.int .i64 z)) : DataW H) := by
    have := congrArg Prod.fst hx
    simpa using this.symm
  have hxl : xs[i]? = some (xs[i]'(by omega)) := List.getElem?_eq_getElem (by omega)
  rw [hxl] at hxi
  have h2 : (xs.map (·.1))[i]? = some (xs[i]'(by omega)).1 := by rw [List.getElem?_map, hxl]; rfl
  rw [hxs] at h2
  simp only [List.getElem?_map, hr, Option.map_some, Option.some.injEq] at h2
  have h3 : xs[i]'(by omega) = (Lib.tabData .i64 r, (xs[i]'(by omega)).2) := by
    rw [Lib.tabData, h2]
  rw [h3] at hxi
  have hc := Lib.cells_of_tab (k := .i64) he hi2 hce2 hce hxi
  have hcj : ((cs.drop (i * m)).take m)[j]? = some (.int .i64 z) := by
    rw [hc]
    simp [hz]
  rw [List.getElem?_take_of_lt hj, List.getElem?_drop] at hcj
  exact hcj
end Go.Proofs.YtbpdjmjkjiddjaaDoor.Base
