/-
  AllWalkers: spec's.
-/
import Derived.Test.YtfgbfmpolhilcabAll
namespace Go.Proofs.Ytfgbfmpolhilcab.Base
open Go.RowKit
set_option linter.unusedVariables false
set_option linter.unusedSimpArgs false

theorem infoWalker : (Try.prog.info? 61).map (fun i => (i.zero, i.size, i.bytes)) = some (some (.agg #[.int .i64 0, .int .i64 0, .int .i64 0, .int .i64 0]), 4, 32) := by kernel_rfl

theorem owns_below {wr wa : World} {base n : Nat} {e : TypeId} {v : Value} {xs : List Value} (h : wr.ownsRow base e 4 v n xs) (hb : Below wr.heap.size wr wa) : wa.ownsRow base e 4 v n xs :=
  h.kept (grown_of_below (r := none) hb) (by by_cases e : v.ownBlock = none <;> simp [e])
theorem ivs_one (l : List Int) : ∀ u ∈ ivs l, u.oneCell' = true := fun u hu => by
  obtain ⟨x, -, rfl⟩ := List.mem_map.1 hu
  rfl
theorem owns_far {w : World} {base n b : Nat} {e : TypeId} {v : Value} {xs : List Value} (h : w.ownsRow base e 4 v n xs) (hb : w.heap.size ≤ b) : some b ≠ v.ownBlock := fun e => by
  have := (h.lt b e.symm).2
  omega

theorem below_step {B : Nat} {w0 w2 wa : World} {o : Obj} (h : Below B w0 w2) (hb : Below (w2.alloc o).drew.heap.size (w2.alloc o).drew wa) (hB : B ≤ w2.heap.size := by first | assumption | omega) : Below B w0 wa :=
  ((h.alloc hB o).drew).trans (hb.mono (by simp [World.drew]; omega))
theorem cel_step {w2 wa : World} {p : Nat} {cs : List Value} {o : Obj} (h : Cel (w2.alloc o) p cs) (hb : Below (w2.alloc o).drew.heap.size (w2.alloc o).drew wa) : Cel wa p cs :=
  Cel.below (w := (w2.alloc o).drew) h hb h.1

theorem cel_grow {wa X w1 : World} {p : Nat} {cs : List Value} {r : Option Nat} (h : Cel wa p cs) (hg : X.grownBy w1 r) (hX : Below wa.heap.size wa X) (hne : r = some p → False) : Cel w1 p cs :=
  (h.below hX h.1).grownR hg hne
theorem below_grow {B : Nat} {w0 wa X w1 : World} {r : Option Nat} (h : Below B w0 wa) (hg : X.grownBy w1 r) (hX : Below wa.heap.size wa X) (hB : B ≤ wa.heap.size) (hr : ∀ b, r = some b → B ≤ b) : Below B w0 w1 :=
  (h.trans (hX.mono hB)).grown hg (Nat.le_trans hB hX.size) hr
theorem owns_next {w : World} {base k : Nat} {H : Int} {e : TypeId} {v : Value} (h : w.ownsRow base e 4 v (2 * k + 2) (ivs (wls H k) ++ ivs (wl8 H k))) : w.ownsRow base e 4 v (2 * (k + 1)) (ivs (wls H (k + 1))) := by
  rw [show ivs (wls H (k + 1)) = ivs (wls H k) ++ ivs (wl8 H k) from List.map_append]
  exact h

end Go.Proofs.Ytfgbfmpolhilcab.Base
