/-
  Tracing: spec's trace of one walker.
-/
import Derived.Test.YtdofeonkgaceeaaDoorTrc
import Derived.Test.YtdofeonkgaceeaaDoorTrn
import Derived.Test.YtdofeonkgaceeaaDoorAll
import Derived.Deep.DeepCutAuto
import Derived.Test.YtdofeonkgaceeaaDoorWst
namespace Go.Proofs.YtdofeonkgaceeaaDoor.Base
open Go.RowKit
set_option linter.unusedVariables false
set_option linter.unusedSimpArgs false

/-- the points of j steps, and the segments -/
def ptl (W H : Int) (f : Nat → Int) (v : W4) : Nat → List Int
  | 0 => []
  | j + 1 => ptl W H f v j ++ [(stps W H f j v).1, (stps W H f j v).2.1]
def sgl (W H : Int) (f : Nat → Int) (v : W4) : Nat → List Int
  | 0 => []
  | j + 1 => sgl W H f v j ++ [sg H (stps W H f j v)]
theorem infoPoint : (Tryd.prog.info? 43).map (fun i => (i.zero, i.size, i.bytes)) = some (some (.agg #[.int .i64 0, .int .i64 0]), 2, 16) := by kernel_rfl
/-- a row that the call owns is a slice of its length -/
theorem owns_slice {w : World} {base n s : Nat} {e : TypeId} {v : Value} {xs : List Value} (h : w.ownsRow base e s v n xs) : ∃ A c, v = .slice A n c := by
  rcases h.2 with ⟨rfl, rfl⟩ | ⟨g, cap, cur, rfl, _⟩
  · exact ⟨none, 0, rfl⟩
  · exact ⟨_, cap, rfl⟩
theorem owns_grown {w w1 : World} {base n s : Nat} {e : TypeId} {v : Value} {xs : List Value} {r : Option Nat} (h : w.ownsRow base e s v n xs) (hg : w.grownBy w1 r) (hne : v.ownBlock = none ∨ v.ownBlock ≠ r) : w1.ownsRow base e s v n xs :=
  h.kept hg (by rcases hne with h | h <;> simp [h])
theorem owns_belowS {wr wa : World} {base n s : Nat} {e : TypeId} {v : Value} {xs : List Value} (h : wr.ownsRow base e s v n xs) (hb : Below wr.heap.size wr wa) : wa.ownsRow base e s v n xs :=
  h.kept (grown_of_below (r := none) hb) (by by_cases e : v.ownBlock = none <;> simp [e])
/-- the two rows do not lie in one block -/
def ApartB (u v : Value) : Prop := ∀ g, u.ownBlock = some g → v.ownBlock = some g → False

def lenV : Value → Nat
  | .slice _ n _ => n
  | _ => 0
/-- the points and the segments of N steps, each in a row that the call has made -/
def TraceOut (W H : Int) (f : Nat → Int) (v : W4) (N : Nat) (w : World) (e : Ending) (w' : World) : Prop :=
  ∃ P c S d, e = .returned (.tuple #[.slice P N c, .slice S N d]) ∧ w'.ownsRow w.heap.size 43 2 (.slice P N c) N (ivs (ptl W H f v N)) ∧ w'.ownsRow w.heap.size 2 1 (.slice S N d) N (ivs (sgl W H f v N)) ∧ Below w.heap.size w w'
theorem owns_base {w : World} {base base' n s : Nat} {e : TypeId} {v : Value} {xs : List Value} (h : w.ownsRow base e s v n xs) (hb : base' ≤ base) : w.ownsRow base' e s v n xs := by
  refine ⟨h.1, ?_⟩
  rcases h.2 with h | ⟨g, cap, cur, rfl, h1, h2⟩
  · exact .inl h
  · exact .inr ⟨g, cap, cur, rfl, by omega, h2⟩
theorem owns_new0 {X : World} {e : TypeId} {s base p : Nat} (hp : X.heap.size = p) (hb : base ≤ p) : (X.alloc (.cells #[] e)).ownsRow base e s (.slice (some ⟨p, 0, none⟩) 0 0) 0 [] := by
  subst hp
  exact World.ownsRow_lit (size := s) _ #[] 0 hb (Nat.zero_le _) (by simp)
theorem At.newAt {X : World} {cs : Array Value} {T : TypeId} {p : Nat} (hp : X.heap.size = p) : At (X.alloc (.cells cs T)) p cs T := by
  subst hp
  exact At.new _ _ _
theorem alloc_below {B : Nat} {w X : World} (h : Below B w X) (hB : B ≤ X.heap.size) (o : Obj) : Below B w (X.alloc o) := h.alloc hB o
theorem ivs_two (a b : Int) : ∀ u ∈ ivs [a, b], u.oneCell' = true := fun u hu => by
  obtain ⟨x, -, rfl⟩ := List.mem_map.1 hu
  rfl
theorem ivs_1 (a : Int) : ∀ u ∈ ivs [a], u.oneCell' = true := fun u hu => by
  obtain ⟨x, -, rfl⟩ := List.mem_map.1 hu
  rfl
theorem ivs_app (a b : List Int) : ivs (a ++ b) = ivs a ++ ivs b := List.map_append
theorem owns_set {w : World} {base n s : Nat} {e : TypeId} {v : Value} {xs : List Value} (h : w.ownsRow base e s v n xs) {a : Addr} (hne : v.ownBlock ≠ some a.block) (u : Value) : (w.setCell a u).ownsRow base e s v n xs := by
  refine ⟨h.1, ?_⟩
  rcases h.2 with h | ⟨g, cap, cur, rfl, hb, hg, h4⟩
  · exact .inl h
  · exact .inr ⟨g, cap, cur, rfl, hb, (Below.heap_setCell w a u g (fun e => hne (by rw [e]; rfl))).trans hg, h4⟩
end Go.Proofs.YtdofeonkgaceeaaDoor.Base
