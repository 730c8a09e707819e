/-
  A forest in memory: elements that point to their parents; the element that stands for a group.
-/
import Derived.Test.YtgdmojkfpghmnaaFrm
import Derived.Test.YtgdmojkfpghmnaaWls
import Derived.Test.YtgdmojkfpghmnaaAll
import Derived.Test.YtgdmojkfpghmnaaHeap
import Derived.Deep.AppendLies
import Derived.Deep.RegionLaw
import Derived.IntWalk
import Derived.LaidEqlPtr
import Derived.Lib.Builder
namespace Go.Proofs.Ytgdmojkfpghmnaa.Base
open Go Go.RowKit
set_option linter.unusedVariables false
set_option linter.unusedSimpArgs false

theorem run_neq_ptr_other {P : Program} (w : World) {tp te : TypeId} {j : TypeInfo} {a b : Addr} {ca cb : Array Value} {ta tb : TypeId} (hp : P.underlying tp = some (.pointer te)) (hte : P.info? te = some j) (hsz : j.size ≠ 0)
    (hne : a ≠ b) (ha : w.heap[a.block]? = some (.cells ca ta (0, 0))) (hb : w.heap[b.block]? = some (.cells cb tb (0, 0))) :
    (binOp .neq tp (.pointer (some a)) (.pointer (some b))).run P w = .ok (.bool true) w := by
  have h : ∀ d : Nat, (Op.equalIn (d + 1) tp (.pointer (some a)) (.pointer (some b))).run P w = .ok false w := fun d => by
    simp [Op.equalIn, run_underlying hp, sizeOf, typeInfo, hte, hsz, run_sameAddr_other w hne ha hb]
  simp only [binOp]
  simp [Op.equal, Op.maxDepth, h 9999]
/-- changes as values -/
def chV (E : Nat) (L : List (Nat × Nat)) : List Value := L.flatMap fun c => [.pointer (some ⟨E, c.1 * 2, none⟩), .pointer (some ⟨E, c.2 * 2, none⟩)]
theorem chV_len (E : Nat) (L : List (Nat × Nat)) : (chV E L).length = L.length * 2 := by
  induction L with
  | nil => rfl
  | cons a r ih => simp [chV] at ih ⊢; omega
/-- all but the blocks F and E below base is kept -/
structure Frm (base F E : Nat) (w w' : World) : Prop where
  os : w'.os = w.os
  tape : w'.tape = w.tape
  output : w'.output = w.output
  size : w.heap.size ≤ w'.heap.size
  block : ∀ k, k < base → k ≠ F → k ≠ E → w'.heap[k]? = w.heap[k]?
theorem Frm.refl (base F E : Nat) (w : World) : Frm base F E w w := ⟨rfl, rfl, rfl, Nat.le_refl _, fun _ _ _ _ => rfl⟩
theorem Frm.trans {base F E : Nat} {a b c : World} (h : Frm base F E a b) (k : Frm base F E b c) : Frm base F E a c :=
  ⟨k.os.trans h.os, k.tape.trans h.tape, k.output.trans h.output, Nat.le_trans h.size k.size, fun i h1 h2 h3 => (k.block i h1 h2 h3).trans (h.block i h1 h2 h3)⟩
theorem Frm.below {base F E B : Nat} {a b : World} (h : Frm base F E a b) (h1 : B ≤ F) (h2 : B ≤ E) (h3 : B ≤ base) : Below B a b := ⟨h.os, h.tape, h.output, h.size, fun k hk => h.block k (by omega) (by omega) (by omega)⟩
def evN : Value → Nat | .pointer (some a) => a.off / 2 | _ => 0
/-- all blocks but F, E and the changes' are kept; the changes lie where they lay, or anew -/
def Kpt (F E : Nat) (cv cv' : Value) (w w' : World) : Prop :=
  (∀ k, k < w.heap.size → k ≠ F → k ≠ E → cv.ownBlock ≠ some k → w'.heap[k]? = w.heap[k]?) ∧ ∀ q, cv'.ownBlock = some q → cv.ownBlock = some q ∨ w.heap.size ≤ q
theorem Kpt.refl (F E : Nat) (cv : Value) (w : World) : Kpt F E cv cv w w := ⟨fun _ _ _ _ _ => rfl, fun q h => .inl h⟩
end Go.Proofs.Ytgdmojkfpghmnaa.Base
