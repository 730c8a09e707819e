/-
  Slices of values in memory; the laws' lists of texts: equal, marked, held.
-/
import Derived.Test.YtbpdjmjkjiddjaaDoorMark
import Derived.Test.YtbpdjmjkjiddjaaDoorSpw
import Derived.Deep.RegionHeld3
import Derived.OwnWalk
import Derived.Laws.AppendOwn
import Derived.Deep.AppendLies
import Derived.Deep.DeepMust
import Derived.Lib.Strings
import Derived.Laws.DeepStrings4
namespace Go.Proofs.YtbpdjmjkjiddjaaDoor.Base
open Go Go.RowKit
open Go.PlainAid (bt get_bt bt_nonneg bt_le)
set_option linter.unusedVariables false
set_option linter.unusedSimpArgs false

theorem bcellS {w w' : World} {B : Nat} (h : Below B w w') : ∀ b o, b < B → w'.cell? ⟨b, o, none⟩ = w.cell? ⟨b, o, none⟩ := fun b o hb => h.cell (p := ⟨b, o, none⟩) hb
theorem oldMk {W w' : World} (h : Below W.heap.size W w') : (∀ b o, b < W.heap.size → w'.cell? ⟨b, o, none⟩ = W.cell? ⟨b, o, none⟩) ∧ Below W.heap.size W w' := ⟨bcellS h, h⟩
theorem oldTr {W w1 w2 : World} (h : (∀ b o, b < W.heap.size → w1.cell? ⟨b, o, none⟩ = W.cell? ⟨b, o, none⟩) ∧ Below W.heap.size W w1) (b : Below w1.heap.size w1 w2) : (∀ b o, b < W.heap.size → w2.cell? ⟨b, o, none⟩ = W.cell? ⟨b, o, none⟩) ∧ Below W.heap.size W w2 := oldMk (h.2.trans (b.mono h.2.size))
/-- a slice that reads as g -/
def VRow (w : World) (A : Option Addr) (n c : Nat) (g : Nat → Value) : Prop :=
  n ≤ c ∧ c ≤ maxLen ∧ (0 < n → ∃ b o, A = some ⟨b, o, none⟩ ∧ b < w.heap.size ∧ ∀ i, i < n → w.cell? ⟨b, o + i, none⟩ = some (g i))
/-- the same, made from block base on -/
def VOwn (w : World) (base : Nat) (A : Option Addr) (n c : Nat) (g : Nat → Value) : Prop :=
  n ≤ c ∧ c ≤ maxLen ∧ (0 < n → ∃ b o, A = some ⟨b, o, none⟩ ∧ base ≤ b ∧ b < w.heap.size ∧ ∀ i, i < n → w.cell? ⟨b, o + i, none⟩ = some (g i) ∧ w.frozen? ⟨b, o + i, none⟩ = false)
section
variable {w w' : World} {base : Nat} {A : Option Addr} {n c : Nat} {g : Nat → Value}
theorem VOwn.row (h : VOwn w base A n c g) : VRow w A n c g :=
  ⟨h.1, h.2.1, fun hn => by obtain ⟨b, o, e, _, hb, hc⟩ := h.2.2 hn; exact ⟨b, o, e, hb, fun i hi => (hc i hi).1⟩⟩
theorem VRow.below {B : Nat} (h : VRow w A n c g) (hb : Below B w w') (hB : w.heap.size ≤ B) : VRow w' A n c g :=
  ⟨h.1, h.2.1, fun hn => by
    obtain ⟨b, o, e, h2, hc⟩ := h.2.2 hn
    exact ⟨b, o, e, Nat.lt_of_lt_of_le h2 hb.size, fun i hi => (hb.cell (p := ⟨b, o + i, none⟩) (Nat.lt_of_lt_of_le h2 hB)).trans (hc i hi)⟩⟩
theorem VOwn.below {B : Nat} (h : VOwn w base A n c g) (hb : Below B w w') (hB : w.heap.size ≤ B) : VOwn w' base A n c g :=
  ⟨h.1, h.2.1, fun hn => by
    obtain ⟨b, o, e, h1, h2, hc⟩ := h.2.2 hn
    exact ⟨b, o, e, h1, Nat.lt_of_lt_of_le h2 hb.size, fun i hi => ⟨(hb.cell (p := ⟨b, o + i, none⟩) (Nat.lt_of_lt_of_le h2 hB)).trans (hc i hi).1, (hb.frozen (p := ⟨b, o + i, none⟩) (Nat.lt_of_lt_of_le h2 hB)).trans (hc i hi).2⟩⟩⟩
theorem VRow.grownR {r : Option Nat} (h : VRow w A n c g) (gr : w.grownBy w' r) (hne : ∀ b, 0 < n → blk A = some b → r = some b → False) : VRow w' A n c g :=
  ⟨h.1, h.2.1, fun hn => by
    obtain ⟨b, o, e, h2, hc⟩ := h.2.2 hn
    have hb := gr.block b h2 (fun e' => hne b hn (by rw [e]; rfl) e'.symm)
    exact ⟨b, o, e, Nat.lt_of_lt_of_le h2 gr.size, fun i hi => (World.cell?_of_block (a := ⟨b, o + i, none⟩) hb).trans (hc i hi)⟩⟩
theorem VOwn.grownR {r : Option Nat} (h : VOwn w base A n c g) (gr : w.grownBy w' r) (hne : ∀ b, 0 < n → blk A = some b → r = some b → False) : VOwn w' base A n c g :=
  ⟨h.1, h.2.1, fun hn => by
    obtain ⟨b, o, e, h1, h2, hc⟩ := h.2.2 hn
    have hb := gr.block b h2 (fun e' => hne b hn (by rw [e]; rfl) e'.symm)
    exact ⟨b, o, e, h1, Nat.lt_of_lt_of_le h2 gr.size, fun i hi => ⟨(World.cell?_of_block (a := ⟨b, o + i, none⟩) hb).trans (hc i hi).1, (World.frozen?_of_block (a := ⟨b, o + i, none⟩) hb).trans (hc i hi).2⟩⟩⟩
theorem VRow.blk_lt (h : VRow w A n c g) : 0 < n → ∀ b, blk A = some b → b < w.heap.size := fun hn b hb => by
  obtain ⟨b', o, e, h2, _⟩ := h.2.2 hn
  rw [e] at hb
  simp [blk] at hb
  omega
theorem VOwn.blk_ge (h : VOwn w base A n c g) : 0 < n → ∀ b, blk A = some b → base ≤ b := fun hn b hb => by
  obtain ⟨b', o, e, h2, _⟩ := h.2.2 hn
  rw [e] at hb
  simp [blk] at hb
  omega
theorem markedV_below {r : Option Nat} {B : Nat} (h : w.grownBy w' r) (hr : ∀ b, r = some b → 0 < n ∧ blk A = some b) (ho : VOwn w base A n c g) (hb : B ≤ base) (hs : base ≤ w.heap.size) : Below B w w' :=
  (Below.refl B w).grown h (Nat.le_trans hb hs) (fun b e => by
    obtain ⟨hn, hA⟩ := hr b e
    have := ho.blk_ge hn b hA
    omega)
end
theorem infoStr : (Tryd.prog.info? 9).map (fun i => (i.zero, i.size, i.bytes)) = some (some (.string ⟨#[]⟩), 1, 16) := by kernel_rfl
theorem sp_slice {w : World} {base n s : Nat} {e : TypeId} {v : Value} {xs : List Value} (h : w.ownsRow base e s v n xs) : ∃ A c, v = .slice A n c := by
  rcases h.2 with ⟨rfl, rfl⟩ | ⟨g, cap, cur, rfl, _⟩
  · exact ⟨none, 0, rfl⟩
  · exact ⟨_, cap, rfl⟩
theorem sp_below {wr wa : World} {base n s : Nat} {e : TypeId} {v : Value} {xs : List Value} (h : wr.ownsRow base e s v n xs) (hb : Below wr.heap.size wr wa) : wa.ownsRow base e s v n xs :=
  h.kept (grown_of_below (r := none) hb) (by by_cases e : v.ownBlock = none <;> simp [e])
theorem sp_new0 {X : World} {e : TypeId} {s base p : Nat} (hp : X.heap.size = p) (hb : base ≤ p) : (X.alloc (.cells #[] e)).ownsRow base e s (.slice (some ⟨p, 0, none⟩) 0 0) 0 [] := by
  subst hp
  exact World.ownsRow_lit (size := s) _ #[] 0 hb (Nat.zero_le _) (by simp)
theorem vown_of {w : World} {base base' : Nat} {A : Option Addr} {n c : Nat} {T : TypeId} {l : List ByteArray} (h : w.ownsRow base T 1 (.slice A n c) n (l.map Value.string)) (hb : base' ≤ base) (hn : n ≤ maxLen) : VOwn w base' A n c (fun i => .string (l.getD i ⟨#[]⟩)) := by
  have hl : l.length = n := by have := h.1; simpa using this
  rcases h.2 with ⟨e, rfl⟩ | ⟨b, cap, cur, e, hb', hgb, hnc, hcm, hcs, ht⟩
  · cases e
    exact ⟨Nat.le_refl _, Nat.zero_le _, fun h => absurd h (by omega)⟩
  · cases e
    refine ⟨hnc, hcm, fun hn' => ⟨b, 0, rfl, by omega, (Array.getElem?_eq_some_iff.1 hgb).1, fun i hi => ⟨?_, ?_⟩⟩⟩
    · rw [Nat.zero_add, h.cellAt i (by omega)]
      simp [List.getD_eq_getElem?_getD, List.getElem?_eq_getElem (show i < l.length by omega)]
    · rw [Nat.zero_add]
      exact h.frozenAt i
def digU (k : Nat) : UInt8 := UInt8.ofNat (48 + k % 10)
/-- the digits of a number ahead of a text -/
def dgt (k : Nat) (s : ByteArray) : ByteArray := if h : k = 0 then s else dgt (k / 10) (⟨#[digU k]⟩ ++ s)
termination_by k
decreasing_by omega
theorem dgt_zero (s : ByteArray) : dgt 0 s = s := by unfold dgt; rw [dif_pos rfl]
theorem dgt_step {k : Nat} (s : ByteArray) (h : 0 < k) : dgt k s = dgt (k / 10) (⟨#[digU k]⟩ ++ s) := by
  conv => lhs; unfold dgt
  rw [dif_neg (by omega)]
/-- the text that marks with k -/
def mkT (k : Int) : ByteArray := if k ≤ 0 then ⟨#[109, 48]⟩ else ⟨#[109]⟩ ++ dgt k.toNat ⟨#[]⟩
def MarkedV (base : Nat) (A : Option Addr) (n c : Nat) (k : Int) (w : World) (e : Ending) (w' : World) : Prop :=
  e = .returned (.int .i64 (k + n)) ∧ VOwn w' base A n c (fun i => .string (mkT (k + i))) ∧ Below base w w' ∧ ∃ r, w.grownBy w' r ∧ ∀ b, r = some b → 0 < n ∧ blk A = some b
end Go.Proofs.YtbpdjmjkjiddjaaDoor.Base
