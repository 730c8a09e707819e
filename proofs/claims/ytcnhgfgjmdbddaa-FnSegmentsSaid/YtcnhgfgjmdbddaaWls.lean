/-
  Slices of walkers: rows of elements of several cells; the laws' equality, marks.
-/
import Derived.Test.YtcnhgfgjmdbddaaWlkC
import Derived.Test.YtcnhgfgjmdbddaaAt
namespace Go.Proofs.Ytcnhgfgjmdbddaa.Base
open Go.RowKit
set_option linter.unusedVariables false
set_option linter.unusedSimpArgs false

/-- a slice of n elements of s integers each, in memory -/
def RowS (s : Nat) (w : World) (A : Option Addr) (n c : Nat) (f : Nat → Int) : Prop :=
  n ≤ c ∧ c ≤ maxLen ∧ (∀ i, i < n * s → (Lit.int .i64 (f i)).wf = true) ∧
  (0 < n → ∃ b o, A = some ⟨b, o, none⟩ ∧ b < w.heap.size ∧ ∀ i, i < n * s → w.cell? ⟨b, o + i, none⟩ = some (.int .i64 (f i)))
def OwnS (s : Nat) (w : World) (base : Nat) (A : Option Addr) (n c : Nat) (f : Nat → Int) : Prop :=
  n ≤ c ∧ c ≤ maxLen ∧ (∀ i, i < n * s → (Lit.int .i64 (f i)).wf = true) ∧
  (0 < n → ∃ b o, A = some ⟨b, o, none⟩ ∧ base ≤ b ∧ b < w.heap.size ∧ ∀ i, i < n * s → w.cell? ⟨b, o + i, none⟩ = some (.int .i64 (f i)) ∧ w.frozen? ⟨b, o + i, none⟩ = false)
section
variable {s : Nat} {w w' : World} {base : Nat} {A : Option Addr} {n c : Nat} {f : Nat → Int}
theorem OwnS.row (h : OwnS s w base A n c f) : RowS s w A n c f :=
  ⟨h.1, h.2.1, h.2.2.1, fun hn => by obtain ⟨b, o, e, _, hb, hc⟩ := h.2.2.2 hn; exact ⟨b, o, e, hb, fun i hi => (hc i hi).1⟩⟩
theorem RowS.below {B : Nat} (h : RowS s w A n c f) (hb : Below B w w') (hB : w.heap.size ≤ B) : RowS s w' A n c f :=
  ⟨h.1, h.2.1, h.2.2.1, fun hn => by
    obtain ⟨b, o, e, h1, h2⟩ := h.2.2.2 hn
    exact ⟨b, o, e, Nat.lt_of_lt_of_le h1 hb.size, fun i hi => (hb.cell (p := ⟨b, o + i, none⟩) (Nat.lt_of_lt_of_le h1 hB)).trans (h2 i hi)⟩⟩
theorem OwnS.below {B : Nat} (h : OwnS s w base A n c f) (hb : Below B w w') (hB : w.heap.size ≤ B) : OwnS s w' base A n c f :=
  ⟨h.1, h.2.1, h.2.2.1, fun hn => by
    obtain ⟨b, o, e, h0, h1, h2⟩ := h.2.2.2 hn
    exact ⟨b, o, e, h0, Nat.lt_of_lt_of_le h1 hb.size, fun i hi => ⟨(hb.cell (p := ⟨b, o + i, none⟩) (Nat.lt_of_lt_of_le h1 hB)).trans (h2 i hi).1, (hb.frozen (p := ⟨b, o + i, none⟩) (Nat.lt_of_lt_of_le h1 hB)).trans (h2 i hi).2⟩⟩⟩
end

set_option maxHeartbeats 2000000 in
theorem eqWalkers_same (w : World) (A A' : Option Addr) (n c c' : Nat) (f : Nat → Int) (hr : RowS 4 w A n c f) (hr' : RowS 4 w A' n c' f) :
    Calls Try.prog 36 #[.slice A n c, .slice A' n c'] w (Gives (.bool true) w) := by
  have hnc := hr.1
  have hcm := hr.2.1
  have hnc' := hr'.1
  have hcm' := hr'.2.1
  unfold maxLen at hcm hcm'
  have HR := Lib.hid hr
  have HR' := Lib.hid hr'
  have hn : ((n : Int) == (n : Int)) = true := beq_self_eq_true _
  have hn' : ((n : Int) != (n : Int)) = false := by simp
  clear hr hr'
  go_enter Try.func36, Try.ntmps36
  go_wp2
  go_loopw [5] (fun i wr => ∃ k : Nat, k ≤ n ∧ i = .int .i64 k ∧ Hid (Below w.heap.size w wr)) (fun i _ => n - (intOf i).toNat)
  case atStart => exact ⟨0, Nat.zero_le _, rfl, Lib.hid (Below.refl _ _)⟩
  case round =>
    obtain ⟨k, hk, rfl, HB⟩ := hrel
    by_cases hlt : k < n
    · obtain ⟨b, o, rfl, hbl, hc⟩ := (HR.out.below HB.out (Nat.le_refl _)).2.2.2 (by omega)
      obtain ⟨b', o', rfl, hbl', hc'⟩ := (HR'.out.below HB.out (Nat.le_refl _)).2.2.2 (by omega)
      have c0 := hc (k * 4) (by omega)
      have c1 := hc (k * 4 + 1) (by omega)
      have c2 := hc (k * 4 + 2) (by omega)
      have c3 := hc (k * 4 + 3) (by omega)
      have d0 := hc' (k * 4) (by omega)
      have d1 := hc' (k * 4 + 1) (by omega)
      have d2 := hc' (k * 4 + 2) (by omega)
      have d3 := hc' (k * 4 + 3) (by omega)
      simp only [← Nat.add_assoc] at c1 c2 c3 d1 d2 d3
      clear hc hc'
      go_wp2
      have OL := Lib.hid (Old.mk_ (Below.refl wr.heap.size wr).drew)
      go_region_held3 (fun w' => (∀ b o, b < wr.heap.size → w'.cell? ⟨b, o, none⟩ = wr.cell? ⟨b, o, none⟩) ∧ Below wr.heap.size wr w')
        (first | assumption | exact OL.out | exact Old.trans (by assumption) (by assumption))
        (first | (go_at_call 25; refine (eqWalker_same _ (f (k * 4)) (f (k * 4 + 1)) (f (k * 4 + 2)) (f (k * 4 + 3))).mono ?_; rintro e wa ⟨rfl, ba⟩))
      rename_i hS
      have hB := hS.2
      clear hS OL c0 c1 c2 c3 d0 d1 d2 d3
      go_wp2
      go_roundw
      case rel => exact ⟨k + 1, by omega, by go_num, Lib.hid (HB.out.trans (hB.mono HB.out.size))⟩
      case measure => simp [intOf]; omega
    · go_wp2
      go_ret
      exact ⟨rfl, HB.out⟩
end Go.Proofs.Ytcnhgfgjmdbddaa.Base
