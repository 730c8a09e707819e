/-
  Slices of integers as lists of elements of one cell; the curves of all segments.
-/
import Derived.Test.YtdofeonkgaceeaaDoorWlm
import Derived.Test.YtdofeonkgaceeaaDoorCta
namespace Go.Proofs.YtdofeonkgaceeaaDoor.Base
open Go.RowKit
set_option linter.unusedVariables false
set_option linter.unusedSimpArgs false

theorem ownS_one {w : World} {base : Nat} {A : Option Addr} {n c : Nat} {f : Nat → Int} : OwnS 1 w base A n c f ↔ OwnRow w base A n c f := by
  unfold OwnS OwnRow
  simp only [Nat.mul_one]
theorem rowS_one {w : World} {A : Option Addr} {n c : Nat} {f : Nat → Int} : RowS 1 w A n c f ↔ Row .i64 w A n c f := by
  unfold RowS Row
  simp only [Nat.mul_one]
theorem eqI64_same (w : World) (A A' : Option Addr) (n c c' : Nat) (f : Nat → Int) (hr : RowS 1 w A n c f) (hr' : RowS 1 w A' n c' f) :
    Calls Tryd.prog 20 #[.slice A n c, .slice A' n c'] w (Gives (.bool true) w) :=
  (eqInts_same w A A' n c c' f (rowS_one.1 hr) (rowS_one.1 hr')).mono fun e w' ⟨m, he, hw⟩ => ⟨he, by rw [hw]; exact below_drewN (Below.refl _ _) m⟩
def MarkedI (base : Nat) (A : Option Addr) (n c : Nat) (k : Int) (w : World) (e : Ending) (w' : World) : Prop :=
  e = .returned (.int .i64 (k + n)) ∧ OwnS 1 w' base A n c (fun i => k + i) ∧ ∃ r, w.grownBy w' r ∧ ∀ b, r = some b → 0 < n ∧ blk A = some b
theorem markI64_any (w : World) (base : Nat) (A : Option Addr) (n c : Nat) (f : Nat → Int) (k : Int) (hr : OwnS 1 w base A n c f) (k0 : 0 ≤ k) (k1 : k + n ≤ 9223372036854775807) :
    Calls Tryd.prog 21 #[.slice A n c, .int .i64 k] w (MarkedI base A n c k w) :=
  (mark_any w base A n c f k (ownS_one.1 hr) k0 k1).mono fun e w' ⟨h1, h2, h3⟩ => ⟨h1, ownS_one.2 h2, h3⟩
theorem heldI64_any (w : World) (A : Option Addr) (n c : Nat) (k : Int) (hr : RowS 1 w A n c (fun i => k + i)) (k0 : 0 ≤ k) (k1 : k + n ≤ 9223372036854775807) :
    Calls Tryd.prog 22 #[.slice A n c, .int .i64 k] w (Gives (.int .i64 (k + n)) w) :=
  (held_any w A n c k (rowS_one.1 hr) k0 k1).mono fun e w' ⟨h1, h2⟩ => ⟨h1, by rw [h2]; exact Below.refl _ _⟩
/-- a row of integers that the call has made -/
theorem ownS_row {w : World} {base b n : Nat} {T : TypeId} {g : Nat → Int} (h : w.rowIs b T n (fun i => .int .i64 (g i))) (hn : n ≤ maxLen) (hw : ∀ i, i < n → (Lit.int .i64 (g i)).wf = true) (hb : base ≤ b) : OwnS 1 w base (some ⟨b, 0, none⟩) n n g :=
  ownS_one.2 (ownRow_of h hn hw hb)
theorem ownS_nil (s : Nat) (w : World) (base : Nat) (f : Nat → Int) : OwnS s w base none 0 0 f := ⟨Nat.le_refl _, Nat.zero_le _, fun i hi => by omega, fun h => absurd h (by omega)⟩

/-- the number of segments of a valid panel -/
def sgcN (W H : Int) (n : Nat) (f : Nat → Int) : Nat := (segN W H n f).toNat
noncomputable def sgcF (W H : Int) (f : Nat → Int) : Nat → Int := (trs W H f (4 * W * H).toNat).of
theorem sgc_wf {W H : Int} {n : Nat} {f : Nat → Int} (hv : validB W H n f = true) (i : Nat) : (Lit.int .i64 (sgcF W H f i)).wf = true := by
  obtain ⟨hW, hH, -, -⟩ := validB_yes hv
  obtain ⟨m0, m1⟩ := segs_bd hW hH
  obtain ⟨h1, h2, h3⟩ := trs_of_ge W H f (4 * W * H).toNat i
  exact WalkArith.wf_i64 (by unfold sgcF; omega)
theorem sgcN_no {W H : Int} {n : Nat} {f : Nat → Int} (hv : validB W H n f = false) : sgcN W H n f = 0 := by unfold sgcN; rw [(segN_no hv).1]; rfl
theorem sgcN_yes {W H : Int} {n : Nat} {f : Nat → Int} (hv : validB W H n f = true) : sgcN W H n f = (4 * W * H).toNat := by unfold sgcN; rw [(segN_yes hv).1]
theorem sgcN_le (W H : Int) (n : Nat) (f : Nat → Int) : sgcN W H n f ≤ 256 := by
  cases hv : validB W H n f
  · rw [sgcN_no hv]; omega
  · obtain ⟨hW, hH, -, -⟩ := validB_yes hv
    obtain ⟨m0, m1⟩ := segs_bd hW hH
    rw [sgcN_yes hv]; omega
end Go.Proofs.YtdofeonkgaceeaaDoor.Base
