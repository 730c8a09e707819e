/-
  FnStrips' calls.
-/
import Derived.Test.YtajikegfladelaaStn
import Derived.Test.YtajikegfladelaaStc
import Derived.Test.YtajikegfladelaaCtc
import Derived.Test.YtajikegfladelaaPnt
import Derived.Test.YtajikegfladelaaSetB
import Derived.IntWalk
namespace Go.Proofs.Ytajikegfladelaa.Base
open Go Go.RowKit
set_option linter.unusedVariables false
set_option linter.unusedSimpArgs false
theorem cel_set {w : World} {p b i : Nat} {cs : List Value} (h : Cel w p cs) (hb : b ≠ p) (v : Value) : Cel (w.setCell ⟨b, i, none⟩ v) p cs :=
  ⟨by simpa [World.setCell] using h.1, fun j u hu => by rw [World.cell?_setCell_other _ _ _ _ (fun e => hb (by injection e))]; exact h.2 j u hu⟩
/-- the number that the laws draw -/
def atV (n : Nat) (f : Nat → Int) (a m : Int) : Int := if a < n then f a.toNat % m else 0
theorem atV_bd {n : Nat} {f : Nat → Int} {a m : Int} (hm : 1 ≤ m) : 0 ≤ atV n f a m ∧ atV n f a m < m := by
  unfold atV
  split
  · exact ⟨Int.emod_nonneg _ (by omega), Int.emod_lt_of_pos _ (by omega)⟩
  · omega
theorem a2At_is (w : World) (A : Option Addr) (n c : Nat) (f : Nat → Int) (at' m : Int) (hr : Row .u8 w A n c f) (h0 : 0 ≤ at') (h1 : 1 ≤ m) (h2 : m ≤ 1000) (hn : n ≤ 3000) :
    Calls Try.prog 7 #[.slice A n c, .int .i64 at', .int .i64 m] w fun e w' => e = .returned (.int .i64 (atV n f at' m)) ∧ w = w' := by
  have hnc := hr.1
  have hcm := hr.2.1
  unfold maxLen at hcm
  by_cases hl : at' < n
  · obtain ⟨b, o, rfl, hb, hc⟩ := hr.2.2.2 (by omega)
    have ck := hc at'.toNat (by omega)
    obtain ⟨q1, q2⟩ := u8_bd (hr.2.2.1 at'.toNat (by omega))
    have HE := Lib.hid (show atV n f at' m = f at'.toNat % m by unfold atV; rw [if_pos hl])
    clear hc hr
    go_enter Try.func7, Try.ntmps7
    go_wp2
    go_ret
    exact ⟨ret_int HE.out.symm, rfl⟩
  · have HE := Lib.hid (show atV n f at' m = 0 by unfold atV; rw [if_neg hl])
    clear hr
    have hl' : (n : Int) ≤ at' := by omega
    go_enter Try.func7, Try.ntmps7
    go_wp2
    go_ret
    exact ⟨ret_int HE.out.symm, rfl⟩
section
variable {W : Int} {N : Nat} {F : Nat → Int}
theorem strip_valid (hW : sideB W = true) (hN : (N : Int) = inner W 1) (hF : ∀ i, i < N → 0 ≤ F i ∧ F i ≤ 2) : validB W 1 N F = true := valid_mk hW (by decide) hN (kinds_iff.2 hF)
theorem stripcurves_k (w : World) {A : Option Addr} {c : Nat} (hr : Row .i64 w A N c F) (hv : validB W 1 N F = true) :
    Calls Try.prog 8 #[.agg #[.int .i64 W, .int .i64 1, .slice A N c]] w (Gives (.tuple #[.int .i64 (1 + cntK 1 F N), .int .i64 0]) w) := by
  have h := impl_stripCurves w W 1 A N c F hr
  obtain ⟨e1, e2⟩ := st_yes hv rfl
  rwa [e1, e2] at h
theorem stripcount_k (w : World) {A : Option Addr} {c : Nat} (hr : Row .i64 w A N c F) (hv : validB W 1 N F = true) :
    Calls Try.prog 9 #[.agg #[.int .i64 W, .int .i64 1, .slice A N c]] w (Gives (.tuple #[.int .i64 (1 + cntK 1 F N), .int .i64 0]) w) := by
  have h := spec_countCurves w W 1 A N c F hr
  have e2 : okC W 1 N F = 0 := (segN_yes hv).2
  rwa [cnV_yes hv, strip_curves hv, e2] at h
theorem put_kinds {k : Nat} {v : Int} (hF : ∀ i, i < N → 0 ≤ F i ∧ F i ≤ 2) (v1 : 0 ≤ v) (v2 : v < 3) : ∀ i, i < N → 0 ≤ putF F k v i ∧ putF F k v i ≤ 2 := fun i hi => by
  unfold putF
  split
  · omega
  · exact hF i hi
end
end Go.Proofs.Ytajikegfladelaa.Base
