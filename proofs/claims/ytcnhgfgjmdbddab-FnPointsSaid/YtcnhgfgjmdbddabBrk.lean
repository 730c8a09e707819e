/-
  BreakAt and CountBreaks, spec's and the program's.
-/
import Derived.Test.YtcnhgfgjmdbddabNumB
namespace Go.Proofs.Ytcnhgfgjmdbddab.Base
open Go.RowKit
set_option linter.unusedVariables false

def brkP (W H : Int) (n : Nat) (f : Nat → Int) (x y : Int) : Int := if codeP W H n f x y = 0 then f (numN W x y).toNat else 0
theorem code_zero {W H : Int} {n : Nat} {f : Nat → Int} {x y : Int} (hc : codeP W H n f x y = 0) : validB W H n f = true ∧ hasB W H x y = true ∧ edgeB W H x y = false := by
  have hv : validB W H n f = true := by
    cases h : validB W H n f
    · rw [(code_1 h).1] at hc; omega
    · rfl
  have hh : hasB W H x y = true := by
    cases h : hasB W H x y
    · rw [(code_2 hv h).1] at hc; omega
    · rfl
  refine ⟨hv, hh, ?_⟩
  cases h : edgeB W H x y
  · rfl
  · rw [(code_6 hv hh h).1] at hc; omega

theorem box_keep6 {w w1 : World} {p : Nat} {W H : Int} {A : Option Addr} {n c : Nat} {p' q' r' : Addr} {u' v' x' : Value} (h : w1.cell? ⟨p, 0, none⟩ = some (.int .i64 W) ∧ w1.cell? ⟨p, 1, none⟩ = some (.int .i64 H) ∧ w1.cell? ⟨p, 2, none⟩ = some (.slice A n c) ∧ w1.cell? p' = some u' ∧ w1.cell? q' = some v' ∧ w1.cell? r' = some x' ∧ Below w.heap.size w w1) :
    Box w1 p W H A n c := ⟨World.block_lt_of_cell? _ _ h.1, h.1, h.2.1, h.2.2.1⟩
theorem impl_breakAt (w : World) (W H : Int) (A : Option Addr) (n c : Nat) (f : Nat → Int) (x y : Int) (hr : Row .i64 w A n c f) :
    Calls Try.prog 11 #[.agg #[.int .i64 W, .int .i64 H, .slice A n c], .agg #[.int .i64 x, .int .i64 y]] w (Gives (.tuple #[.int .i64 (brkP W H n f x y), .int .i64 (codeP W H n f x y)]) w) := by
  have HR := Lib.hid hr
  clear hr
  have hbel : Below w.heap.size w ((w.alloc (.cells #[.int .i64 W, .int .i64 H, .slice A n c] 26)).alloc (.cells #[.int .i64 x, .int .i64 y] 32)) := by go_grown
  have HL := Lib.hid hbel
  have HX := Lib.hid (two_boxes w 26 32 W H A n c x y)
  clear hbel
  by_cases hc : codeP W H n f x y = 0
  · obtain ⟨hv, hh, he⟩ := code_zero hc
    obtain ⟨hW, hH, hin, -⟩ := validB_yes hv
    obtain ⟨l1, l2⟩ := num_lt hW hH hh he
    have l3 : numN W x y < (n : Int) := by rw [hin]; exact l2
    have hB : brkP W H n f x y = f (numN W x y).toNat := by unfold brkP; rw [if_pos hc]
    have hN : numP W H n f x y = numN W x y := by unfold numP; rw [if_pos hc]
    have h0 := impl_numberOf _ W H A n c f x y (HR.out.below HL.out (Nat.le_refl _))
    rw [hc, hN] at h0
    rw [hB, hc]
    have H0 := Lib.hid h0
    have hnc := HR.out.1
    have hcm := HR.out.2.1
    unfold maxLen at hcm
    obtain ⟨b, o, rfl, hbl, hcell⟩ := HR.out.2.2.2 (by omega)
    have hk := hcell (numN W x y).toNat (by omega)
    clear h0 hc hv hh he hin l2 hcell hB hN
    have HK := Lib.hid hk
    clear hk
    go_enter Try.func11, Try.ntmps11
    go_wp2_with fail
    refine H0.out.mono ?_
    rintro e w1 ⟨rfl, b1⟩
    obtain ⟨-, d0, d1, d2⟩ := HX.out.below b1 HX.out.1
    have BB := Lib.hid (HL.out.trans (b1.mono (by simp; omega)))
    have ck : w1.cell? ⟨b, o + (numN W x y).toNat, none⟩ = some (.int .i64 (f (numN W x y).toNat)) := (BB.out.cell (p := ⟨b, o + (numN W x y).toNat, none⟩) hbl).trans HK.out
    clear b1
    go_wp2
    go_ret2
    exact ⟨rfl, BB.out⟩
  · have hN : brkP W H n f x y = 0 := by unfold brkP; rw [if_neg hc]
    have hcb : (codeP W H n f x y == 0) = false := beq_eq_false_iff_ne.2 hc
    have hcb' : (codeP W H n f x y != 0) = true := bne_iff_ne.2 hc
    have HN := Lib.hid hN
    clear hN hc
    go_enter Try.func11, Try.ntmps11
    go_wp2_with fail
    refine (impl_numberOf _ W H A n c f x y (HR.out.below HL.out (Nat.le_refl _))).mono ?_
    rintro e w1 ⟨rfl, b1⟩
    go_wp2
    go_ret2
    exact ⟨ret_ints HN.out.symm rfl, HL.out.trans (b1.mono (by simp; omega))⟩
end Go.Proofs.Ytcnhgfgjmdbddab.Base
