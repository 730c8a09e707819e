/-
  The laws' source of numbers: next, pick.
-/
import Derived.Test.YtbpdjmjkjiddjaaHeap
import Derived.Laws.Bits64b
namespace Go.Proofs.Ytbpdjmjkjiddjaa.Base
open Go.RowKit
set_option linter.unusedVariables false
set_option linter.unusedSimpArgs false

/-- a source over a row of bytes, with k taken of them -/
def Src (w : World) (s : Nat) (A : Option Addr) (n c : Nat) (k : Int) : Prop :=
  s < w.heap.size ∧ w.cell? ⟨s, 0, none⟩ = some (.slice A n c) ∧ w.cell? ⟨s, 1, none⟩ = some (.int .i64 k) ∧ (∃ z, w.cell? ⟨s, 2, none⟩ = some (.int .u64 z)) ∧ w.frozen? ⟨s, 1, none⟩ = false ∧ w.frozen? ⟨s, 2, none⟩ = false
/-- what next and pick leave -/
def Took (s : Nat) (A : Option Addr) (n c : Nat) (k d m : Int) (w : World) (e : Ending) (w' : World) : Prop :=
  ∃ v k' : Int, e = .returned (.int .i64 v) ∧ 0 ≤ v ∧ v ≤ m ∧ Src w' s A n c k' ∧ k ≤ k' ∧ k' ≤ k + d ∧ Ext [s] w w'
theorem Src.ext {w w' : World} {X : List Nat} {s : Nat} {A : Option Addr} {n c : Nat} {k : Int} (h : Src w s A n c k) (e : Ext X w w') (hx : s ∉ X) : Src w' s A n c k := by
  obtain ⟨h1, h2, h3, ⟨z, h4⟩, h5, h6⟩ := h
  exact ⟨Nat.lt_of_lt_of_le h1 e.size, e.cell h2 hx, e.cell h3 hx, ⟨z, e.cell h4 hx⟩, (e.frozen h1 hx).trans h5, (e.frozen h1 hx).trans h6⟩
theorem Row.ext {w w' : World} {X : List Nat} {k : IntKind} {A : Option Addr} {n c : Nat} {f : Nat → Int} (h : Row k w A n c f) (e : Ext X w w') (hx : ∀ b, blk A = some b → 0 < n → b ∉ X) : Row k w' A n c f :=
  ⟨h.1, h.2.1, h.2.2.1, fun hn => by
    obtain ⟨b, o, ea, h1, h2⟩ := h.2.2.2 hn
    exact ⟨b, o, ea, Nat.lt_of_lt_of_le h1 e.size, fun i hi => e.cell (h2 i hi) (hx b (by rw [ea]; rfl) hn)⟩⟩
theorem u8_bd {z : Int} (h : (Lit.int .u8 z).wf = true) : 0 ≤ z ∧ z ≤ 255 := Go.bounds_u8 h

theorem wrap_bd (x : Int) : 0 ≤ IntKind.u64.wrap x / 1099511627776 ∧ IntKind.u64.wrap x / 1099511627776 ≤ 18446744073709551615 := by
  obtain ⟨h1, h2⟩ := Go.bounds_u64 (Go.wf_wrap .u64 x)
  omega
theorem and_bd (x : Int) : 0 ≤ bits BinOp.and IntKind.u64 (IntKind.u64.wrap x / 1099511627776) 255 ∧ bits BinOp.and IntKind.u64 (IntKind.u64.wrap x / 1099511627776) 255 ≤ 255 := by
  obtain ⟨h1, h2⟩ := wrap_bd x
  have h := bits_and_u64_nat (IntKind.u64.wrap x / 1099511627776).toNat 255 (by omega) (by omega)
  rw [Int.toNat_of_nonneg h1] at h
  have h3 : bits BinOp.and IntKind.u64 (IntKind.u64.wrap x / 1099511627776) 255 = (((IntKind.u64.wrap x / 1099511627776).toNat &&& 255 : Nat) : Int) := h
  have h4 : (IntKind.u64.wrap x / 1099511627776).toNat &&& 255 ≤ 255 := Nat.and_le_right
  rw [h3]
  omega
theorem and_low (x : Int) : wrap64 (bits BinOp.and IntKind.u64 (IntKind.u64.wrap x / 1099511627776) 255) = bits BinOp.and IntKind.u64 (IntKind.u64.wrap x / 1099511627776) 255 := by
  obtain ⟨h1, h2⟩ := and_bd x
  unfold wrap64
  omega
theorem src_set {w : World} {s : Nat} {A : Option Addr} {n c : Nat} {k : Int} (hs : Src w s A n c k) (a b : Nat) (k' z' : Int) :
    Src ((((w.drewN a).setCell ⟨s, 1, none⟩ (.int .i64 k')).setCell ⟨s, 2, none⟩ (.int .u64 z')).drewN b) s A n c k' ∧ Ext [s] w ((((w.drewN a).setCell ⟨s, 1, none⟩ (.int .i64 k')).setCell ⟨s, 2, none⟩ (.int .u64 z')).drewN b) := by
  obtain ⟨h1, h2, h3, ⟨z, h4⟩, h5, h6⟩ := hs
  have e2 : (w.drewN a).cell? ⟨s, 0, none⟩ = some (.slice A n c) := h2
  have e3 : (w.drewN a).cell? ⟨s, 1, none⟩ = some (.int .i64 k) := h3
  have e4 : (w.drewN a).cell? ⟨s, 2, none⟩ = some (.int .u64 z) := h4
  refine ⟨⟨?_, ?_, ?_, ⟨z', ?_⟩, ?_, ?_⟩, ?_⟩
  · simpa using h1
  · show (((w.drewN a).setCell ⟨s, 1, none⟩ (.int .i64 k')).setCell ⟨s, 2, none⟩ (.int .u64 z')).cell? _ = _
    rw [World.cell?_setCell_other _ _ _ _ (fun h => by injection h; omega), World.cell?_setCell_other _ _ _ _ (fun h => by injection h; omega)]
    exact h2
  · show (((w.drewN a).setCell ⟨s, 1, none⟩ (.int .i64 k')).setCell ⟨s, 2, none⟩ (.int .u64 z')).cell? _ = _
    rw [World.cell?_setCell_other _ _ _ _ (fun h => by injection h; omega), World.cell?_setCell_same _ _ _ e3]
  · show (((w.drewN a).setCell ⟨s, 1, none⟩ (.int .i64 k')).setCell ⟨s, 2, none⟩ (.int .u64 z')).cell? _ = _
    refine World.cell?_setCell_same _ _ _ (u := .int .u64 z) ?_
    rw [World.cell?_setCell_other _ _ _ _ (fun h => by injection h; omega)]
    exact e4
  · show (((w.drewN a).setCell ⟨s, 1, none⟩ (.int .i64 k')).setCell ⟨s, 2, none⟩ (.int .u64 z')).frozen? _ = _
    rw [World.frozen?_setCell, World.frozen?_setCell]
    exact h5
  · show (((w.drewN a).setCell ⟨s, 1, none⟩ (.int .i64 k')).setCell ⟨s, 2, none⟩ (.int .u64 z')).frozen? _ = _
    rw [World.frozen?_setCell, World.frozen?_setCell]
    exact h6
  · exact (((Ext.drewN w a).trans (Ext.set _ _ _ (by simp))).trans (Ext.set _ _ _ (by simp))).trans (Ext.drewN _ b)
set_option maxHeartbeats 2000000 in
theorem next_any (w : World) (s : Nat) (A : Option Addr) (n c : Nat) (f : Nat → Int) (k : Int) (hs : Src w s A n c k) (hr : Row .u8 w A n c f) (hne : ∀ b, blk A = some b → 0 < n → b ≠ s) (k0 : 0 ≤ k) (k1 : k ≤ 1000000) (hn : n ≤ 1000000) :
    Calls Try.prog 85 #[.pointer (some ⟨s, 0, none⟩)] w (Took s A n c k 1 255 w) := by
  have HS := Lib.hid hs
  obtain ⟨s1, s2, s3, ⟨z, s4⟩, s5, s6⟩ := hs
  have hnc := hr.1
  have hcm := hr.2.1
  unfold maxLen at hcm
  by_cases h1 : k < n
  · obtain ⟨b, o, rfl, hb, hc⟩ := hr.2.2.2 (by omega)
    have hbs := hne b rfl (by omega)
    have ck := hc k.toNat (by omega)
    obtain ⟨q1, q2⟩ := u8_bd (hr.2.2.1 k.toNat (by omega))
    have h2 : k + 1 ≤ n := by omega
    clear hc hr hne
    go_enter Try.func85, Try.ntmps85
    go_wp2
    go_quiet (fail)
    go_wp2
    go_quiet (fail)
    go_wp2
    go_quiet (fail)
    go_wp2
    go_ret
    obtain ⟨j1, j2⟩ := src_set HS.out _ _ _ _
    exact ⟨f k.toNat, k + 1, rfl, q1, q2, j1, by omega, by omega, j2⟩
  · have h2 : ¬ k + 1 ≤ n := by omega
    have d1 : decide (k < (n : Int)) = false := decide_eq_false h1
    have d2 : decide (k + 1 ≤ (n : Int)) = false := decide_eq_false h2
    clear hr hne
    go_enter Try.func85, Try.ntmps85
    go_wp2
    go_quiet (fail)
    go_wp2
    go_quiet (fail)
    go_wp2
    go_ret
    obtain ⟨j1, j2⟩ := src_set HS.out _ _ _ _
    refine ⟨_, k + 1, rfl, ?_, ?_, j1, by omega, by omega, j2⟩
    · rw [and_low]
      exact (and_bd _).1
    · rw [and_low]
      exact (and_bd _).2

theorem pick_any (w : World) (s : Nat) (A : Option Addr) (n c : Nat) (f : Nat → Int) (k m : Int) (hs : Src w s A n c k) (hr : Row .u8 w A n c f) (hne : ∀ b, blk A = some b → 0 < n → b ≠ s) (k0 : 0 ≤ k) (k1 : k ≤ 900000) (hn : n ≤ 1000000) (m1 : 2 ≤ m) (m2 : m ≤ 60000) :
    Calls Try.prog 63 #[.pointer (some ⟨s, 0, none⟩), .int .i64 m] w (Took s A n c k 2 (m - 1) w) := by
  have HS := Lib.hid hs
  have HR := Lib.hid hr
  have HE := Lib.hid hne
  clear hs hr hne
  by_cases h : m ≤ 200
  · go_enter Try.func63, Try.ntmps63
    go_wp2_with fail
    refine (next_any _ s A n c f k HS.out HR.out HE.out k0 (by omega) hn).mono ?_
    rintro e w1 ⟨v, k', rfl, v0, v1, j1, j2, j3, j4⟩
    have HJ := Lib.hid j1
    have HX := Lib.hid j4
    have q1 : 0 ≤ v % m := Int.emod_nonneg _ (by omega)
    have q2 : v % m < m := Int.emod_lt_of_pos _ (by omega)
    clear j1 j4
    go_wp2
    go_ret
    exact ⟨v % m, k', rfl, q1, by omega, HJ.out, j2, by omega, HX.out⟩
  · have h' : 200 < m := by omega
    clear h
    go_enter Try.func63, Try.ntmps63
    go_wp2_with fail
    refine (next_any _ s A n c f k HS.out HR.out HE.out k0 (by omega) hn).mono ?_
    rintro e w1 ⟨v, k', rfl, v0, v1, j1, j2, j3, j4⟩
    have HJ := Lib.hid j1
    have HX := Lib.hid j4
    have HR1 := Lib.hid (HR.out.ext j4 (fun b hb h0 => by simpa using HE.out b hb h0))
    clear j1 j4
    go_wp2_with fail
    refine (next_any _ s A n c f k' HJ.out HR1.out HE.out (by omega) (by omega) hn).mono ?_
    rintro e w2 ⟨u, k2, rfl, u0, u1, l1, l2, l3, l4⟩
    have HL := Lib.hid l1
    have HY := Lib.hid (HX.out.trans l4)
    have q1 : 0 ≤ (v * 256 + u) % m := Int.emod_nonneg _ (by omega)
    have q2 : (v * 256 + u) % m < m := Int.emod_lt_of_pos _ (by omega)
    clear l1 l4
    go_wp2
    go_ret
    exact ⟨(v * 256 + u) % m, k2, rfl, q1, by omega, HL.out, by omega, by omega, HY.out⟩
/-- l00From -/
def Begun (A : Option Addr) (n c : Nat) (w : World) (e : Ending) (w' : World) : Prop :=
  ∃ s, e = .returned (.pointer (some ⟨s, 0, none⟩)) ∧ w.heap.size ≤ s ∧ Src w' s A n c 0 ∧ Below w.heap.size w w'
theorem from_any (w : World) (A : Option Addr) (n c : Nat) :
    Calls Try.prog 60 #[.slice A n c] w (Begun A n c w) := by
  go_enter Try.func60, Try.ntmps60
  go_wp2
  go_ret
  exact ⟨w.heap.size, rfl, Nat.le_refl _, ⟨by simp, by simp [go_sem], by simp [go_sem], ⟨0, by simp [go_sem]⟩, by simp [go_sem], by simp [go_sem]⟩, by go_grown⟩
end Go.Proofs.Ytbpdjmjkjiddjaa.Base
