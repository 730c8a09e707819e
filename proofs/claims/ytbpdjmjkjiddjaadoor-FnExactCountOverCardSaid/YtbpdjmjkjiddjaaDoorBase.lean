/-
  The small functions of chapter 2 over integers (sides, ranges, numbers of inner points): what each returns.
-/
import Derived.Test.YtbpdjmjkjiddjaaDoorRows
import Derived.WalkKit
import Derived.WalkSpells
import Derived.WalkLawsBesides
import Derived.Handy
import Derived.BigQuiet
import Derived.Deep.QuietTactic
import Derived.Deep.RegionWith
import Derived.Deep.Draws
import Derived.Lib.Hide
import Derived.ProofKit
import Derived.OpenShut
import Derived.Lib.SmallJoins
import Derived.Deep.OwnRows
namespace Go.Proofs.YtbpdjmjkjiddjaaDoor.Base
open Go.RowKit
set_option linter.unusedVariables false

/-- A slice of integers in memory: 'n' cells from its address on, below the heap's end. -/
def Row (k : IntKind) (w : World) (A : Option Addr) (n c : Nat) (f : Nat → Int) : Prop :=
  n ≤ c ∧ c ≤ maxLen ∧ (∀ i, i < n → (Lit.int k (f i)).wf = true) ∧
  (0 < n → ∃ b o, A = some ⟨b, o, none⟩ ∧ b < w.heap.size ∧ ∀ i, i < n → w.cell? ⟨b, o + i, none⟩ = some (.int k (f i)))
theorem row_of {H : Type} {enc : TypeId × Value → H} {P : Program} {w : World} {base : Nat} {held : Bool} {t e : TypeId} {k : IntKind} {fuel : Nat} {cs : List Value} {x : DataW H × List MemPlace}
    (ht : P.underlying t = some (.slice e)) (he : P.underlying e = some (.int k)) (hc : P.cellsOf e = 1)
    (h : DataW.trod enc P w base (fun _ => true) held fuel t cs = some x) (hlt : ∀ p ∈ x.2, p.block < w.heap.size) :
    ∃ A n c f, cs = [.slice A n c] ∧ Row k w A n c f := by
  rcases Go.ChangeShapes.open_ints ht he hc h with ⟨rfl, _⟩ | ⟨a, len, cap, zs, rfl, _, hl, hm, hz, hx, hcell, hwz⟩
  · exact ⟨none, 0, 0, fun _ => 0, rfl, by simp [Row]⟩
  · simp only [if_true] at hz
    refine ⟨some a, len, cap, fun i => zs.getD i 0, rfl, hl, hm, fun i hi => ?_, fun h0 => ?_⟩
    · have hi' : i < zs.length := by omega
      have e : zs.getD i 0 = zs[i] := by simp [List.getD, hi']
      show (Lit.int k (zs.getD i 0)).wf = true
      rw [e]
      exact hwz _ (List.getElem_mem hi')
    · obtain ⟨b, off, spot⟩ := a
      have hc0 := hcell 0 (by omega)
      have hspot : spot = none := by simpa [Addr.add] using World.cell?_spot hc0
      subst hspot
      refine ⟨b, off, rfl, ?_, fun i hi => ?_⟩
      · simpa [Addr.add] using World.block_lt_of_cell? _ _ hc0
      · have h1 := hcell i (by omega)
        rw [← h1]
        by_cases hi0 : i = 0 <;> simp [Addr.add, hi0]
section
variable {k : IntKind} {w w' : World} {A : Option Addr} {n c : Nat} {f : Nat → Int}
theorem Row.below {B : Nat} (h : Row k w A n c f) (hb : Below B w w') (hB : w.heap.size ≤ B) : Row k w' A n c f :=
  ⟨h.1, h.2.1, h.2.2.1, fun hn => by
    obtain ⟨b, o, e, hlt, hc⟩ := h.2.2.2 hn
    exact ⟨b, o, e, Nat.lt_of_lt_of_le hlt hb.size, fun i hi => (hb.cell (p := ⟨b, o + i, none⟩) (Nat.lt_of_lt_of_le hlt hB)).trans (hc i hi)⟩⟩
theorem Row.of_rowIs {T : TypeId} {b : Nat} (h : w.rowIs b T n (fun i => .int k (f i))) (hm : n ≤ maxLen) (hw : ∀ i, i < n → (Lit.int k (f i)).wf = true) : Row k w (some ⟨b, 0, none⟩) n n f :=
  ⟨Nat.le_refl _, hm, hw, fun _ => ⟨b, 0, rfl, h.lt, fun i hi => by rw [Nat.zero_add]; exact h.cell hi⟩⟩
theorem rowIs_below {T : TypeId} {b B : Nat} {g : Nat → Value} (h : w.rowIs b T n g) (hb : Below B w w') (hB : b < B) : w'.rowIs b T n g := h.of_block (hb.block b hB)
theorem i64_bd {z : Int} (h : (Lit.int .i64 z).wf = true) : -9223372036854775808 ≤ z ∧ z ≤ 9223372036854775807 := Go.bounds_i64 h
end
/-- the post of a function that makes a row of its own -/
def MadeRow (T : TypeId) (n : Nat) (f : Nat → Int) (w : World) (e : Ending) (w' : World) : Prop :=
  ∃ b, e = .returned (.slice (some ⟨b, 0, none⟩) n n) ∧ w.heap.size ≤ b ∧ w'.rowIs b T n (fun i => .int .i64 (f i)) ∧ Below w.heap.size w w'
def MadePanel (T : TypeId) (W H : Int) (n : Nat) (f : Nat → Int) (w : World) (e : Ending) (w' : World) : Prop :=
  ∃ b, e = .returned (.agg #[.int .i64 W, .int .i64 H, .slice (some ⟨b, 0, none⟩) n n]) ∧ w.heap.size ≤ b ∧ w'.rowIs b T n (fun i => .int .i64 (f i)) ∧ Below w.heap.size w w'
theorem infoI64 : (Tryd.prog.info? 2).map (fun i => (i.zero, i.size, i.bytes)) = some (some (.int .i64 0), 1, 8) := by kernel_rfl
theorem toInts_any (w : World) (A : Option Addr) (n c : Nat) (f : Nat → Int) (hr : Row .i64 w A n c f) (hn : n ≤ 1048576) :
    Calls Tryd.prog 56 #[.slice A n c] w (MadeRow 2 n f w) := by
  obtain ⟨hnc, hcm, _, hcell⟩ := hr
  have hmk := run_make_row' (P := Tryd.prog) 29 2 (.int .i64 0) 8 Tryd.underlying29 infoI64 rfl .i64 .i64 n (by omega) (by omega)
  go_enter Tryd.func56, Tryd.ntmps56
  go_wp2
  clear hmk
  go_loopw [4] (fun i wr => ∃ k : Nat, k ≤ n ∧ i = .int .i64 k ∧ wr.rowIs w.heap.size 2 n (fun j => .int .i64 (if j < k then f j else 0)) ∧ Below w.heap.size w wr)
    (fun i _ => n - (intOf i).toNat)
  case atStart => exact ⟨0, Nat.zero_le _, rfl, by simpa using World.rowIs_made w (.int .i64 0) n 2, (Below.refl _ _).alloc (Nat.le_refl _) _⟩
  case round =>
    obtain ⟨k, hk, rfl, hrow, hb⟩ := hrel
    by_cases hlt : k < n
    · obtain ⟨b, o, rfl, hbl, hc⟩ := hcell (by omega)
      have hc1 : wr.cell? ⟨b, o + k, none⟩ = some (.int .i64 (f k)) := (hb.cell (p := ⟨b, o + k, none⟩) hbl).trans (hc k hlt)
      have hc2 := hrow.cell hlt
      have hf2 := hrow.frozen k
      have hset := hrow.set k (.int .i64 (f k))
      have HS := Lib.hid hset
      have HR := Lib.hid hrow
      have HC := Lib.hid hc
      clear hset hrow hc
      simp only [Nat.lt_irrefl, if_false] at hc2
      go_wp2
      go_roundw
      case rel => exact ⟨k + 1, by omega, by go_num, HS.out.congr (fun j hj => by by_cases e : j = k <;> simp [e] <;> (try (by_cases h : j < k <;> simp [h] <;> omega))), hb.setCell (Nat.le_refl _) _⟩
      case measure => simp [intOf]; omega
    · go_wp2
      go_ret
      exact ⟨w.heap.size, rfl, Nat.le_refl _, hrow.congr (fun j hj => by simp; omega), hb⟩
theorem ret_bool {a b : Bool} (h : a = b) : Ending.returned (.bool a) = Ending.returned (.bool b) := by rw [h]
theorem ret_int {k : IntKind} {a b : Int} (h : a = b) : Ending.returned (.int k a) = Ending.returned (.int k b) := by rw [h]
/-- a side is 1 to 8 -/
def sideB (n : Int) : Bool := decide (1 ≤ n ∧ n ≤ 8)
theorem side_mk {n : Int} (h : sideB n = true) : 1 ≤ n ∧ n ≤ 8 := of_decide_eq_true h
theorem side_no {n : Int} (h : sideB n = false) : ¬ (1 ≤ n ∧ n ≤ 8) := of_decide_eq_false h
theorem side_yes {n : Int} (h : 1 ≤ n) (h' : n ≤ 8) : sideB n = true := decide_eq_true ⟨h, h'⟩
theorem side_nay {n : Int} (h : ¬ (1 ≤ n ∧ n ≤ 8)) : sideB n = false := decide_eq_false h
/-- a side of chapter 7 is 1 to 1000000 -/
def bigB (n : Int) : Bool := decide (1 ≤ n ∧ n ≤ 1000000)
theorem big_mk {n : Int} (h : bigB n = true) : 1 ≤ n ∧ n ≤ 1000000 := of_decide_eq_true h
theorem big_no {n : Int} (h : bigB n = false) : ¬ (1 ≤ n ∧ n ≤ 1000000) := of_decide_eq_false h
theorem big_side {n : Int} (h : sideB n = true) : bigB n = true := by have := side_mk h; exact decide_eq_true ⟨this.1, by omega⟩
/-- the number of inner points -/
def inner (w h : Int) : Int := w * (h - 1) + h * (w - 1)
/-- low to high -/
def inB (n low high : Int) : Bool := decide (low ≤ n ∧ n ≤ high)

theorem in_any (n a b : Int) (w : World) : Calls Tryd.prog 78 #[.int .i64 n, .int .i64 a, .int .i64 b] w fun e w' => e = .returned (.bool (inB n a b)) ∧ w = w' := by
  by_cases h1 : a ≤ n
  · by_cases h2 : n ≤ b
    · have e : inB n a b = true := decide_eq_true ⟨h1, h2⟩
      have E := Lib.hid e
      clear e
      go_enter Tryd.func78, Tryd.ntmps78
      go_wp2
      go_ret
      exact ⟨ret_bool E.out.symm, rfl⟩
    · have e : inB n a b = false := decide_eq_false (by omega)
      have E := Lib.hid e
      clear e
      go_enter Tryd.func78, Tryd.ntmps78
      go_wp2
      go_ret
      exact ⟨ret_bool E.out.symm, rfl⟩
  · have e : inB n a b = false := decide_eq_false (by omega)
    have E := Lib.hid e
    clear e
    go_enter Tryd.func78, Tryd.ntmps78
    go_wp2
    go_ret
    exact ⟨ret_bool E.out.symm, rfl⟩

theorem side_any (n : Int) (w : World) : Calls Tryd.prog 114 #[.int .i64 n] w fun e w' => e = .returned (.bool (sideB n)) ∧ w = w' := by
  go_enter Tryd.func114, Tryd.ntmps114
  go_wp2_with (go_at_call 78; refine (in_any _ _ _ _).mono ?_; rintro e w' ⟨rfl, rfl⟩)
  go_ret
  exact ⟨rfl, rfl⟩

theorem inner_any (a b : Int) (ha : sideB a = true) (hb : sideB b = true) (w : World) :
    Calls Tryd.prog 115 #[.int .i64 a, .int .i64 b] w fun e w' => e = .returned (.int .i64 (inner a b)) ∧ w = w' := by
  obtain ⟨a1, a2⟩ := side_mk ha
  obtain ⟨b1, b2⟩ := side_mk hb
  clear ha hb
  have p1 : 0 ≤ a * (b - 1) := Int.mul_nonneg (by omega) (by omega)
  have p2 : a * (b - 1) ≤ 8 * 7 := Int.mul_le_mul (by omega) (by omega) (by omega) (by omega)
  have q1 : 0 ≤ b * (a - 1) := Int.mul_nonneg (by omega) (by omega)
  have q2 : b * (a - 1) ≤ 8 * 7 := Int.mul_le_mul (by omega) (by omega) (by omega) (by omega)
  go_enter Tryd.func115, Tryd.ntmps115
  go_wp2
  go_ret
  exact ⟨rfl, rfl⟩

/-- spec.InnerPoints -/
def inN (a b : Int) : Int := if sideB a && sideB b then inner a b else 0
def inC (a b : Int) : Int := if sideB a && sideB b then 0 else 2
theorem inN_yes {a b : Int} (h : sideB a = true) (h' : sideB b = true) : inN a b = inner a b := by simp [inN, h, h']
theorem inC_yes {a b : Int} (h : sideB a = true) (h' : sideB b = true) : inC a b = 0 := by simp [inC, h, h']
theorem inN_no1 {a b : Int} (h : sideB a = false) : inN a b = 0 := by simp [inN, h]
theorem inC_no1 {a b : Int} (h : sideB a = false) : inC a b = 2 := by simp [inC, h]
theorem inN_no2 {a b : Int} (h : sideB b = false) : inN a b = 0 := by simp [inN, h]
theorem inC_no2 {a b : Int} (h : sideB b = false) : inC a b = 2 := by simp [inC, h]
theorem ret_ints {k l : IntKind} {a b c d : Int} (h : a = c) (h' : b = d) : Ending.returned (.tuple #[.int k a, .int l b]) = Ending.returned (.tuple #[.int k c, .int l d]) := by rw [h, h']

/-! the program's own -/
theorem valid_yes (a b : Int) (w : World) (ha : sideB a = true) (hb : sideB b = true) :
    Calls Tryd.prog 112 #[.agg #[.int .i64 a, .int .i64 b]] w fun e w' => e = .returned (.bool true) ∧ Below w.heap.size w w' := by
  obtain ⟨a1, a2⟩ := side_mk ha
  obtain ⟨b1, b2⟩ := side_mk hb
  clear ha hb
  go_enter Tryd.func112, Tryd.ntmps112
  go_wp2
  go_ret
  exact ⟨rfl, by go_grown⟩
theorem valid_no (a b : Int) (w : World) (h : sideB a = false ∨ sideB b = false) :
    Calls Tryd.prog 112 #[.agg #[.int .i64 a, .int .i64 b]] w fun e w' => e = .returned (.bool false) ∧ Below w.heap.size w w' := by
  have hh : ¬ (1 ≤ a ∧ a ≤ 8) ∨ ¬ (1 ≤ b ∧ b ≤ 8) := h.imp side_no side_no
  clear h
  by_cases c1 : 1 ≤ a
  · by_cases c2 : a ≤ 8
    · by_cases c3 : 1 ≤ b
      · have c4 : ¬ b ≤ 8 := by omega
        clear hh
        go_enter Tryd.func112, Tryd.ntmps112
        go_wp2
        go_ret
        exact ⟨rfl, by go_grown⟩
      · clear hh
        go_enter Tryd.func112, Tryd.ntmps112
        go_wp2
        go_ret
        exact ⟨rfl, by go_grown⟩
    · clear hh
      go_enter Tryd.func112, Tryd.ntmps112
      go_wp2
      go_ret
      exact ⟨rfl, by go_grown⟩
  · clear hh
    go_enter Tryd.func112, Tryd.ntmps112
    go_wp2
    go_ret
    exact ⟨rfl, by go_grown⟩
theorem valid_any (a b : Int) (w : World) :
    Calls Tryd.prog 112 #[.agg #[.int .i64 a, .int .i64 b]] w fun e w' => e = .returned (.bool (sideB a && sideB b)) ∧ Below w.heap.size w w' := by
  by_cases ha : sideB a = true
  · by_cases hb : sideB b = true
    · exact (valid_yes a b w ha hb).mono fun e w' ⟨he, h⟩ => ⟨by rw [he, ha, hb]; rfl, h⟩
    · have hb : sideB b = false := by simpa using hb
      exact (valid_no a b w (.inr hb)).mono fun e w' ⟨he, h⟩ => ⟨by rw [he, ha, hb]; rfl, h⟩
  · have ha : sideB a = false := by simpa using ha
    exact (valid_no a b w (.inl ha)).mono fun e w' ⟨he, h⟩ => ⟨by rw [he, ha]; rfl, h⟩
theorem innerPts_any (a b : Int) (ha : sideB a = true) (hb : sideB b = true) (w : World) :
    Calls Tryd.prog 104 #[.agg #[.int .i64 a, .int .i64 b]] w fun e w' => e = .returned (.int .i64 (inner a b)) ∧ Below w.heap.size w w' := by
  obtain ⟨a1, a2⟩ := side_mk ha
  obtain ⟨b1, b2⟩ := side_mk hb
  clear ha hb
  have p1 : 0 ≤ a * (b - 1) := Int.mul_nonneg (by omega) (by omega)
  have p2 : a * (b - 1) ≤ 8 * 7 := Int.mul_le_mul (by omega) (by omega) (by omega) (by omega)
  have q1 : 0 ≤ b * (a - 1) := Int.mul_nonneg (by omega) (by omega)
  have q2 : b * (a - 1) ≤ 8 * 7 := Int.mul_le_mul (by omega) (by omega) (by omega) (by omega)
  go_enter Tryd.func104, Tryd.ntmps104
  go_wp2
  go_ret
  exact ⟨rfl, by go_grown⟩

theorem bcell {W w1 : World} (hb : Below W.heap.size W w1) : (∀ b o, b < W.heap.size → w1.cell? ⟨b, o, none⟩ = W.cell? ⟨b, o, none⟩) ∧ (∀ b o, b < W.heap.size → w1.frozen? ⟨b, o, none⟩ = W.frozen? ⟨b, o, none⟩) :=
  ⟨fun b o h => hb.cell (p := ⟨b, o, none⟩) h, fun b o h => hb.frozen (p := ⟨b, o, none⟩) h⟩

end Go.Proofs.YtbpdjmjkjiddjaaDoor.Base
