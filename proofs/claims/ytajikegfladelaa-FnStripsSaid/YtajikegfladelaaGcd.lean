/-
  Chapter 7's numbers: the greatest common divisor and the least common multiple, the model's and the program's.
-/
import Derived.Test.YtajikegfladelaaBase
import Derived.IntWalk
namespace Go.Proofs.Ytajikegfladelaa.Base
open Go.RowKit
set_option linter.unusedVariables false
set_option linter.unusedSimpArgs false

/-- the greatest common divisor of two numbers -/
def gcI (a b : Int) : Int := ((Nat.gcd a.toNat b.toNat : Nat) : Int)
theorem gcI_zero {a : Int} (h : 0 ≤ a) : gcI a 0 = a := by unfold gcI; simp; omega
theorem gcI_step {a b : Int} (ha : 0 ≤ a) (hb : 0 < b) : gcI b (a % b) = gcI a b := by
  unfold gcI
  rw [Int.toNat_emod ha (Int.le_of_lt hb), Nat.gcd_comm b.toNat, ← Nat.gcd_rec, Nat.gcd_comm]
theorem gcI_pos {a b : Int} (ha : 1 ≤ a) : 1 ≤ gcI a b := by
  unfold gcI
  have : 0 < Nat.gcd a.toNat b.toNat := Nat.gcd_pos_of_pos_left _ (by omega)
  omega
theorem gcI_le {a b : Int} (ha : 1 ≤ a) : gcI a b ≤ a := by
  unfold gcI
  have : Nat.gcd a.toNat b.toNat ≤ a.toNat := Nat.gcd_le_left _ (by omega)
  omega
def lcI (a b : Int) : Int := a / gcI a b * b
theorem quo_bd {a b : Int} (ha : 1 ≤ a) (h2 : a ≤ 1000000) : 0 ≤ a / gcI a b ∧ a / gcI a b ≤ 1000000 := by
  have h := gcI_pos (b := b) ha
  exact ⟨Int.ediv_nonneg (by omega) (by omega), Int.le_trans (Int.ediv_le_self _ (by omega)) h2⟩
theorem lcI_bd {a b : Int} (ha : 1 ≤ a) (h2 : a ≤ 1000000) (hb : 1 ≤ b) (hb2 : b ≤ 1000000) : 0 ≤ lcI a b ∧ lcI a b ≤ 1000000000000 := by
  obtain ⟨q1, q2⟩ := quo_bd (b := b) ha h2
  unfold lcI
  exact ⟨Int.mul_nonneg q1 (by omega), by have := Int.mul_le_mul q2 hb2 (by omega) (by omega); omega⟩

theorem impl_divisor (m : Nat) : ∀ (w : World) (a b : Int), 1 ≤ a → a ≤ 1000000 → 0 ≤ b → b ≤ 1000000 → b.toNat < m →
    Calls Try.prog 25 #[.int .i64 a, .int .i64 b] w fun e w' => e = .returned (.int .i64 (gcI a b)) ∧ w = w' := by
  induction m with
  | zero => intro w a b _ _ _ _ h; omega
  | succ m ih =>
    intro w a b a1 a2 b1 b2 hm
    have HI := Lib.hid ih
    clear ih
    by_cases hy : b = 0
    · subst hy
      have HG := Lib.hid (gcI_zero (a := a) (by omega))
      go_enter Try.func25, Try.ntmps25
      go_wp2
      go_ret
      exact ⟨ret_int HG.out.symm, rfl⟩
    · have hyc : (b == 0) = false := beq_eq_false_iff_ne.2 hy
      have y0 : 1 ≤ b := by omega
      have HM := Lib.hid (show 0 ≤ a % b ∧ a % b < b from ⟨Int.emod_nonneg _ (by omega), Int.emod_lt_of_pos _ (by omega)⟩)
      have HG2 := Lib.hid (show gcI b (a % b) = gcI a b from gcI_step (by omega) (by omega))
      clear hy
      go_enter Try.func25, Try.ntmps25
      go_wp2_with fail
      refine (HI.out _ b (a % b) y0 b2 HM.out.1 (by have := HM.out.2; omega) (by have := HM.out; omega)).mono ?_
      rintro e w1 ⟨rfl, rfl⟩
      go_wp2
      go_ret
      exact ⟨ret_int HG2.out, rfl⟩
theorem impl_gcd (w : World) (a b : Int) (a1 : 1 ≤ a) (a2 : a ≤ 1000000) (b1 : 0 ≤ b) (b2 : b ≤ 1000000) :
    Calls Try.prog 25 #[.int .i64 a, .int .i64 b] w fun e w' => e = .returned (.int .i64 (gcI a b)) ∧ w = w' :=
  impl_divisor (b.toNat + 1) w a b a1 a2 b1 b2 (by omega)
/-- whether all numbers of a row are sides -/
def allBig (n : Nat) (f : Nat → Int) : Bool := (List.range n).all fun i => bigB (f i)
theorem allBig_no {n : Nat} {f : Nat → Int} {k : Nat} (hk : k < n) (h : bigB (f k) = false) : allBig n f = false := by
  cases e : allBig n f
  · rfl
  · have := List.all_eq_true.1 e k (List.mem_range.2 hk)
    simp [h] at this
theorem allBig_yes {n : Nat} {f : Nat → Int} (h : ∀ i, i < n → bigB (f i) = true) : allBig n f = true := List.all_eq_true.2 fun i hi => h i (List.mem_range.1 hi)
def pairF (a b : Int) : Nat → Int := fun i => if i = 0 then a else b
theorem allBig_two (a b : Int) : allBig 2 (pairF a b) = (bigB a && bigB b) := by simp [allBig, List.range_succ, pairF]
theorem impl_arePlain (w : World) (A : Option Addr) (n c : Nat) (f : Nat → Int) (hr : Row .i64 w A n c f) :
    Calls Try.prog 24 #[.slice A n c] w fun e w' => e = .returned (.bool (allBig n f)) ∧ w = w' := by
  obtain ⟨hnc, hcm, _, hcell⟩ := hr
  unfold maxLen at hcm
  go_enter Try.func24, Try.ntmps24
  go_wp2
  go_loop [7] (fun i => ∃ k : Nat, k ≤ n ∧ i = .int .i64 k ∧ Hid (∀ j, j < k → bigB (f j) = true)) (fun i => n - (intOf i).toNat)
  case atStart => exact ⟨0, Nat.zero_le _, rfl, Lib.hid (fun j hj => absurd hj (Nat.not_lt_zero _))⟩
  case round =>
    obtain ⟨k, hk, rfl, HOK⟩ := hrel
    by_cases hlt : k < n
    · obtain ⟨b, o, rfl, hbl, hc⟩ := hcell (by omega)
      have hck := hc k hlt
      clear hc hcell
      by_cases hin : bigB (f k) = true
      · obtain ⟨i1, i2⟩ := big_mk hin
        have HI := Lib.hid hin
        clear hin
        go_wp2
        go_round
        case rel => exact ⟨k + 1, by omega, by go_num, Lib.hid fun j hj => by rcases Nat.lt_succ_iff_lt_or_eq.1 hj with h | rfl; exact HOK.out j h; exact HI.out⟩
        case measure => simp [intOf]; omega
      · have hin : bigB (f k) = false := by simpa using hin
        have HZ := Lib.hid (allBig_no hlt hin)
        have hno := big_no hin
        clear hin
        by_cases h1 : 1 ≤ f k
        · have h2 : ¬ f k ≤ 1000000 := fun h => hno ⟨h1, h⟩
          clear hno
          go_wp2
          go_ret
          exact ⟨ret_bool HZ.out.symm, rfl⟩
        · clear hno
          go_wp2
          go_ret
          exact ⟨ret_bool HZ.out.symm, rfl⟩
    · have HZ := Lib.hid (allBig_yes (n := n) (f := f) fun j hj => HOK.out j (show j < k by omega))
      go_wp2
      go_ret
      exact ⟨ret_bool HZ.out.symm, rfl⟩
theorem pair_row (w : World) (T : TypeId) (a b : Int) (wa : (Lit.int .i64 a).wf = true) (wb : (Lit.int .i64 b).wf = true) :
    Row .i64 (w.alloc (.cells #[.int .i64 a, .int .i64 b] T)) (some ⟨w.heap.size, 0, none⟩) 2 2 (pairF a b) :=
  ⟨Nat.le_refl _, by unfold maxLen; omega, fun i hi => by match i, hi with | 0, _ => exact wa | 1, _ => exact wb,
   fun _ => ⟨w.heap.size, 0, rfl, by simp, fun i hi => by match i, hi with | 0, _ => simp [go_sem, pairF] | 1, _ => simp [go_sem, pairF]⟩⟩
theorem impl_plain2 {a b : Int} {v : Bool} (hv : (bigB a && bigB b) = v) (w w1 : World) (p : Nat) (T : TypeId) (wa : (Lit.int .i64 a).wf = true) (wb : (Lit.int .i64 b).wf = true) (h1 : w1 = w.alloc (.cells #[.int .i64 a, .int .i64 b] T)) (hp : p = w.heap.size) :
    Calls Try.prog 24 #[.slice (some ⟨p, 0, none⟩) 2 2] w1 fun e w' => e = .returned (.bool v) ∧ w1 = w' := by
  subst h1 hp
  rw [← hv, ← allBig_two]
  exact impl_arePlain _ _ _ _ _ (pair_row w T a b wa wb)

/-! the two numbers -/
def gdN (a b : Int) : Int := if bigB a && bigB b then gcI a b else 0
def lmN (a b : Int) : Int := if bigB a && bigB b then lcI a b else 0
def ptN (a b : Int) : Int := if bigB a && bigB b then 2 * (a + b) / gcI a b else 0
def gdC (a b : Int) : Int := if bigB a && bigB b then 0 else 2
theorem ret_eq {a b c d : Int} (h : a = c) (h' : b = d) : Ending.returned (.tuple #[.int .i64 a, .int .i64 b]) = Ending.returned (.tuple #[.int .i64 c, .int .i64 d]) := by rw [h, h']
theorem gd_yes {a b : Int} (ha : bigB a = true) (hb : bigB b = true) : gdN a b = gcI a b ∧ lmN a b = lcI a b ∧ ptN a b = 2 * (a + b) / gcI a b ∧ gdC a b = 0 := by simp [gdN, lmN, ptN, gdC, ha, hb]
theorem gd_no {a b : Int} (h : (bigB a && bigB b) = false) : gdN a b = 0 ∧ lmN a b = 0 ∧ ptN a b = 0 ∧ gdC a b = 2 := by simp [gdN, lmN, ptN, gdC, h]
def Two (x y : Int) (w : World) (e : Ending) (w' : World) : Prop := e = .returned (.tuple #[.int .i64 x, .int .i64 y]) ∧ Below w.heap.size w w'

theorem lmN_bd (a b : Int) : 0 ≤ lmN a b ∧ lmN a b ≤ 1000000000000 := by
  cases h : bigB a && bigB b
  · simp [lmN, h]
  · simp at h
    obtain ⟨a1, a2⟩ := big_mk h.1
    obtain ⟨b1, b2⟩ := big_mk h.2
    rw [(gd_yes h.1 h.2).2.1]
    exact lcI_bd a1 a2 b1 b2
theorem impl_GreatestDivisor (w : World) (a b : Int) (wa : (Lit.int .i64 a).wf = true) (wb : (Lit.int .i64 b).wf = true) : Calls Try.prog 14 #[.int .i64 a, .int .i64 b] w (Two (gdN a b) (gdC a b) w) := by
  cases hv : bigB a && bigB b
  · obtain ⟨e1, -, -, e4⟩ := gd_no hv
    rw [e1, e4]
    clear e1 e4
    have HC := Lib.hid (fun w w1 p T h hp => impl_plain2 hv w w1 p T wa wb h hp)
    clear hv
    go_enter Try.func14, Try.ntmps14
    go_wp2_with fail
    refine (HC.out w _ _ _ rfl rfl).mono ?_
    rintro e w1 ⟨rfl, rfl⟩
    go_wp2
    go_ret2
    exact ⟨rfl, by go_grown⟩
  · have h2 : bigB a = true ∧ bigB b = true := by simpa using hv
    obtain ⟨e1, -, -, e4⟩ := gd_yes h2.1 h2.2
    obtain ⟨a1, a2⟩ := big_mk h2.1
    obtain ⟨b1, b2⟩ := big_mk h2.2
    rw [e1, e4]
    clear e1 e4 h2
    have HC := Lib.hid (fun w w1 p T h hp => impl_plain2 hv w w1 p T wa wb h hp)
    clear hv
    go_enter Try.func14, Try.ntmps14
    go_wp2_with fail
    refine (HC.out w _ _ _ rfl rfl).mono ?_
    rintro e w1 ⟨rfl, rfl⟩
    go_wp2_with fail
    refine (impl_gcd _ a b a1 a2 (by omega) b2).mono ?_
    rintro e w1 ⟨rfl, rfl⟩
    go_wp2
    go_ret2
    exact ⟨rfl, by go_grown⟩
theorem impl_LeastMultiple (w : World) (a b : Int) (wa : (Lit.int .i64 a).wf = true) (wb : (Lit.int .i64 b).wf = true) : Calls Try.prog 15 #[.int .i64 a, .int .i64 b] w (Two (lmN a b) (gdC a b) w) := by
  cases hv : bigB a && bigB b
  · obtain ⟨-, e1, -, e4⟩ := gd_no hv
    rw [e1, e4]
    clear e1 e4
    have HC := Lib.hid (fun w w1 p T h hp => impl_plain2 hv w w1 p T wa wb h hp)
    clear hv
    go_enter Try.func15, Try.ntmps15
    go_wp2_with fail
    refine (HC.out w _ _ _ rfl rfl).mono ?_
    rintro e w1 ⟨rfl, rfl⟩
    go_wp2
    go_ret2
    exact ⟨rfl, by go_grown⟩
  · have h2 : bigB a = true ∧ bigB b = true := by simpa using hv
    obtain ⟨-, e1, -, e4⟩ := gd_yes h2.1 h2.2
    obtain ⟨a1, a2⟩ := big_mk h2.1
    obtain ⟨b1, b2⟩ := big_mk h2.2
    rw [e1, e4]
    clear e1 e4 h2
    obtain ⟨l1, l2⟩ := lcI_bd a1 a2 b1 b2
    obtain ⟨q1, q2⟩ := quo_bd (b := b) a1 a2
    have g1 := gcI_pos (b := b) a1
    unfold lcI at *
    have HC := Lib.hid (fun w w1 p T h hp => impl_plain2 hv w w1 p T wa wb h hp)
    clear hv
    go_enter Try.func15, Try.ntmps15
    go_wp2_with fail
    refine (HC.out w _ _ _ rfl rfl).mono ?_
    rintro e w1 ⟨rfl, rfl⟩
    go_wp2_with fail
    refine (impl_gcd _ a b a1 a2 (by omega) b2).mono ?_
    rintro e w1 ⟨rfl, rfl⟩
    go_wp2
    go_ret2
    exact ⟨rfl, by go_grown⟩
theorem impl_PlainCurves (w : World) (a b : Int) (wa : (Lit.int .i64 a).wf = true) (wb : (Lit.int .i64 b).wf = true) : Calls Try.prog 10 #[.int .i64 a, .int .i64 b] w (Two (gdN a b) (gdC a b) w) := by
  go_enter Try.func10, Try.ntmps10
  go_wp2_with fail
  refine (impl_GreatestDivisor _ a b wa wb).mono ?_
  rintro e w1 ⟨rfl, b1⟩
  go_wp2
  go_ret2
  exact ⟨rfl, b1⟩
theorem impl_PlainLength (w : World) (a b : Int) (wa : (Lit.int .i64 a).wf = true) (wb : (Lit.int .i64 b).wf = true) : Calls Try.prog 11 #[.int .i64 a, .int .i64 b] w (Two (4 * lmN a b) (gdC a b) w) := by
  obtain ⟨l1, l2⟩ := lmN_bd a b
  go_enter Try.func11, Try.ntmps11
  go_wp2_with fail
  refine (impl_LeastMultiple _ a b wa wb).mono ?_
  rintro e w1 ⟨rfl, b1⟩
  go_wp2
  go_ret2
  exact ⟨rfl, b1⟩
theorem impl_PlainTouches (w : World) (a b : Int) (wa : (Lit.int .i64 a).wf = true) (wb : (Lit.int .i64 b).wf = true) : Calls Try.prog 12 #[.int .i64 a, .int .i64 b] w (Two (ptN a b) (gdC a b) w) := by
  have HC := Lib.hid (fun w => impl_GreatestDivisor w a b wa wb)
  cases hv : bigB a && bigB b
  · obtain ⟨e0, -, e1, e4⟩ := gd_no hv
    rw [e1, e4]
    rw [e0, e4] at HC
    clear e1 e4 e0 hv
    go_enter Try.func12, Try.ntmps12
    go_wp2_with fail
    refine (HC.out _).mono ?_
    rintro e w1 ⟨rfl, b1⟩
    go_wp2
    go_ret2
    exact ⟨rfl, b1⟩
  · have h2 : bigB a = true ∧ bigB b = true := by simpa using hv
    obtain ⟨e0, -, e1, e4⟩ := gd_yes h2.1 h2.2
    obtain ⟨a1, a2⟩ := big_mk h2.1
    obtain ⟨b1, b2⟩ := big_mk h2.2
    rw [e1, e4]
    rw [e0, e4] at HC
    clear e1 e4 e0 h2 hv
    have g1 := gcI_pos (b := b) a1
    go_enter Try.func12, Try.ntmps12
    go_wp2_with fail
    refine (HC.out _).mono ?_
    rintro e w1 ⟨rfl, b1⟩
    go_wp2
    go_ret2
    exact ⟨rfl, b1⟩
end Go.Proofs.Ytajikegfladelaa.Base
