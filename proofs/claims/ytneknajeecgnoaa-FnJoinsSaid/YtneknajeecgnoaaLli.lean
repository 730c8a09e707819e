/-
  Lists of lists of integers: what the laws ask of them.
-/
import Derived.Test.YtneknajeecgnoaaJn
import Derived.Test.YtneknajeecgnoaaMark
import Derived.BigQuiet
namespace Go.Proofs.Ytneknajeecgnoaa.Base
open Go Go.RowKit
set_option linter.unusedVariables false
set_option linter.unusedSimpArgs false

/-- a list of lists in memory from block base on, each list in a block of its own -/
structure LOwn (w : World) (base : Nat) (A : Option Addr) (n c : Nat) (P : Nat → Option Addr) (N C : Nat → Nat) (F : Nat → Nat → Int) : Prop where
  nc : n ≤ c
  cm : c ≤ maxLen
  out : 0 < n → ∃ b, A = some ⟨b, 0, none⟩ ∧ base ≤ b ∧ b < w.heap.size ∧ ∀ i, i < n → w.cell? ⟨b, i, none⟩ = some (.slice (P i) (N i) (C i))
  row : ∀ i, i < n → OwnRow w base (P i) (N i) (C i) (F i)
  apO : ∀ i, i < n → 0 < N i → ∀ b, blk (P i) = some b → blk A = some b → False
  apI : ∀ i j, i < n → j < n → i ≠ j → 0 < N i → 0 < N j → ∀ b, blk (P i) = some b → blk (P j) = some b → False
/-- the sum of the first lengths -/
def offs (N : Nat → Nat) : Nat → Nat
  | 0 => 0
  | i + 1 => offs N i + N i
theorem offs_le {N : Nat → Nat} {B : Nat} : ∀ i, (∀ j, j < i → N j ≤ B) → offs N i ≤ i * B
  | 0, _ => by show 0 ≤ 0 * B; omega
  | i + 1, h => by
    have h1 := offs_le i (fun j hj => h j (by omega))
    have h2 := h i (by omega)
    show offs N i + N i ≤ (i + 1) * B
    rw [Nat.add_mul]
    omega
theorem offs_mono {N : Nat → Nat} : ∀ {i j : Nat}, i ≤ j → offs N i ≤ offs N j
  | i, 0, h => by obtain rfl : i = 0 := by omega
                  exact Nat.le_refl _
  | i, j + 1, h => by
    rcases Nat.lt_or_ge i (j + 1) with h1 | h1
    · have := offs_mono (N := N) (show i ≤ j by omega)
      show offs N i ≤ offs N j + N j
      omega
    · obtain rfl : i = j + 1 := by omega
      exact Nat.le_refl _
theorem OwnRow.ofb {w w' : World} {base : Nat} {A : Option Addr} {n c : Nat} {f : Nat → Int} (h : OwnRow w base A n c f) (hs : w.heap.size ≤ w'.heap.size) (hb : 0 < n → ∀ b, blk A = some b → b < w.heap.size → w'.heap[b]? = w.heap[b]?) : OwnRow w' base A n c f :=
  ⟨h.1, h.2.1, h.2.2.1, fun hn => by
    obtain ⟨b, o, e, h1, h2, hc⟩ := h.2.2.2 hn
    have hk := hb hn b (by rw [e]; rfl) h2
    exact ⟨b, o, e, h1, Nat.lt_of_lt_of_le h2 hs, fun i hi => ⟨(World.cell?_of_block (a := ⟨b, o + i, none⟩) hk).trans (hc i hi).1, (World.frozen?_of_block (a := ⟨b, o + i, none⟩) hk).trans (hc i hi).2⟩⟩⟩
theorem OwnRow.cgr {w : World} {base : Nat} {A : Option Addr} {n c : Nat} {f g : Nat → Int} (h : OwnRow w base A n c f) (e : ∀ j, j < n → f j = g j) : OwnRow w base A n c g :=
  ⟨h.1, h.2.1, fun i hi => by rw [← e i hi]; exact h.2.2.1 i hi, fun hn => by
    obtain ⟨b, o, e1, h1, h2, hc⟩ := h.2.2.2 hn
    exact ⟨b, o, e1, h1, h2, fun i hi => by rw [← e i hi]; exact hc i hi⟩⟩
section
variable {w w' : World} {base n c : Nat} {A : Option Addr} {P : Nat → Option Addr} {N C : Nat → Nat} {F : Nat → Nat → Int}
theorem LOwn.blocks (h : LOwn w base A n c P N C F) (hs : w.heap.size ≤ w'.heap.size) (hb : ∀ b, base ≤ b → b < w.heap.size → w'.heap[b]? = w.heap[b]?) : LOwn w' base A n c P N C F :=
  ⟨h.nc, h.cm, fun hn => by
    obtain ⟨b, e, h1, h2, hc⟩ := h.out hn
    exact ⟨b, e, h1, Nat.lt_of_lt_of_le h2 hs, fun i hi => (World.cell?_of_block (a := ⟨b, i, none⟩) (hb b h1 h2)).trans (hc i hi)⟩,
   fun i hi => (h.row i hi).ofb hs (fun hn b e hb2 => hb b ((h.row i hi).base_lt hn b e).1 hb2), h.apO, h.apI⟩
theorem LOwn.below {K : Nat} (h : LOwn w base A n c P N C F) (hb : Below K w w') (hK : w.heap.size ≤ K) : LOwn w' base A n c P N C F :=
  h.blocks hb.size (fun b _ h2 => hb.block b (by omega))
theorem LOwn.mono {base' : Nat} (h : LOwn w base A n c P N C F) (hb : base' ≤ base) : LOwn w base' A n c P N C F :=
  ⟨h.nc, h.cm, fun hn => by obtain ⟨b, e, h1, h2, hc⟩ := h.out hn; exact ⟨b, e, by omega, h2, hc⟩, fun i hi => (h.row i hi).mono hb, h.apO, h.apI⟩
theorem LOwn.setLow (h : LOwn w base A n c P N C F) {p : Nat} (hp : p < base) (i : Nat) (v : Value) : LOwn (w.setCell ⟨p, i, none⟩ v) base A n c P N C F :=
  h.blocks (by simp [World.setCell]) (fun b h1 _ => Below.heap_setCell w ⟨p, i, none⟩ v b (by simp; omega))
theorem LOwn.congr {F' : Nat → Nat → Int} (h : LOwn w base A n c P N C F) (e : ∀ i j, i < n → j < N i → F i j = F' i j) : LOwn w base A n c P N C F' :=
  ⟨h.nc, h.cm, h.out, fun i hi => (h.row i hi).cgr (fun j hj => e i j hi hj), h.apO, h.apI⟩
/-- one list written anew, in its own block -/
theorem LOwn.mark1 {i : Nat} {r : Option Nat} {f' : Nat → Int} (h : LOwn w base A n c P N C F) (hi : i < n) (hr : OwnRow w' base (P i) (N i) (C i) f') (g : w.grownBy w' r) (hg : ∀ b, r = some b → 0 < N i ∧ blk (P i) = some b) :
    LOwn w' base A n c P N C (fun k j => if k = i then f' j else F k j) := by
  refine ⟨h.nc, h.cm, fun hn => ?_, fun k hk => ?_, h.apO, h.apI⟩
  · obtain ⟨b, e, h1, h2, hc⟩ := h.out hn
    refine ⟨b, e, h1, Nat.lt_of_lt_of_le h2 g.size, fun j hj => ?_⟩
    have hb := g.block b h2 (fun e2 => by
      obtain ⟨h3, h4⟩ := hg b e2.symm
      exact h.apO i hi h3 b h4 (by rw [e]; rfl))
    exact (World.cell?_of_block (a := ⟨b, j, none⟩) hb).trans (hc j hj)
  · by_cases e : k = i
    · subst e
      simpa using hr
    · simp only [if_neg e]
      exact (h.row k hk).ofb g.size (fun hn b eb hb => g.block b hb (fun e2 => by
        obtain ⟨h3, h4⟩ := hg b e2.symm
        exact h.apI k i hk hi e hn h3 b eb h4))
end
/-- block b belongs to a list of lists -/
def LBl (A : Option Addr) (n : Nat) (P : Nat → Option Addr) (N : Nat → Nat) (b : Nat) : Prop := (0 < n ∧ blk A = some b) ∨ ∃ i, i < n ∧ 0 < N i ∧ blk (P i) = some b
theorem LOwn.lbl {w : World} {base n c : Nat} {A : Option Addr} {P : Nat → Option Addr} {N C : Nat → Nat} {F : Nat → Nat → Int} (h : LOwn w base A n c P N C F) {b : Nat} (hb : LBl A n P N b) : base ≤ b ∧ b < w.heap.size := by
  rcases hb with ⟨hn, e⟩ | ⟨i, hi, hN, e⟩
  · obtain ⟨b', rfl, h1, h2, -⟩ := h.out hn
    simp [blk] at e
    omega
  · exact (h.row i hi).base_lt hN b e
theorem LOwn.ofb {w w' : World} {base n c : Nat} {A : Option Addr} {P : Nat → Option Addr} {N C : Nat → Nat} {F : Nat → Nat → Int} (h : LOwn w base A n c P N C F) (hs : w.heap.size ≤ w'.heap.size) (hb : ∀ b, b < w.heap.size → LBl A n P N b → w'.heap[b]? = w.heap[b]?) : LOwn w' base A n c P N C F :=
  ⟨h.nc, h.cm, fun hn => by
    obtain ⟨b, e, h1, h2, hc⟩ := h.out hn
    exact ⟨b, e, h1, Nat.lt_of_lt_of_le h2 hs, fun i hi => (World.cell?_of_block (a := ⟨b, i, none⟩) (hb b h2 (.inl ⟨hn, by rw [e]; rfl⟩))).trans (hc i hi)⟩,
   fun i hi => (h.row i hi).ofb hs (fun hn b e hb2 => hb b hb2 (.inr ⟨i, hi, hn, e⟩)), h.apO, h.apI⟩
theorem Row.ofb {k : IntKind} {w w' : World} {A : Option Addr} {n c : Nat} {f : Nat → Int} (h : Row k w A n c f) (hs : w.heap.size ≤ w'.heap.size) (hb : 0 < n → ∀ b, blk A = some b → b < w.heap.size → w'.heap[b]? = w.heap[b]?) : Row k w' A n c f :=
  ⟨h.1, h.2.1, h.2.2.1, fun hn => by
    obtain ⟨b, o, e, h2, hc⟩ := h.2.2.2 hn
    have hk := hb hn b (by rw [e]; rfl) h2
    exact ⟨b, o, e, Nat.lt_of_lt_of_le h2 hs, fun i hi => (World.cell?_of_block (a := ⟨b, o + i, none⟩) hk).trans (hc i hi)⟩⟩
set_option maxHeartbeats 1000000 in
theorem eqSS_same (w : World) (base base' : Nat) (A A' : Option Addr) (n c c' : Nat) (P P' : Nat → Option Addr) (N C C' : Nat → Nat) (F : Nat → Nat → Int) (h : LOwn w base A n c P N C F) (h' : LOwn w base' A' n c' P' N C' F) :
    Calls Try.prog 30 #[.slice A n c, .slice A' n c'] w (Gives (.bool true) w) := by
  have HH := Lib.hid h
  have HH' := Lib.hid h'
  have hcm := h.cm
  have hnc := h.nc
  unfold maxLen at hcm
  clear h h'
  go_enter Try.func30, Try.ntmps30
  go_wp2
  go_loopw [5] (fun iv wr => ∃ i : Nat, i ≤ n ∧ iv = .int .i64 (i : Int) ∧ Hid (Below w.heap.size w wr)) (fun iv _ => n - (intOf iv).toNat)
  case atStart => exact ⟨0, Nat.zero_le _, rfl, Lib.hid (Below.refl _ _)⟩
  case round =>
    obtain ⟨i, hi, rfl, HB⟩ := hrel
    by_cases hlt : i < n
    · have HHr := Lib.hid (HH.out.below HB.out (Nat.le_refl _))
      have HHr' := Lib.hid (HH'.out.below HB.out (Nat.le_refl _))
      obtain ⟨b, rfl, -, hbl, hc⟩ := HHr.out.out (by omega)
      obtain ⟨b', rfl, -, hbl', hc'⟩ := HHr'.out.out (by omega)
      have hci := hc i hlt
      have hci' := hc' i hlt
      have HR := Lib.hid (HHr.out.row i hlt).row
      have HR' := Lib.hid (HHr'.out.row i hlt).row
      clear hc hc'
      go_wp2_with fail
      go_quiet ((go_at_call 69; exact quiet_drew (eqInts_same _ (P i) (P' i) (N i) (C i) (C' i) (F i) (HR.out.below (drewB _ _) (Nat.le_refl _)) (HR'.out.below (drewB _ _) (Nat.le_refl _)))))
      go_wp2
      go_roundw
      case rel => exact ⟨i + 1, by omega, by go_num, Lib.hid (below_drewN HB.out _)⟩
      case measure => simp [intOf]; omega
    · obtain rfl : i = n := by omega
      go_wp2
      go_ret
      exact ⟨rfl, HB.out⟩
/-- what marking leaves -/
def MarkedL (base : Nat) (A : Option Addr) (n c : Nat) (P : Nat → Option Addr) (N C : Nat → Nat) (k : Int) (w : World) (e : Ending) (w' : World) : Prop :=
  e = .returned (.int .i64 (k + offs N n)) ∧ LOwn w' base A n c P N C (fun i j => k + offs N i + j) ∧ Below base w w'
set_option maxHeartbeats 1000000 in
theorem markSS_any (w : World) (base : Nat) (A : Option Addr) (n c : Nat) (P : Nat → Option Addr) (N C : Nat → Nat) (F : Nat → Nat → Int) (k : Int) (h : LOwn w base A n c P N C F) (hB : base ≤ w.heap.size) (k0 : 0 ≤ k) (k1 : k + offs N n ≤ 4194304) :
    Calls Try.prog 31 #[.slice A n c, .int .i64 k] w (MarkedL base A n c P N C k w) := by
  have HH := Lib.hid h
  have hcm := h.cm
  have hnc := h.nc
  unfold maxLen at hcm
  clear h
  go_enter Try.func31, Try.ntmps31
  go_wp2
  go_loopw [1, 5] (fun kv iv wr => ∃ i : Nat, i ≤ n ∧ iv = .int .i64 (i : Int) ∧ kv = .int .i64 (k + offs N i) ∧ Hid (LOwn wr base A n c P N C (fun a j => if a < i then k + offs N a + j else F a j)) ∧ Hid (Below base w wr)) (fun _ iv _ => n - (intOf iv).toNat)
  case atStart => exact ⟨0, Nat.zero_le _, rfl, by simp [offs], Lib.hid (by simpa using HH.out), Lib.hid (Below.refl _ _)⟩
  case round =>
    obtain ⟨i, hi, rfl, rfl, HL, HB⟩ := hrel
    have hBz := HB.out.size
    by_cases hlt : i < n
    · obtain ⟨b, rfl, hbb, hbl, hc⟩ := HL.out.out (by omega)
      have hci := hc i hlt
      have HR := Lib.hid (HL.out.row i hlt)
      have hoi : offs N i + N i ≤ offs N n := offs_mono (N := N) (show i + 1 ≤ n by omega)
      clear hc
      go_wp2_with fail
      refine (mark_any wr base (P i) (N i) (C i) _ (k + offs N i) HR.out (by omega) (by omega)).mono ?_
      rintro e w2 ⟨rfl, R5, r, g5, hr5⟩
      have HL2 := Lib.hid (HL.out.mark1 hlt R5 g5 hr5)
      have HB2 := Lib.hid (HB.out.trans (Marked.below g5 hr5 HR.out (by omega)))
      clear R5 g5 hr5 HR HL HB
      go_wp2
      go_roundw
      case rel =>
        refine ⟨i + 1, by omega, by go_num, by show Value.int _ _ = Value.int _ _; congr 1; show _ = k + ((offs N i + N i : Nat) : Int); omega, Lib.hid (HL2.out.congr fun a j ha hj => ?_), HB2⟩
        by_cases e : a = i
        · subst e
          rw [if_pos rfl, if_pos (by omega)]
        · rw [if_neg e]
          by_cases h3 : a < i
          · rw [if_pos h3, if_pos (by omega)]
          · rw [if_neg h3, if_neg (by omega)]
      case measure => simp [intOf]; omega
    · obtain rfl : i = n := by omega
      go_wp2
      go_ret
      exact ⟨rfl, HL.out.congr fun a j ha hj => if_pos ha, HB.out⟩
set_option maxHeartbeats 1000000 in
theorem heldSS_any (w : World) (base : Nat) (A : Option Addr) (n c : Nat) (P : Nat → Option Addr) (N C : Nat → Nat) (k : Int) (h : LOwn w base A n c P N C (fun i j => k + offs N i + j)) (k0 : 0 ≤ k) (k1 : k + offs N n ≤ 4194304) :
    Calls Try.prog 32 #[.slice A n c, .int .i64 k] w (Gives (.int .i64 (k + offs N n)) w) := by
  have HH := Lib.hid h
  have hcm := h.cm
  have hnc := h.nc
  unfold maxLen at hcm
  clear h
  go_enter Try.func32, Try.ntmps32
  go_wp2
  go_loopw [1, 5] (fun kv iv wr => ∃ i : Nat, i ≤ n ∧ iv = .int .i64 (i : Int) ∧ kv = .int .i64 (k + offs N i) ∧ Hid (Below w.heap.size w wr)) (fun _ iv _ => n - (intOf iv).toNat)
  case atStart => exact ⟨0, Nat.zero_le _, rfl, by simp [offs], Lib.hid (Below.refl _ _)⟩
  case round =>
    obtain ⟨i, hi, rfl, rfl, HB⟩ := hrel
    by_cases hlt : i < n
    · have HHr := Lib.hid (HH.out.below HB.out (Nat.le_refl _))
      obtain ⟨b, rfl, -, hbl, hc⟩ := HHr.out.out (by omega)
      have hci := hc i hlt
      have HR := Lib.hid (HHr.out.row i hlt).row
      have hoi : offs N i + N i ≤ offs N n := offs_mono (N := N) (show i + 1 ≤ n by omega)
      clear hc
      go_wp2_with fail
      refine (held_any wr (P i) (N i) (C i) (k + offs N i) HR.out (by omega) (by omega)).mono ?_
      rintro e w2 ⟨rfl, hw⟩
      subst hw
      have hz : ¬ (k + (offs N i : Int) + (N i : Int) < 0) := by omega
      go_wp2
      go_roundw
      case rel => exact ⟨i + 1, by omega, by go_num, by show Value.int _ _ = Value.int _ _; congr 1; show _ = k + ((offs N i + N i : Nat) : Int); omega, HB⟩
      case measure => simp [intOf]; omega
    · obtain rfl : i = n := by omega
      go_wp2
      go_ret
      exact ⟨rfl, HB.out⟩
end Go.Proofs.Ytneknajeecgnoaa.Base
