/-
  Several texts in one.
-/
import Derived.Test.YtjgclemfehfgiaaDoorBase
import Derived.PlainAid
import Derived.Lib.FieldsP
import Derived.Laws.RangeAny
import Derived.Test.YtjgclemfehfgiaaDoorMark
import Derived.Deep.RegionHeld3
import Derived.OwnWalk
import Derived.Laws.AppendOwn
import Derived.Deep.AppendLies
import Derived.Deep.DeepMust
import Derived.Lib.Strings
import Derived.Laws.DeepStrings4
import Derived.Test.YtjgclemfehfgiaaDoorGC
import Derived.Lib.AppendZeros
import Derived.BigQuiet
import Derived.Test.YtjgclemfehfgiaaDoorNum
import Derived.Test.YtjgclemfehfgiaaDoorGB
import Derived.Test.YtjgclemfehfgiaaDoorPan
import Derived.Test.YtjgclemfehfgiaaDoorGA
import Derived.Test.YtjgclemfehfgiaaDoorStab
import Derived.Test.YtjgclemfehfgiaaDoorSet
namespace Go.Proofs.YtjgclemfehfgiaaDoor.Base
open Go Go.RowKit
open Go.PlainAid (bt get_bt bt_nonneg bt_le)
set_option linter.unusedVariables false

/-- the parts between blanks among the first i bytes: those that are closed, and where the open one begins -/
def prt (s : ByteArray) : Nat → List (Nat × Nat) × Nat
  | 0 => ([], 0)
  | i + 1 => if bt s i = 32 then ((prt s i).1 ++ [((prt s i).2, i)], i + 1) else prt s i
theorem prt_blank {s : ByteArray} {i : Nat} (h : bt s i = 32) : prt s (i + 1) = ((prt s i).1 ++ [((prt s i).2, i)], i + 1) := if_pos h
theorem prt_same {s : ByteArray} {i : Nat} (h : bt s i ≠ 32) : prt s (i + 1) = prt s i := if_neg h
theorem prt_le (s : ByteArray) : ∀ i, (prt s i).2 ≤ i ∧ (prt s i).1.length ≤ i ∧ ∀ x ∈ (prt s i).1, x.1 ≤ x.2 ∧ x.2 ≤ i
  | 0 => ⟨Nat.le_refl _, Nat.le_refl _, fun x hx => by cases hx⟩
  | i + 1 => by
    obtain ⟨h1, h2, h3⟩ := prt_le s i
    by_cases h : bt s i = 32
    · rw [prt_blank h]
      refine ⟨Nat.le_refl _, by simp; omega, fun x hx => ?_⟩
      rcases List.mem_append.1 hx with hx | hx
      · have := h3 x hx; exact ⟨this.1, by omega⟩
      · obtain rfl := List.mem_singleton.1 hx
        exact ⟨h1, by show i ≤ i + 1; omega⟩
    · rw [prt_same h]
      exact ⟨by omega, by omega, fun x hx => by have := h3 x hx; exact ⟨this.1, by omega⟩⟩
theorem prt_far {s : ByteArray} {i : Nat} : ∀ {k : Nat}, (∀ j, i ≤ j → j < i + k → bt s j ≠ 32) → prt s (i + k) = prt s i
  | 0, _ => rfl
  | k + 1, h => by
    show prt s ((i + k) + 1) = _
    rw [prt_same (h (i + k) (by omega) (by omega)), prt_far (fun j h1 h2 => h j h1 (by omega))]
def neB (x : Nat × Nat) : Bool := decide (x.1 < x.2)
/-- all parts -/
def prtAll (s : ByteArray) : List (Nat × Nat) := (prt s s.size).1 ++ [((prt s s.size).2, s.size)]
/-- the words -/
def wrds (s : ByteArray) : List ByteArray := ((prtAll s).filter neB).map fun x => s.extract x.1 x.2
theorem decode_cont (s : ByteArray) (pos : Nat) (h : pos < s.size) : pos + (Utf8.decode s pos).2 ≤ s.size ∧ ∀ j, pos < j → j < pos + (Utf8.decode s pos).2 → bt s j ≠ 32 := by
  have hb : ∀ k, pos + k < s.size → bt s (pos + k) = ((s.get! (pos + k)).toNat : Int) := fun k hk => by
    rw [← get_bt s (pos + k) hk]
    simp [ByteArray.get!, hk]
    rfl
  have key : ∀ c : Nat, (decide (pos + c < s.size) && (s.get! (pos + c)).toNat / 64 == 2) = true → pos + c < s.size ∧ bt s (pos + c) ≠ 32 := fun c hc => by
    simp only [Bool.and_eq_true, decide_eq_true_eq, beq_iff_eq] at hc
    refine ⟨hc.1, ?_⟩
    rw [hb c hc.1]
    omega
  simp only [Utf8.decode]
  generalize hc1 : (decide (pos + 1 < s.size) && (s.get! (pos + 1)).toNat / 64 == 2) = c1
  generalize hc2 : (decide (pos + 2 < s.size) && (s.get! (pos + 2)).toNat / 64 == 2) = c2
  generalize hc3 : (decide (pos + 3 < s.size) && (s.get! (pos + 3)).toNat / 64 == 2) = c3
  have one : pos + 1 ≤ s.size ∧ ∀ j, pos < j → j < pos + 1 → bt s j ≠ 32 := ⟨h, fun j h1 h2 => by omega⟩
  split
  · exact one
  · split
    · rename_i hh
      simp only [Bool.and_eq_true] at hh
      obtain ⟨k1, k1'⟩ := key 1 (by rw [hc1]; exact hh.2)
      split
      · exact ⟨by show pos + 2 ≤ _; omega, fun j h1 h2 => by
          have : j < pos + 2 := h2
          obtain rfl : j = pos + 1 := by omega
          exact k1'⟩
      · exact one
    · split
      · rename_i hh
        simp only [Bool.and_eq_true] at hh
        obtain ⟨k1, k1'⟩ := key 1 (by rw [hc1]; exact hh.1.2)
        obtain ⟨k2, k2'⟩ := key 2 (by rw [hc2]; exact hh.2)
        split
        · exact ⟨by show pos + 3 ≤ _; omega, fun j h1 h2 => by
            have : j < pos + 3 := h2
            rcases (show j = pos + 1 ∨ j = pos + 2 by omega) with rfl | rfl
            · exact k1'
            · exact k2'⟩
        · exact one
      · split
        · rename_i hh
          simp only [Bool.and_eq_true] at hh
          obtain ⟨k1, k1'⟩ := key 1 (by rw [hc1]; exact hh.1.1.2)
          obtain ⟨k2, k2'⟩ := key 2 (by rw [hc2]; exact hh.1.2)
          obtain ⟨k3, k3'⟩ := key 3 (by rw [hc3]; exact hh.2)
          split
          · exact ⟨by show pos + 4 ≤ _; omega, fun j h1 h2 => by
              have : j < pos + 4 := h2
              rcases (show j = pos + 1 ∨ j = pos + 2 ∨ j = pos + 3 by omega) with rfl | rfl | rfl
              · exact k1'
              · exact k2'
              · exact k3'⟩
          · exact one
        · exact one
def blankR (r : Nat) : Bool := r == 32
/-- the state of the pass over the runes -/
def stO (s : ByteArray) (i : Nat) : Option Nat := if (prt s i).2 < i then some (prt s i).2 else none
theorem spans_prt (s : ByteArray) : ∀ (f pos : Nat), s.size ≤ pos + f → pos ≤ s.size →
    Lib.spansFromP blankR s f pos (stO s pos) ((prt s pos).1.filter neB) = ((prt s s.size).1.filter neB, stO s s.size)
  | 0, pos, h, hp => by
    obtain rfl : pos = s.size := by omega
    rfl
  | f + 1, pos, h, hp => by
    by_cases hlt : pos < s.size
    · have hbt := get_bt s pos hlt
      obtain ⟨a1, -, -⟩ := prt_le s pos
      unfold Lib.spansFromP
      rw [if_pos hlt]
      by_cases hsp : bt s pos = 32
      · have h32 : (s[pos]'hlt).toNat = 32 := by omega
        have hd := decode_ascii s pos hlt (by omega)
        rw [h32] at hd
        have ih := spans_prt s f (pos + 1) (by omega) (by omega)
        have e1 : stO s (pos + 1) = none := by unfold stO; rw [prt_blank hsp]; exact if_neg (Nat.lt_irrefl _)
        rw [e1, prt_blank hsp] at ih
        rw [hd]
        simp only [blankR, beq_self_eq_true, if_true]
        by_cases hop : (prt s pos).2 < pos
        · have e2 : stO s pos = some (prt s pos).2 := if_pos hop
          have e3 : ((prt s pos).1 ++ [((prt s pos).2, pos)]).filter neB = (prt s pos).1.filter neB ++ [((prt s pos).2, pos)] := by
            rw [List.filter_append]
            simp [neB, hop]
          simp only [e2]
          rw [e3] at ih
          exact ih
        · have e2 : stO s pos = none := if_neg hop
          have e3 : ((prt s pos).1 ++ [((prt s pos).2, pos)]).filter neB = (prt s pos).1.filter neB := by
            rw [List.filter_append]
            simp [neB, hop]
          simp only [e2]
          rw [e3] at ih
          exact ih
      · obtain ⟨c1, c2⟩ := decode_cont s pos hlt
        have hw : 1 ≤ (Utf8.decode s pos).2 ∧ blankR (Utf8.decode s pos).1 = false := by
          by_cases ha : (s[pos]'hlt).toNat < 128
          · rw [decode_ascii s pos hlt ha]
            exact ⟨Nat.le_refl _, beq_eq_false_iff_ne.2 (by show (s[pos]'hlt).toNat ≠ 32; omega)⟩
          · have hh := decode_high s pos hlt (by omega)
            exact ⟨hh.2, beq_eq_false_iff_ne.2 (by omega)⟩
        obtain ⟨w1, w2⟩ := hw
        generalize Utf8.decode s pos = d at *
        have ih := spans_prt s f (pos + d.2) (by omega) c1
        have e4 : prt s (pos + d.2) = prt s pos := prt_far (fun j h1 h2 => by
          rcases Nat.eq_or_lt_of_le h1 with e | e
          · rw [← e]; exact hsp
          · exact c2 j e h2)
        have e5 : stO s (pos + d.2) = some (prt s pos).2 := by unfold stO; rw [e4]; exact if_pos (by omega)
        rw [e5, e4] at ih
        simp only [w2, Bool.false_eq_true, if_false]
        by_cases hop : (prt s pos).2 < pos
        · have e2 : stO s pos = some (prt s pos).2 := if_pos hop
          simp only [e2]
          exact ih
        · have e2 : stO s pos = none := if_neg hop
          have e6 : (prt s pos).2 = pos := by omega
          simp only [e2]
          rw [e6] at ih
          exact ih
    · obtain rfl : pos = s.size := by omega
      rw [Lib.spansFromP_end _ _ _ _ _ _ hlt]
theorem fields_wrds (s : ByteArray) : Lib.goFieldsP blankR s = wrds s := by
  unfold Lib.goFieldsP wrds Lib.spansOfP
  have h := spans_prt s s.size 0 (by omega) (Nat.zero_le _)
  have e0 : stO s 0 = none := rfl
  rw [e0] at h
  have h' : Lib.spansFromP blankR s s.size 0 none [] = _ := h
  rw [h']
  unfold prtAll Lib.closeSpans
  rw [List.filter_append]
  unfold stO
  by_cases hop : (prt s s.size).2 < s.size
  · rw [if_pos hop]
    simp [neB, hop]
  · rw [if_neg hop]
    simp [neB, hop]
end Go.Proofs.YtjgclemfehfgiaaDoor.Base
namespace Go.Proofs.YtjgclemfehfgiaaDoor.Base
open Go Go.RowKit
open Go.PlainAid (bt get_bt bt_nonneg bt_le)
set_option linter.unusedVariables false
set_option linter.unusedSimpArgs false

theorem bcellS {w w' : World} {B : Nat} (h : Below B w w') : ∀ b o, b < B → w'.cell? ⟨b, o, none⟩ = w.cell? ⟨b, o, none⟩ := fun b o hb => h.cell (p := ⟨b, o, none⟩) hb
theorem oldMk {W w' : World} (h : Below W.heap.size W w') : (∀ b o, b < W.heap.size → w'.cell? ⟨b, o, none⟩ = W.cell? ⟨b, o, none⟩) ∧ Below W.heap.size W w' := ⟨bcellS h, h⟩
theorem oldTr {W w1 w2 : World} (h : (∀ b o, b < W.heap.size → w1.cell? ⟨b, o, none⟩ = W.cell? ⟨b, o, none⟩) ∧ Below W.heap.size W w1) (b : Below w1.heap.size w1 w2) : (∀ b o, b < W.heap.size → w2.cell? ⟨b, o, none⟩ = W.cell? ⟨b, o, none⟩) ∧ Below W.heap.size W w2 := oldMk (h.2.trans (b.mono h.2.size))
/-- a slice that reads as g -/
def VRow (w : World) (A : Option Addr) (n c : Nat) (g : Nat → Value) : Prop :=
  n ≤ c ∧ c ≤ maxLen ∧ (0 < n → ∃ b o, A = some ⟨b, o, none⟩ ∧ b < w.heap.size ∧ ∀ i, i < n → w.cell? ⟨b, o + i, none⟩ = some (g i))
/-- the same, made from block base on -/
def VOwn (w : World) (base : Nat) (A : Option Addr) (n c : Nat) (g : Nat → Value) : Prop :=
  n ≤ c ∧ c ≤ maxLen ∧ (0 < n → ∃ b o, A = some ⟨b, o, none⟩ ∧ base ≤ b ∧ b < w.heap.size ∧ ∀ i, i < n → w.cell? ⟨b, o + i, none⟩ = some (g i) ∧ w.frozen? ⟨b, o + i, none⟩ = false)
section
variable {w w' : World} {base : Nat} {A : Option Addr} {n c : Nat} {g : Nat → Value}
theorem VOwn.row (h : VOwn w base A n c g) : VRow w A n c g :=
  ⟨h.1, h.2.1, fun hn => by obtain ⟨b, o, e, _, hb, hc⟩ := h.2.2 hn; exact ⟨b, o, e, hb, fun i hi => (hc i hi).1⟩⟩
theorem VRow.below {B : Nat} (h : VRow w A n c g) (hb : Below B w w') (hB : w.heap.size ≤ B) : VRow w' A n c g :=
  ⟨h.1, h.2.1, fun hn => by
    obtain ⟨b, o, e, h2, hc⟩ := h.2.2 hn
    exact ⟨b, o, e, Nat.lt_of_lt_of_le h2 hb.size, fun i hi => (hb.cell (p := ⟨b, o + i, none⟩) (Nat.lt_of_lt_of_le h2 hB)).trans (hc i hi)⟩⟩
theorem VOwn.below {B : Nat} (h : VOwn w base A n c g) (hb : Below B w w') (hB : w.heap.size ≤ B) : VOwn w' base A n c g :=
  ⟨h.1, h.2.1, fun hn => by
    obtain ⟨b, o, e, h1, h2, hc⟩ := h.2.2 hn
    exact ⟨b, o, e, h1, Nat.lt_of_lt_of_le h2 hb.size, fun i hi => ⟨(hb.cell (p := ⟨b, o + i, none⟩) (Nat.lt_of_lt_of_le h2 hB)).trans (hc i hi).1, (hb.frozen (p := ⟨b, o + i, none⟩) (Nat.lt_of_lt_of_le h2 hB)).trans (hc i hi).2⟩⟩⟩
theorem VRow.grownR {r : Option Nat} (h : VRow w A n c g) (gr : w.grownBy w' r) (hne : ∀ b, 0 < n → blk A = some b → r = some b → False) : VRow w' A n c g :=
  ⟨h.1, h.2.1, fun hn => by
    obtain ⟨b, o, e, h2, hc⟩ := h.2.2 hn
    have hb := gr.block b h2 (fun e' => hne b hn (by rw [e]; rfl) e'.symm)
    exact ⟨b, o, e, Nat.lt_of_lt_of_le h2 gr.size, fun i hi => (World.cell?_of_block (a := ⟨b, o + i, none⟩) hb).trans (hc i hi)⟩⟩
theorem VOwn.grownR {r : Option Nat} (h : VOwn w base A n c g) (gr : w.grownBy w' r) (hne : ∀ b, 0 < n → blk A = some b → r = some b → False) : VOwn w' base A n c g :=
  ⟨h.1, h.2.1, fun hn => by
    obtain ⟨b, o, e, h1, h2, hc⟩ := h.2.2 hn
    have hb := gr.block b h2 (fun e' => hne b hn (by rw [e]; rfl) e'.symm)
    exact ⟨b, o, e, h1, Nat.lt_of_lt_of_le h2 gr.size, fun i hi => ⟨(World.cell?_of_block (a := ⟨b, o + i, none⟩) hb).trans (hc i hi).1, (World.frozen?_of_block (a := ⟨b, o + i, none⟩) hb).trans (hc i hi).2⟩⟩⟩
theorem VRow.blk_lt (h : VRow w A n c g) : 0 < n → ∀ b, blk A = some b → b < w.heap.size := fun hn b hb => by
  obtain ⟨b', o, e, h2, _⟩ := h.2.2 hn
  rw [e] at hb
  simp [blk] at hb
  omega
theorem VOwn.blk_ge (h : VOwn w base A n c g) : 0 < n → ∀ b, blk A = some b → base ≤ b := fun hn b hb => by
  obtain ⟨b', o, e, h2, _⟩ := h.2.2 hn
  rw [e] at hb
  simp [blk] at hb
  omega
theorem markedV_below {r : Option Nat} {B : Nat} (h : w.grownBy w' r) (hr : ∀ b, r = some b → 0 < n ∧ blk A = some b) (ho : VOwn w base A n c g) (hb : B ≤ base) (hs : base ≤ w.heap.size) : Below B w w' :=
  (Below.refl B w).grown h (Nat.le_trans hb hs) (fun b e => by
    obtain ⟨hn, hA⟩ := hr b e
    have := ho.blk_ge hn b hA
    omega)
end
theorem infoStr : (Tryd.prog.info? 9).map (fun i => (i.zero, i.size, i.bytes)) = some (some (.string ⟨#[]⟩), 1, 16) := by kernel_rfl
theorem sp_slice {w : World} {base n s : Nat} {e : TypeId} {v : Value} {xs : List Value} (h : w.ownsRow base e s v n xs) : ∃ A c, v = .slice A n c := by
  rcases h.2 with ⟨rfl, rfl⟩ | ⟨g, cap, cur, rfl, _⟩
  · exact ⟨none, 0, rfl⟩
  · exact ⟨_, cap, rfl⟩
theorem sp_below {wr wa : World} {base n s : Nat} {e : TypeId} {v : Value} {xs : List Value} (h : wr.ownsRow base e s v n xs) (hb : Below wr.heap.size wr wa) : wa.ownsRow base e s v n xs :=
  h.kept (grown_of_below (r := none) hb) (by by_cases e : v.ownBlock = none <;> simp [e])
theorem sp_new0 {X : World} {e : TypeId} {s base p : Nat} (hp : X.heap.size = p) (hb : base ≤ p) : (X.alloc (.cells #[] e)).ownsRow base e s (.slice (some ⟨p, 0, none⟩) 0 0) 0 [] := by
  subst hp
  exact World.ownsRow_lit (size := s) _ #[] 0 hb (Nat.zero_le _) (by simp)
theorem vown_of {w : World} {base base' : Nat} {A : Option Addr} {n c : Nat} {T : TypeId} {l : List ByteArray} (h : w.ownsRow base T 1 (.slice A n c) n (l.map Value.string)) (hb : base' ≤ base) (hn : n ≤ maxLen) : VOwn w base' A n c (fun i => .string (l.getD i ⟨#[]⟩)) := by
  have hl : l.length = n := by have := h.1; simpa using this
  rcases h.2 with ⟨e, rfl⟩ | ⟨b, cap, cur, e, hb', hgb, hnc, hcm, hcs, ht⟩
  · cases e
    exact ⟨Nat.le_refl _, Nat.zero_le _, fun h => absurd h (by omega)⟩
  · cases e
    refine ⟨hnc, hcm, fun hn' => ⟨b, 0, rfl, by omega, (Array.getElem?_eq_some_iff.1 hgb).1, fun i hi => ⟨?_, ?_⟩⟩⟩
    · rw [Nat.zero_add, h.cellAt i (by omega)]
      simp [List.getD_eq_getElem?_getD, List.getElem?_eq_getElem (show i < l.length by omega)]
    · rw [Nat.zero_add]
      exact h.frozenAt i
def digU (k : Nat) : UInt8 := UInt8.ofNat (48 + k % 10)
/-- the digits of a number ahead of a text -/
def dgt (k : Nat) (s : ByteArray) : ByteArray := if h : k = 0 then s else dgt (k / 10) (⟨#[digU k]⟩ ++ s)
termination_by k
decreasing_by omega
theorem dgt_zero (s : ByteArray) : dgt 0 s = s := by unfold dgt; rw [dif_pos rfl]
theorem dgt_step {k : Nat} (s : ByteArray) (h : 0 < k) : dgt k s = dgt (k / 10) (⟨#[digU k]⟩ ++ s) := by
  conv => lhs; unfold dgt
  rw [dif_neg (by omega)]
/-- the text that marks with k -/
def mkT (k : Int) : ByteArray := if k ≤ 0 then ⟨#[109, 48]⟩ else ⟨#[109]⟩ ++ dgt k.toNat ⟨#[]⟩
def MarkedV (base : Nat) (A : Option Addr) (n c : Nat) (k : Int) (w : World) (e : Ending) (w' : World) : Prop :=
  e = .returned (.int .i64 (k + n)) ∧ VOwn w' base A n c (fun i => .string (mkT (k + i))) ∧ Below base w w' ∧ ∃ r, w.grownBy w' r ∧ ∀ b, r = some b → 0 < n ∧ blk A = some b
end Go.Proofs.YtjgclemfehfgiaaDoor.Base
namespace Go.Proofs.YtjgclemfehfgiaaDoor.Base
open Go Go.RowKit
set_option linter.unusedVariables false
set_option linter.unusedSimpArgs false

theorem wpList_append_run {P : Program} {w w' : World} {ops : Array Oper} {rest : List Oper} {o : Oper} {a : Act} {Q : Exit → Act → World → Prop} (hgd : o.guard = none) (s x : Operand) (t tn : TypeId)
    (ho : o.op = .call { callee := .builtin .append, args := #[s, x], argTypes := #[t, tn] }) (vs vx v : Value) (hs : a.eval s = vs) (hx : a.eval x = vx) (hrun : ∀ ty, (Builtin.append_ #[t, tn] ty #[vs, vx]).run P w = .ok v w')
    (h : wpList P ops Q rest (a.put o.dst v) w') : wpList P ops Q (o :: rest) a w := by
  refine wpList_plain hgd fun K hK => ?_
  have hrun := hrun o.type
  unfold Oper.wp
  simp [execOp, ho, resolve, invoke, builtin, hs, hx, hrun, Result.andThen]
  exact hK _ _ h
/-- what Grow of nothing leaves: room, if any is wanted -/
def GrowO (n : Nat) (w : World) (e : Ending) (w' : World) : Prop := ∃ u, e = .returned u ∧ w'.ownsRow w.heap.size 22 1 u 0 [] ∧ (n = 0 → u = .slice none 0 0) ∧ Below w.heap.size w w'
set_option maxRecDepth 100000 in
set_option maxHeartbeats 4000000 in
theorem lib_grow (w : World) (n : Nat) (hn : n ≤ 1000000) : Calls Tryd.prog 157 #[.slice none 0 0, .int .i64 (n : Int)] w (GrowO n w) := by
  obtain ⟨i2, hi2, hz0, hz1, hz2⟩ := info_parts infoSl
  rcases Nat.eq_zero_or_pos n with rfl | h0
  · go_enter Tryd.func157, Tryd.ntmps157
    go_wp2
    go_ret
    exact ⟨_, rfl, ⟨rfl, .inl ⟨rfl, rfl⟩⟩, fun _ => rfl, Below.refl _ _⟩
  · have hap' := fun (w : World) (ty : TypeId) => Lib.run_append_nil_zeros (P := Tryd.prog) w 44 3 ty 22 i2 _ .i64 .i64 Tryd.underlying44 Tryd.underlying3 hi2 hz0 n h0 (by rw [hz1]; decide) (by omega) (by rw [hz2]; omega)
    have HAP := Lib.hid (hap' w)
    clear hap'
    have hap := fun ty => HAP.out ty
    have hcap := grownCap_ge w n 0 22
    have hcm := grownCap_le_maxLen w n 0 22 (by unfold maxLen; omega)
    unfold maxLen at hcm
    clear hap
    have hi0 : IntKind.i64.wrap ((n : Int) - 0) = n := by rw [IntKind.wrap_i64]; omega
    go_enter Tryd.func157, Tryd.ntmps157
    go_wp2_with (at_builtin; refine wpList_append_run rfl (.tmp 20) (.tmp 21) 44 3 rfl (.slice none 0 0) (.int .i64 (n : Int)) _ rfl (by rfl) HAP.out ?_)
    go_ret
    refine ⟨_, rfl, ?_, fun h => by omega, ((Below.refl w.heap.size w).drew).alloc (Nat.le_refl _) _⟩
    refine ⟨rfl, .inr ⟨w.heap.size, _, _, rfl, Nat.le_refl _, heap_alloc_new w.drew _, Nat.zero_le _, by unfold maxLen; omega, ?_, by simp⟩⟩
    simp [Builtin.zeroCells, madeCells]
    omega
/-- the contents of the first k lists, one behind the other -/
def catV (V : Nat → List Value) : Nat → List Value
  | 0 => []
  | k + 1 => catV V k ++ V k
theorem catV_le (V : Nat → List Value) {i : Nat} : ∀ {k : Nat}, i ≤ k → (catV V i).length ≤ (catV V k).length
  | 0, h => by obtain rfl : i = 0 := by omega
               exact Nat.le_refl _
  | k + 1, h => by
    rcases Nat.lt_or_ge i (k + 1) with h1 | h1
    · have := catV_le V (i := i) (k := k) (by omega)
      show _ ≤ (catV V k ++ V k).length
      rw [List.length_append]
      omega
    · obtain rfl : i = k + 1 := by omega
      exact Nat.le_refl _
theorem catV_step (V : Nat → List Value) (k : Nat) : (catV V (k + 1)).length = (catV V k).length + (V k).length := by
  show (catV V k ++ V k).length = _
  rw [List.length_append]
/-- a list whose elements are V -/
def LRd (w : World) (A : Option Addr) (n c : Nat) (V : List Value) : Prop := V.length = n ∧ (n = 0 → A = none) ∧ n ≤ c ∧ c ≤ maxLen ∧ (∀ u ∈ V, u.oneCell' = true) ∧ (0 < n → ∃ b o, A = some ⟨b, o, none⟩ ∧ b < w.heap.size ∧ ∀ j u, V[j]? = some u → w.cell? ⟨b, o + j, none⟩ = some u)
theorem LRd.below {w w' : World} {A : Option Addr} {n c : Nat} {V : List Value} (h : LRd w A n c V) (hb : Below w.heap.size w w') : LRd w' A n c V :=
  ⟨h.1, h.2.1, h.2.2.1, h.2.2.2.1, h.2.2.2.2.1, fun hn => by
    obtain ⟨b, o, e, h1, h2⟩ := h.2.2.2.2.2 hn
    exact ⟨b, o, e, Nat.lt_of_lt_of_le h1 hb.size, fun j u hj => (hb.cell (p := ⟨b, o + j, none⟩) h1).trans (h2 j u hj)⟩⟩
/-- what Concat leaves -/
def ConcO (L : List Value) (w : World) (e : Ending) (w' : World) : Prop := ∃ u, e = .returned u ∧ w'.ownsRow w.heap.size 22 1 u L.length L ∧ (L.length = 0 → u = .slice none 0 0) ∧ Below w.heap.size w w'
set_option maxRecDepth 100000 in
set_option maxHeartbeats 4000000 in
theorem lib_concat (w : World) (A : Option Addr) (c k : Nat) (B : Nat → Option Addr) (N C : Nat → Nat) (V : Nat → List Value) (hr : VRow w A k c (fun i => .slice (B i) (N i) (C i))) (hv : ∀ i, i < k → LRd w (B i) (N i) (C i) (V i)) (ht : (catV V k).length ≤ 1000) :
    Calls Tryd.prog 110 #[.slice A k c] w (ConcO (catV V k) w) := by
  obtain ⟨i2, hi2, hz0, hz1, hz2⟩ := info_parts infoSl
  have hkc := hr.1
  have hcm := hr.2.1
  unfold maxLen at hcm
  have HR := Lib.hid hr
  have HV := Lib.hid hv
  have HL := Lib.hid (fun i (hi : i ≤ k) => catV_le V hi)
  have HS := Lib.hid (fun i => catV_step V i)
  obtain ⟨T, hT⟩ : ∃ T, (catV V k).length = T := ⟨_, rfl⟩
  have HTT := Lib.hid hT
  rw [hT] at ht HL
  clear hr hv hT
  go_enter Tryd.func110, Tryd.ntmps110
  go_wp2
  go_loop [3, 11] (fun sv kv => ∃ i : Nat, i ≤ k ∧ kv = .int .i64 (i : Int) ∧ sv = .int .i64 ((catV V i).length : Int)) (fun _ kv => k - (intOf kv).toNat)
  case atStart => exact ⟨0, Nat.zero_le _, rfl, rfl⟩
  case round =>
    obtain ⟨i, hi, rfl, rfl⟩ := hrel
    have hli := HL.out i hi
    by_cases hlt : i < k
    · obtain ⟨b, o, rfl, hbl, hc⟩ := HR.out.2.2 (by omega)
      have hci := hc i hlt
      have hl1 := HL.out (i + 1) hlt
      have hs1 := HS.out i
      have hln := (HV.out i hlt).1
      clear hc
      have hN : N i ≤ 1000 := by omega
      have he : ((catV V (i + 1)).length : Int) = ((catV V i).length : Int) + (N i : Int) := by omega
      have HE := Lib.hid he
      clear he hs1 hln hl1
      go_wp2
      go_round
      case rel => exact ⟨i + 1, by omega, by go_num, by rw [HE.out]⟩
      case measure => simp [intOf]; omega
    · obtain rfl : i = k := by omega
      rw [HTT.out]
      go_wp2_with fail
      refine (lib_grow _ T (by omega)).mono ?_
      rintro e w1 ⟨u0, rfl, h1, h2, h3⟩
      have HO1 := Lib.hid h1
      have HN1 := Lib.hid h2
      have HB1 := Lib.hid h3
      clear h1 h2 h3
      go_wp2
      go_loopw [6, 27] (fun u kv wx => ∃ j : Nat, j ≤ i ∧ kv = .int .i64 (j : Int) ∧ Hid (wx.ownsRow w.heap.size 22 1 u (catV V j).length (catV V j)) ∧ Hid (T = 0 → u = .slice none 0 0) ∧ Hid (Below w.heap.size w wx)) (fun _ kv _ => i - (intOf kv).toNat)
      case atStart => exact ⟨0, Nat.zero_le _, rfl, HO1, HN1, HB1⟩
      case round =>
        clear HO1 HN1 HB1
        obtain ⟨j, hj, rfl, HO, HN, HB⟩ := hrel
        obtain ⟨Ao, co, rfl⟩ := owns_slice HO.out
        have hBz := HB.out.size
        have hlj := HL.out j hj
        by_cases hlt2 : j < i
        · obtain ⟨b, o, rfl, hbl, hc⟩ := HR.out.2.2 (by omega)
          have hcj : wr.cell? ⟨b, o + j, none⟩ = some (.slice (B j) (N j) (C j)) := (HB.out.cell (p := ⟨b, o + j, none⟩) hbl).trans (hc j hlt2)
          have bz : b < wr.heap.size := Nat.lt_of_lt_of_le hbl hBz
          have hl1 := HL.out (j + 1) hlt2
          have hs1 := HS.out j
          have HVj := Lib.hid ((HV.out j hlt2).below HB.out)
          have hln := (HV.out j hlt2).1
          clear hc
          obtain ⟨M, hM⟩ : ∃ M, (catV V j).length = M := ⟨_, rfl⟩
          rw [hM] at HO HN hs1 hlj ⊢
          rcases Nat.eq_zero_or_pos (N j) with hN0 | hN0
          · have hBn := (HV.out j hlt2).2.1 hN0
            have hV0 : V j = [] := List.length_eq_zero_iff.1 (by omega)
            have HE := Lib.hid (show catV V (j + 1) = catV V j by show catV V j ++ V j = _; rw [hV0, List.append_nil])
            rw [hN0, hBn] at hcj
            have HM := Lib.hid hM
            clear hM hs1 hl1 hln hN0 hBn hV0
            go_wp2_with (at_builtin; refine wpList_append_none0 rfl (.tmp 31) (.tmp 32) 44 rfl w.heap.size 22 i2 1 Tryd.underlying44 hi2 _ M (catV V j) rfl HO.out (C j) rfl ?_)
            clear hcj
            go_roundw
            case rel => exact ⟨j + 1, by omega, by go_num, Lib.hid (by rw [HE.out, HM.out]; exact HO.out), HN, HB⟩
            case measure => simp [intOf]; omega
          · obtain ⟨b3, o3, hB3, hb3, hc3⟩ := HVj.out.2.2.2.2.2 hN0
            rw [hB3] at hcj
            have HM := Lib.hid hM
            have h1c := HVj.out.2.2.2.2.1
            have H1C := Lib.hid h1c
            have HC3 := Lib.hid hc3
            have HLN := Lib.hid (show (V j).length = N j * 1 by omega)
            have hnT : T ≠ 0 := by omega
            have hMN : M + N j ≤ 1000 := by omega
            clear hM h1c hc3 hB3 hs1 hln
            go_wp2_with (first
              | (at_builtin; refine wpList_append_lies _ (by rfl) (.tmp 31) (.tmp 32) 44 (by rfl) w.heap.size 22 i2 _ 1 24 Tryd.underlying44 hi2 hz0 hz1 hz2 rfl (by omega) _ M (catV V j) (by rfl) HO.out ⟨b3, o3, none⟩ (N j) (C j) (V j) (by rfl) HLN.out (fun q u hq => by have h9 := HC3.out q u hq; have hadd : (⟨b3, o3, none⟩ : Addr).add q = ⟨b3, o3 + q, none⟩ := (by unfold Addr.add; split <;> simp_all); rw [hadd]; exact h9) H1C.out hN0 (by unfold maxLen; omega) (by omega) hBz _ rfl ?_; intro g6 cap6 w6 hown6 hgrow6 hat6 hlt6; have HOW := Lib.hid hown6; have HGR := Lib.hid hgrow6; clear hown6 hgrow6 hat6))
            clear hcj
            go_roundw
            case rel =>
              refine ⟨j + 1, by omega, by go_num, Lib.hid ?_, Lib.hid (fun h => absurd h hnT), Lib.hid (HB.out.grown HGR.out hBz (fun b e => (HO.out.lt b e).1))⟩
              rw [show (catV V (j + 1)).length = M + N j by rw [catV_step, HM.out]; have := HLN.out; omega]
              exact HOW.out
            case measure => simp [intOf]; omega
        · obtain rfl : j = i := by omega
          go_wp2
          go_ret
          exact ⟨_, rfl, HO.out, fun h => HN.out (by rw [← HTT.out]; exact h), HB.out⟩
end Go.Proofs.YtjgclemfehfgiaaDoor.Base
namespace Go.Proofs.YtjgclemfehfgiaaDoor.Base
open Go Go.RowKit
set_option linter.unusedVariables false
set_option linter.unusedSimpArgs false

/-- what is kept while a forest is at work: all blocks but those of X and the log's -/
structure Kx (X : List Nat) (lv lv' : Value) (w w' : World) : Prop where
  os : w'.os = w.os
  tape : w'.tape = w.tape
  output : w'.output = w.output
  size : w.heap.size ≤ w'.heap.size
  block : ∀ k, k < w.heap.size → k ∉ X → lv.ownBlock ≠ some k → w'.heap[k]? = w.heap[k]?
  own : ∀ q, lv'.ownBlock = some q → lv.ownBlock = some q ∨ w.heap.size ≤ q
section
variable {X : List Nat} {l0 l1 l2 : Value} {w w1 w2 : World}
theorem Kx.refl (X : List Nat) (lv : Value) (w : World) : Kx X lv lv w w := ⟨rfl, rfl, rfl, Nat.le_refl _, fun _ _ _ _ => rfl, fun q h => .inl h⟩
theorem Kx.trans (h : Kx X l0 l1 w w1) (k : Kx X l1 l2 w1 w2) : Kx X l0 l2 w w2 :=
  ⟨k.os.trans h.os, k.tape.trans h.tape, k.output.trans h.output, Nat.le_trans h.size k.size, fun b h1 h2 h4 => (k.block b (Nat.lt_of_lt_of_le h1 h.size) h2 (fun e => by
    rcases h.own b e with h5 | h5
    · exact h4 h5
    · omega)).trans (h.block b h1 h2 h4), fun q hq => by
    rcases k.own q hq with h5 | h5
    · exact h.own q h5
    · exact .inr (Nat.le_trans h.size h5)⟩
theorem Kx.bel (h : Kx X l0 l1 w w1) (b : Below w1.heap.size w1 w2) : Kx X l0 l1 w w2 :=
  ⟨b.os.trans h.os, b.tape.trans h.tape, b.output.trans h.output, Nat.le_trans h.size b.size, fun k h1 h2 h4 => (b.block k (Nat.lt_of_lt_of_le h1 h.size)).trans (h.block k h1 h2 h4), h.own⟩
theorem Kx.set (h : Kx X l0 l1 w w1) {x : Nat} (hx : x ∈ X) (i : Nat) (v : Value) : Kx X l0 l1 w (w1.setCell ⟨x, i, none⟩ v) :=
  ⟨h.os, h.tape, h.output, by simpa [World.setCell] using h.size, fun k h1 h2 h4 => (Below.heap_setCell w1 ⟨x, i, none⟩ v k (by show k ≠ x; rintro rfl; exact h2 hx)).trans (h.block k h1 h2 h4), h.own⟩
theorem Kx.kf {F E : Nat} (hF : F ∈ X) (hE : E ∈ X) (h : Kf F E l0 l1 w w1) : Kx X l0 l1 w w1 :=
  ⟨h.os, h.tape, h.output, h.size, fun k h1 h2 h4 => h.block k h1 (fun e => h2 (by rw [e]; exact hF)) (fun e => h2 (by rw [e]; exact hE)) h4, h.own⟩
/-- changes in blocks made behind w do not count -/
theorem Kx.drop {Y : List Nat} (h : Kx Y l0 l1 w w1) (hs : ∀ y ∈ Y, y ∈ X ∨ w.heap.size ≤ y) : Kx X l0 l1 w w1 :=
  ⟨h.os, h.tape, h.output, h.size, fun k h1 h2 h4 => h.block k h1 (fun e => by
    rcases hs k e with h5 | h5
    · exact h2 h5
    · omega) h4, h.own⟩
/-- from an older world on -/
theorem Kx.from_ (h : Kx X l0 l1 w1 w2) (b : Below w.heap.size w w1) : Kx X l0 l1 w w2 := ⟨h.os.trans b.os, h.tape.trans b.tape, h.output.trans b.output, Nat.le_trans b.size h.size, fun k h1 h2 h4 => (h.block k (Nat.lt_of_lt_of_le h1 b.size) h2 h4).trans (b.block k h1), fun q hq => by
    rcases h.own q hq with h5 | h5
    · exact .inl h5
    · exact .inr (Nat.le_trans b.size h5)⟩
/-- a block that is kept -/
theorem Kx.at_ (h : Kx X l0 l1 w w1) {k : Nat} {cs : Array Value} {t : TypeId} (ha : At w k cs t) (hX : k ∉ X) (hl : l0.ownBlock ≠ some k) : At w1 k cs t := ha.of_block (h.block k ha.lt hX hl)
theorem Kx.ne (h : Kx X l0 l1 w w1) {k : Nat} (hk : k < w.heap.size) (hl : l0.ownBlock ≠ some k) : l1.ownBlock ≠ some k := fun e => by
  rcases h.own k e with h5 | h5
  · exact hl h5
  · omega
end
theorem PrL.keptX {X : List Nat} {w w' : World} {F E : Nat} {lv lv' : Value} {A : Option Addr} {c : Nat} {ps : List (Nat × Nat)} (h : PrL w F E lv A c ps) (k : Kx X lv lv' w w') (hX : ∀ b o, 0 < ps.length → A = some ⟨b, o, none⟩ → b ∉ X ∧ ∀ i q, i < ps.length → w.cell? ⟨b, o + i, none⟩ = some (.slice (some ⟨q, 0, none⟩) 2 2) → q ∉ X) : PrL w' F E lv' A c ps := by
  refine ⟨h.1, h.2.1, fun hn => ?_⟩
  obtain ⟨b, o, h1, h2, h3, h4, h5, h6⟩ := h.2.2 hn
  obtain ⟨x1, x2⟩ := hX b o hn h1
  refine ⟨b, o, h1, Nat.lt_of_lt_of_le h2 k.size, h3, h4, k.ne h2 h5, fun i x y hi => ?_⟩
  obtain ⟨q, q1, q2, q3, q4, q5, q6, q7⟩ := h6 i x y hi
  have eb := k.block b h2 x1 h5
  have hil : i < ps.length := (List.getElem?_eq_some_iff.1 hi).1
  have eq := k.block q q2 (x2 i q hil q1) q5
  exact ⟨q, (World.cell?_of_block (a := ⟨b, o + i, none⟩) eb).trans q1, Nat.lt_of_lt_of_le q2 k.size, q3, q4, k.ne q2 q5, (World.cell?_of_block (a := ⟨q, 0, none⟩) eq).trans q6, (World.cell?_of_block (a := ⟨q, 1, none⟩) eq).trans q7⟩
/-- a forest at rest while other blocks change -/
theorem Fo.bel {w w' : World} {b0 F E n : Nat} {lv : Value} {p : Nat → Nat} {m : Nat} {g : Nat → Int} (h : Fo w b0 F E n lv p m g) (b : Below w.heap.size w w') : Fo w' b0 F E n lv p m g :=
  ⟨h.box.below b h.box.lt, h.elm.of_block (b.block E h.elm.lt), owns_belowS h.log b, h.far, h.ne, h.ju, h.cnt, h.n2⟩
theorem Fo.set {w : World} {b0 F E n : Nat} {lv : Value} {p : Nat → Nat} {m : Nat} {g : Nat → Int} (h : Fo w b0 F E n lv p m g) {x : Nat} (hF : x ≠ F) (hE : x ≠ E) (hl : lv.ownBlock ≠ some x) (i : Nat) (v : Value) : Fo (w.setCell ⟨x, i, none⟩ v) b0 F E n lv p m g :=
  ⟨h.box.setOther (a := ⟨x, i, none⟩) hF v, h.elm.of_block (Below.heap_setCell w ⟨x, i, none⟩ v E (fun e => hE e.symm)), h.log.kept (grown_set w x i v) (own_ne (fun q hq e => hl (by rw [hq, e]))), h.far, h.ne, h.ju, h.cnt, h.n2⟩
theorem cells_congr {m : Nat} {g g' : Nat → Int} (h : ∀ i, i < m → g i = g' i) : cellsOfF m g = cellsOfF m g' := by
  unfold cellsOfF
  exact List.map_congr_left fun i hi => by rw [h i (List.mem_range.1 hi)]
/-- the joining behind the first m entries of the log is taken back -/
theorem undo_back (u : FrameMode) (w : World) (b0 F E n : Nat) (lv : Value) (p p' : Nat → Nat) (m m' : Nat) (g g' : Nat → Int) (hfo : Fo w b0 F E n lv p' m' g') (hlg : Lg n p p' m m' g g') (hju : ∃ rk, Ju n p p rk [] m) (hc : nRt n p + m = n)
    (hg : ∀ i, i < m → 0 ≤ g i ∧ g i < n) :
    CallsD Tryd.prog 158 #[.pointer (some ⟨F, 0, none⟩), .int .i64 (m : Int)] u w (fun e u' w' => u' = u ∧ (∃ v, e = .returned v) ∧ ∃ lv', Fo w' b0 F E n lv' p m g ∧ Kf F E lv lv' w w' ∧ w'.heap.size = w.heap.size) := by
  have hn := hfo.n2
  have hle := hlg.le
  rcases hfo.log.2 with ⟨rfl, hm0⟩ | ⟨gb, cap, cur, rfl, h1, h2, h3⟩
  · subst hm0
    obtain rfl : m = 0 := by omega
    refine (impl_undo_nil_d u w F E n _ hfo.box).mono ?_
    rintro e u' w' ⟨rfl, hv, rfl⟩
    have hpp : ∀ x, p' x = p x := fun x => hlg.back x
    have hFE := hfo.ne
    refine ⟨rfl, hv, .slice none 0 0, ⟨by simpa using hfo.box.set 1 (.slice none 0 0), (hfo.elm.congr hpp).of_block (Below.heap_setCell w ⟨F, 1, none⟩ _ E (fun e => hFE e.symm)), ⟨by simp [cellsOfF], .inl ⟨rfl, rfl⟩⟩, hfo.far, hfo.ne, hju, hc, hn⟩, (Kf.refl F E _ w).set (.inr rfl) _ _, by simp [World.setCell]⟩
  · refine (impl_undo_d u w F E n m' m gb cap b0 _ p' g' hfo.box hfo.elm hfo.log (hfo.far gb rfl).1 (hfo.far gb rfl).2 hfo.ne (fun i hi => ?_) hle (by omega)).mono ?_
    · by_cases hi2 : i < m
      · rw [hlg.old i hi2]; exact hg i hi2
      · obtain ⟨z, e1, e2, e3⟩ := hlg.new i (by omega) hi
        rw [e1]; omega
    · rintro e u' w' ⟨rfl, hv, hE, hF, hl, hz, hfr⟩
      have hfr := hfr w.heap.size
      refine ⟨rfl, hv, .slice (some ⟨gb, 0, none⟩) m cap, ⟨hF, hE.congr (fun x => hlg.back x), by rw [cells_congr (fun i hi => hlg.old i hi)] at hl; exact hl, fun q hq => by cases hq; exact hfo.far gb rfl, hfo.ne, hju, hc, hn⟩, ⟨hfr.os, hfr.tape, hfr.output, hfr.size, fun k k1 k2 k3 _ => hfr.block k k1 k2 k3, fun q hq => .inl hq⟩, hz⟩
set_option maxHeartbeats 2000000 in
theorem during_out (w : World) (b0 F E n : Nat) (lv : Value) (p : Nat → Nat) (m : Nat) (g : Nat → Int) (A : Option Addr) (c : Nat) (ps : List (Nat × Nat)) (caps : Array Value) (X : List Nat) (t : Nat) (cs : Array Value) (ty : TypeId)
    (hfo : Fo w b0 F E n lv p m g) (hps : PrL w F E lv A c ps) (hlt : ∀ z ∈ ps, z.1 < n ∧ z.2 < n) (hN : ps.length ≤ 1000) (hb0 : b0 ≤ w.heap.size) (hg : ∀ i, i < m → 0 ≤ g i ∧ g i < n) (hFX : F ∈ X) (hEX : E ∈ X) (htF : t ≠ F) (htE : t ≠ E)
    (hdo : ∀ (lv' : Value) (p' : Nat → Nat) (m' : Nat) (g' : Nat → Int) (w' : World), Jns p ps p' → Lg n p p' m m' g g' → Fo w' b0 F E n lv' p' m' g' → Kf F E lv lv' w w' →
      Calls Tryd.prog 112 caps w' (fun e w'' => (∃ v, e = .returned v) ∧ ∃ lv'', Fo w'' b0 F E n lv'' p' m' g' ∧ Kx X lv' lv'' w' w'' ∧ At w'' t cs ty ∧ lv''.ownBlock ≠ some t)) :
    Calls Tryd.prog 111 #[.pointer (some ⟨F, 0, none⟩), .func (.func 112) #[] caps, .slice A ps.length c] w (fun e w' => (∃ v, e = .returned v) ∧ ∃ lv', Fo w' b0 F E n lv' p m g ∧ Kx X lv lv' w w' ∧ At w' t cs ty ∧ lv'.ownBlock ≠ some t) := by
  have HFO := Lib.hid hfo
  have HG := Lib.hid hg
  have HDO := Lib.hid hdo
  have HJN := Lib.hid (impl_joinN w b0 F E n lv p m g A c ps hfo hps hlt hN hb0)
  have hFz := hfo.box.lt
  have b1 := hfo.box.cellv (i := 1) rfl
  obtain ⟨Al, cl, hlv⟩ := owns_slice hfo.log
  subst hlv
  clear hfo hps hlt hg hdo hb0
  go_enter_defers Tryd.func111, Tryd.ntmps111
  go_wp2_with fail
  refine HJN.out.mono ?_
  rintro e w1 ⟨⟨v, rfl⟩, lv1, p1, m1, g1, h1, h2, h3, h4⟩
  have HLG := Lib.hid h2
  have HKF := Lib.hid h4
  have HC := Lib.hid (HDO.out lv1 p1 m1 g1 w1 h1 h2 h3 h4)
  clear h1 h2 h3 h4 b1
  go_wp2_with fail
  refine HC.out.mono ?_
  rintro e w2 ⟨⟨v2, rfl⟩, lv2, h5, h6, h7, h8⟩
  have H5 := Lib.hid h5
  have H6 := Lib.hid h6
  have H7 := Lib.hid h7
  have H8 := Lib.hid h8
  clear h5 h6 h7 h8
  go_wp2
  refine leaves_cons (f := 158) (args := #[.pointer (some ⟨F, 0, none⟩), .int .i64 (m : Int)]) (by simp) (by simp [go_sem]) ?_
  refine (undo_back .returning w2 b0 F E n lv2 p p1 m m1 g g1 H5.out HLG.out HFO.out.ju HFO.out.cnt HG.out).mono ?_
  rintro e u' w' ⟨rfl, ⟨v3, rfl⟩, lv3, k1, k2, k3⟩
  refine ⟨_, results_none rfl _ _ _, ⟨_, rfl⟩, lv3, k1, ((Kx.kf hFX hEX HKF.out).trans H6.out).trans (Kx.kf hFX hEX k2), H7.out.of_block (k2.block t H7.out.lt htF htE H8.out), fun e => ?_⟩
  rcases k2.own t e with h | h
  · exact H8.out h
  · exact absurd h (Nat.not_le.2 H7.out.lt)
set_option maxHeartbeats 2000000 in
theorem during_cnt (w : World) (b0 F E n : Nat) (lv : Value) (p : Nat → Nat) (m : Nat) (g : Nat → Int) (A : Option Addr) (c : Nat) (ps : List (Nat × Nat)) (caps : Array Value) (X : List Nat) (t : Nat) (cs : Array Value) (ty : TypeId)
    (hfo : Fo w b0 F E n lv p m g) (hps : PrL w F E lv A c ps) (hlt : ∀ z ∈ ps, z.1 < n ∧ z.2 < n) (hN : ps.length ≤ 1000) (hb0 : b0 ≤ w.heap.size) (hg : ∀ i, i < m → 0 ≤ g i ∧ g i < n) (hFX : F ∈ X) (hEX : E ∈ X) (htF : t ≠ F) (htE : t ≠ E)
    (hdo : ∀ (lv' : Value) (p' : Nat → Nat) (m' : Nat) (g' : Nat → Int) (w' : World), Jns p ps p' → Lg n p p' m m' g g' → Fo w' b0 F E n lv' p' m' g' → Kf F E lv lv' w w' →
      Calls Tryd.prog 115 caps w' (fun e w'' => (∃ v, e = .returned v) ∧ ∃ lv'', Fo w'' b0 F E n lv'' p' m' g' ∧ Kx X lv' lv'' w' w'' ∧ At w'' t cs ty ∧ lv''.ownBlock ≠ some t)) :
    Calls Tryd.prog 111 #[.pointer (some ⟨F, 0, none⟩), .func (.func 115) #[] caps, .slice A ps.length c] w (fun e w' => (∃ v, e = .returned v) ∧ ∃ lv', Fo w' b0 F E n lv' p m g ∧ Kx X lv lv' w w' ∧ At w' t cs ty ∧ lv'.ownBlock ≠ some t) := by
  have HFO := Lib.hid hfo
  have HG := Lib.hid hg
  have HDO := Lib.hid hdo
  have HJN := Lib.hid (impl_joinN w b0 F E n lv p m g A c ps hfo hps hlt hN hb0)
  have hFz := hfo.box.lt
  have b1 := hfo.box.cellv (i := 1) rfl
  obtain ⟨Al, cl, hlv⟩ := owns_slice hfo.log
  subst hlv
  clear hfo hps hlt hg hdo hb0
  go_enter_defers Tryd.func111, Tryd.ntmps111
  go_wp2_with fail
  refine HJN.out.mono ?_
  rintro e w1 ⟨⟨v, rfl⟩, lv1, p1, m1, g1, h1, h2, h3, h4⟩
  have HLG := Lib.hid h2
  have HKF := Lib.hid h4
  have HC := Lib.hid (HDO.out lv1 p1 m1 g1 w1 h1 h2 h3 h4)
  clear h1 h2 h3 h4 b1
  go_wp2_with fail
  refine HC.out.mono ?_
  rintro e w2 ⟨⟨v2, rfl⟩, lv2, h5, h6, h7, h8⟩
  have H5 := Lib.hid h5
  have H6 := Lib.hid h6
  have H7 := Lib.hid h7
  have H8 := Lib.hid h8
  clear h5 h6 h7 h8
  go_wp2
  refine leaves_cons (f := 158) (args := #[.pointer (some ⟨F, 0, none⟩), .int .i64 (m : Int)]) (by simp) (by simp [go_sem]) ?_
  refine (undo_back .returning w2 b0 F E n lv2 p p1 m m1 g g1 H5.out HLG.out HFO.out.ju HFO.out.cnt HG.out).mono ?_
  rintro e u' w' ⟨rfl, ⟨v3, rfl⟩, lv3, k1, k2, k3⟩
  refine ⟨_, results_none rfl _ _ _, ⟨_, rfl⟩, lv3, k1, ((Kx.kf hFX hEX HKF.out).trans H6.out).trans (Kx.kf hFX hEX k2), H7.out.of_block (k2.block t H7.out.lt htF htE H8.out), fun e => ?_⟩
  rcases k2.own t e with h | h
  · exact H8.out h
  · exact absurd h (Nat.not_le.2 H7.out.lt)
end Go.Proofs.YtjgclemfehfgiaaDoor.Base
namespace Go.Proofs.YtjgclemfehfgiaaDoor.Base
open Go Go.RowKit
set_option linter.unusedVariables false
set_option linter.unusedSimpArgs false

theorem count_d (w : World) (F E n m d : Nat) (A : Option Addr) (b0 : w.cell? ⟨F, 0, none⟩ = some (.slice (some ⟨E, 0, none⟩) n n)) (b1 : w.cell? ⟨F, 1, none⟩ = some (.slice A m d)) (hn : n ≤ 1000) (hm : m ≤ 1000) :
    Calls Tryd.prog 116 #[.pointer (some ⟨F, 0, none⟩)] w (fun e w' => e = .returned (.int .i64 ((n : Int) - m)) ∧ ∃ q, w' = w.drewN q) := by
  have fz := World.block_lt_of_cell? _ _ b0
  go_enter Tryd.func116, Tryd.ntmps116
  go_wp2
  go_quiet (fail)
  go_wp2
  go_ret
  exact ⟨rfl, nq, rfl⟩
/-- the three numbers while they are filled -/
def nrA (r : Nat → Int) (k : Nat) : Array Value := #[.int .i64 (if 0 < k then r 0 else 0), .int .i64 (if 1 < k then r 1 else 0), .int .i64 (if 2 < k then r 2 else 0)]
theorem nrA_set (r : Nat → Int) (k : Nat) (hk : k < 3) : (nrA r k).setIfInBounds k (.int .i64 (r k)) = nrA r (k + 1) := by
  have h : k = 0 ∨ k = 1 ∨ k = 2 := by omega
  rcases h with rfl | rfl | rfl <;> simp [nrA]
theorem nrA_at (r : Nat → Int) (k : Nat) (hk : k < 3) : (nrA r k)[k]? = some (.int .i64 0) := by
  have h : k = 0 ∨ k = 1 ∨ k = 2 := by omega
  rcases h with rfl | rfl | rfl <;> simp [nrA]
set_option maxHeartbeats 4000000 in
theorem out_cnt (w : World) (T S K b0 F E n m N cN kd : Nat) (W H : Int) (TP : Option Addr) (lv : Value) (p : Nat → Nat) (g : Nat → Int) (r : Nat → Int)
    (hT : At w T #[.int .i64 W, .int .i64 H, .pointer (some ⟨F, 0, none⟩), .slice TP N cN] 89) (hK : At w K #[.int .i64 (kd : Int)] 3) (hS : At w S (nrA r kd) 85) (hk : kd < 3) (hfo : Fo w b0 F E n lv p m g) (hr : r kd = (n : Int) - m)
    (hTS : T ≠ S) (hKS : K ≠ S) (hFS : S ≠ F) (hES : S ≠ E) (hlS : lv.ownBlock ≠ some S) :
    Calls Tryd.prog 115 #[.pointer (some ⟨T, 0, none⟩), .pointer (some ⟨S, 0, none⟩), .pointer (some ⟨K, 0, none⟩)] w (fun e w' => (∃ v, e = .returned v) ∧ Fo w' b0 F E n lv p m g ∧ Kx [S] lv lv w w' ∧ At w' S (nrA r (kd + 1)) 85) := by
  have HT := Lib.hid hT
  have HK := Lib.hid hK
  have HS := Lib.hid hS
  have HF := Lib.hid hfo
  have HRR := Lib.hid hr
  obtain ⟨Al, cl, e⟩ := owns_slice hfo.log
  subst e
  have hn := hfo.n2
  have hm : m ≤ 1000 := by have := hfo.cnt; omega
  have t2 : w.cell? ⟨T, 2, none⟩ = some (.pointer (some ⟨F, 0, none⟩)) := hT.cellv (i := 2) rfl
  have k0 : w.cell? ⟨K, 0, none⟩ = some (.int .i64 (kd : Int)) := hK.cellv (i := 0) rfl
  have f0 := hfo.box.cellv (i := 0) rfl
  have f1 := hfo.box.cellv (i := 1) rfl
  have s0 := hS.cellv (nrA_at r kd hk)
  have sf := hS.frozen kd
  have tz := hT.lt
  have kz := hK.lt
  have sz := hS.lt
  have fz := hfo.box.lt
  have q0 : (w.setCell ⟨S, kd, none⟩ (.int .i64 ((n : Int) - m))).cell? ⟨T, 2, none⟩ = some (.pointer (some ⟨F, 0, none⟩)) := by rw [World.cell?_setCell_other _ _ _ _ (fun e => by injection e; omega)]; exact t2
  have q1 : (w.setCell ⟨S, kd, none⟩ (.int .i64 ((n : Int) - m))).cell? ⟨K, 0, none⟩ = some (.int .i64 (kd : Int)) := by rw [World.cell?_setCell_other _ _ _ _ (fun e => by injection e; omega)]; exact k0
  have hk3 : (kd : Int) < 3 := by omega
  clear hT hK hS hfo hr
  go_enter Tryd.func115, Tryd.ntmps115
  go_wp2_with fail
  go_region_held3 (fun w' => w'.cell? ⟨T, 2, none⟩ = some (.pointer (some ⟨F, 0, none⟩)) ∧ w'.cell? ⟨K, 0, none⟩ = some (.int .i64 (kd : Int)))
    (first | exact ⟨t2, k0⟩ | exact ⟨q0, q1⟩ | go_keep | assumption)
    (first | (go_at_call 116; refine (count_d _ F E n m cl Al ?_ ?_ (by omega) hm).mono ?_; exact f0; exact f1; rintro e wa ⟨rfl, q, rfl⟩))
  all_goals
    rename_i hSx
    clear hSx q0 q1 t2 k0 f0 f1 s0 sf tz kz fz
    go_wp2
    go_end0
    have bd := below_drewN (Below.refl w.heap.size w) (1 + q)
    exact ⟨⟨_, rfl⟩, (HF.out.bel bd).set hFS hES hlS _ _, ((Kx.refl [S] _ w).bel bd).set (by simp) _ _, by
      have h := (HS.out.below bd sz).set kd (.int .i64 ((n : Int) - m))
      rw [← HRR.out, nrA_set r kd hk] at h
      rw [← HRR.out]
      exact h⟩
end Go.Proofs.YtjgclemfehfgiaaDoor.Base
namespace Go.Proofs.YtjgclemfehfgiaaDoor.Base
open Go Go.RowKit
set_option linter.unusedVariables false
set_option linter.unusedSimpArgs false

theorem in_go {W H X Y : Int} (h1 : 1 ≤ X) (h2 : X + 1 ≤ 2 * W) (h3 : 1 ≤ Y) (h4 : Y + 1 ≤ 2 * H) (h5 : (X + Y) % 2 = 1) (k : Nat) : goB W H X Y (ddx k) (ddy k) = true := by
  obtain ⟨s1, s2⟩ := dd_sign k
  have d1 := sign_yes s1
  have d2 := sign_yes s2
  unfold goB
  rw [s1, s2, has_mk (by omega) (by omega) (by omega) (by omega) h5, has_mk (W := W) (H := H) (x := X + ddx k) (y := Y + ddy k) (by omega) (by omega) (by omega) (by omega) (by omega)]
  rfl
theorem Kx.cel {X : List Nat} {l0 l1 : Value} {w w1 : World} (h : Kx X l0 l1 w w1) {k : Nat} {cs : List Value} (hc : Cel w k cs) (hX : k ∉ X) (hl : l0.ownBlock ≠ some k) : Cel w1 k cs :=
  ⟨Nat.lt_of_lt_of_le hc.1 h.size, fun i v hv => (World.cell?_of_block (a := ⟨k, i, none⟩) (h.block k hc.1 hX hl)).trans (hc.2 i v hv)⟩
theorem Kf.at_ {F E : Nat} {l0 l1 : Value} {w w1 : World} (h : Kf F E l0 l1 w w1) {k : Nat} {cs : Array Value} {t : TypeId} (ha : At w k cs t) (hF : k ≠ F) (hE : k ≠ E) (hl : l0.ownBlock ≠ some k) : At w1 k cs t := ha.of_block (h.block k ha.lt hF hE hl)
theorem Kf.ne {F E : Nat} {l0 l1 : Value} {w w1 : World} (h : Kf F E l0 l1 w w1) {k : Nat} (hk : k < w.heap.size) (hl : l0.ownBlock ≠ some k) : l1.ownBlock ≠ some k := fun e => by
  rcases h.own k e with h5 | h5
  · exact hl h5
  · omega
set_option maxHeartbeats 8000000 in
set_option maxRecDepth 100000 in
theorem out_all (w : World) (T S KB b0 F E n m N cN k : Nat) (W H : Int) (TP : Option Addr) (lv : Value) (p : Nat → Nat) (g : Nat → Int) (r : Nat → Int)
    (hT : At w T #[.int .i64 W, .int .i64 H, .pointer (some ⟨F, 0, none⟩), .slice TP N cN] 89) (hKB : Cel w KB [.int .i64 (k : Int)]) (hS : At w S (nrA r 0) 85) (hfo : Fo w b0 F E n lv p m g) (hD : Cel w 1 [.int .i64 (-1), .int .i64 (-1), .int .i64 1, .int .i64 (-1), .int .i64 (-1), .int .i64 1, .int .i64 1, .int .i64 1]) (hJ : Cel w 0 [.int .i64 0, .int .i64 3, .int .i64 1, .int .i64 2, .int .i64 0, .int .i64 2, .int .i64 1, .int .i64 3, .int .i64 0, .int .i64 1, .int .i64 2, .int .i64 3])
    (hW : sideB W = true) (hH : sideB H = true) (hk : (k : Int) < inner W H) (hr : ∀ kd : Nat, kd < 3 → ∀ q, Jns p (prA W H (kd : Int) (ptX W k) (ptY W k)) q → r kd = (nRt n q : Int)) (hpl : ∀ kd : Nat, kd < 3 → ∀ z ∈ prA W H (kd : Int) (ptX W k) (ptY W k), z.1 < n ∧ z.2 < n) (hg : ∀ i, i < m → 0 ≤ g i ∧ g i < n) (hb0 : b0 ≤ w.heap.size)
    (hTX : T ≠ F ∧ T ≠ E ∧ T ≠ S ∧ lv.ownBlock ≠ some T) (hSX : S ≠ F ∧ S ≠ E ∧ lv.ownBlock ≠ some S) (hKX : KB ≠ F ∧ KB ≠ E ∧ KB ≠ S ∧ lv.ownBlock ≠ some KB) (hDX : 1 ≠ F ∧ 1 ≠ E ∧ 1 ≠ S ∧ lv.ownBlock ≠ some 1) (hJX : 0 ≠ F ∧ 0 ≠ E ∧ 0 ≠ S ∧ lv.ownBlock ≠ some 0) :
    Calls Tryd.prog 112 #[.pointer (some ⟨T, 0, none⟩), .pointer (some ⟨KB, 0, none⟩), .pointer (some ⟨S, 0, none⟩)] w (fun e w' => (∃ v, e = .returned v) ∧ ∃ lv', Fo w' b0 F E n lv' p m g ∧ Kx [F, E, S] lv lv' w w' ∧ At w' S (nrA r 3) 85 ∧ lv'.ownBlock ≠ some S) := by
  obtain ⟨x1, x2, y1, y2, hpar⟩ := pt_in hW hH (k := (k : Int)) (by omega) hk
  have HGO := Lib.hid (fun kd => in_go x1 x2 y1 y2 hpar kd)
  have HT := Lib.hid hT
  have HKB := Lib.hid hKB
  have HFO := Lib.hid hfo
  have HD := Lib.hid hD
  have HJ := Lib.hid hJ
  have HWs := Lib.hid hW
  have HHs := Lib.hid hH
  have HR := Lib.hid hr
  have HPL := Lib.hid hpl
  have HGB := Lib.hid hg
  have HTX := Lib.hid hTX
  have HSX := Lib.hid hSX
  have HKX := Lib.hid hKX
  have HDX := Lib.hid hDX
  have HJX := Lib.hid hJX
  have HPA := Lib.hid (fun w1 => pointAt_any w1 W H k hW (by omega) (by have := inner_bd hW hH; omega))
  have hhas := has_mk (W := W) (H := H) (x := ptX W k) (y := ptY W k) (by omega) (by omega) (by omega) (by omega) hpar
  have HPP := Lib.hid (fun (kd : Nat) (hkd : kd < 3) w1 hD hJ => impl_pairsAt w1 W H (ptX W k) (ptY W k) kd hkd hW hH hhas hD hJ (fun q _ _ => in_go x1 x2 y1 y2 hpar _))
  have hTz := hT.lt
  have hSz := hS.lt
  have hKz := hKB.1
  have hFz := hfo.box.lt
  have hEz := hfo.elm.lt
  have HS0 := Lib.hid hS
  obtain ⟨X, hX⟩ : ∃ X, ptX W k = X := ⟨_, rfl⟩
  obtain ⟨Y, hY⟩ : ∃ Y, ptY W k = Y := ⟨_, rfl⟩
  rw [hX, hY] at HR HPL HPA HPP
  clear hT hKB hfo hD hJ hW hH hr hpl hg hTX hSX hKX hDX hJX hhas hS HGO x1 x2 y1 y2 hpar hX hY
  go_enter Tryd.func112, Tryd.ntmps112
  go_wp2
  go_loopw [5] (fun iv wr => ∃ (kd : Nat) (l1 : Value), kd ≤ 3 ∧ iv = .int .i64 (kd : Int) ∧ Hid (Fo wr b0 F E n l1 p m g) ∧ Hid (Kx [F, E, S] lv l1 w wr) ∧ Hid (At wr S (nrA r kd) 85)) (fun iv _ => 3 - (intOf iv).toNat)
  case atStart => exact ⟨0, lv, Nat.zero_le _, rfl, HFO, Lib.hid (Kx.refl _ _ _), HS0⟩
  case round =>
    clear HS0
    obtain ⟨kd, l1, hkd, rfl, HF1, HK1, HS1⟩ := hrel
    by_cases hlt : kd < 3
    · have hwz := HK1.out.size
      have bN := (Below.refl wr.heap.size wr).alloc (Nat.le_refl _) (.cells #[.int .i64 (kd : Int)] 3)
      have HKD := Lib.hid (At.new wr #[.int .i64 (kd : Int)] 3)
      have HT2 := Lib.hid ((HK1.out.at_ HT.out (by simp; exact ⟨HTX.out.1, HTX.out.2.1, HTX.out.2.2.1⟩) HTX.out.2.2.2).below bN (by omega))
      have HKB2 := Lib.hid ((HK1.out.cel HKB.out (by simp; exact ⟨HKX.out.1, HKX.out.2.1, HKX.out.2.2.1⟩) HKX.out.2.2.2).below bN (by omega))
      have HD2 := Lib.hid ((HK1.out.cel HD.out (by simp; exact ⟨HDX.out.1, HDX.out.2.1, HDX.out.2.2.1⟩) HDX.out.2.2.2).below bN (by have := HD.out.1; omega))
      have HJ2 := Lib.hid ((HK1.out.cel HJ.out (by simp; exact ⟨HJX.out.1, HJX.out.2.1, HJX.out.2.2.1⟩) HJX.out.2.2.2).below bN (by have := HJ.out.1; omega))
      have HS2 := Lib.hid (HS1.out.below bN HS1.out.lt)
      have HF2 := Lib.hid (HF1.out.bel bN)
      have HK2 := Lib.hid (HK1.out.bel bN)
      have HNT := Lib.hid (HK1.out.ne hTz HTX.out.2.2.2)
      have HNS := Lib.hid (HK1.out.ne hSz HSX.out.2.2)
      have HLO : Hid (∀ q, l1.ownBlock = some q → q < wr.heap.size) := Lib.hid (fun q hq => (HF1.out.log.lt q hq).2)
      go_wp2_with fail
      clear bN
      have hw2 : wr.heap.size < (wr.alloc (.cells #[.int .i64 (kd : Int)] 3)).heap.size := by simp
      generalize wr.alloc (.cells #[.int .i64 (kd : Int)] 3) = w2 at *
      have HBK := Lib.hid (show w.heap.size ≤ wr.heap.size from hwz)
      obtain ⟨bk, hbk⟩ : ∃ bk, wr.heap.size = bk := ⟨_, rfl⟩
      rw [hbk] at HKD HLO HBK hw2 hwz ⊢
      clear hbk HF1 HK1 HS1
      have t0 : w2.cell? ⟨T, 0, none⟩ = some (.int .i64 W) := HT2.out.cellv (i := 0) rfl
      have t1 : w2.cell? ⟨T, 1, none⟩ = some (.int .i64 H) := HT2.out.cellv (i := 1) rfl
      have k0 := HKB2.out.2 0 _ rfl
      have kz := HKB2.out.1
      have d0 : w2.cell? ⟨bk, 0, none⟩ = some (.int .i64 (kd : Int)) := HKD.out.cellv (i := 0) rfl
      have dz := HKD.out.lt
      have tz := HT2.out.lt
      have OL := Lib.hid (Old.mk_ (Below.refl w2.heap.size w2).drew)
      go_region_held3 (fun w' => (∀ b o, b < (w2).heap.size → w'.cell? ⟨b, o, none⟩ = (w2).cell? ⟨b, o, none⟩) ∧ Below (w2).heap.size (w2) w') (first | assumption | exact OL.out | exact Old.trans (by assumption) (by assumption))
        (first | (go_at_call 114; refine (HPA.out _).mono ?_; rintro e wa ⟨rfl, ba⟩) | (go_at_call 113; refine (HPP.out kd hlt _ ?_ ?_).mono ?_; exact keepP (by assumption) HD2.out; exact keepP (by assumption) HJ2.out; rintro e wb ⟨A5, c5, qs5, rfl, RM, bc⟩))
      all_goals
        rename_i hS
        have b8 := hS.2
        have hwa : w2.heap.size ≤ wa.heap.size := ba.size
        have HPR := Lib.hid (RM.prl rfl (F := F) (E := E) (lv := l1) (by show F < wa.heap.size; omega) (by show E < wa.heap.size; omega) (fun q hq => by show q < wa.heap.size; have := HLO.out q hq; omega))
        have HT3 := Lib.hid (HT2.out.below b8 HT2.out.lt)
        have HS3 := Lib.hid (HS2.out.below b8 HS2.out.lt)
        have HD3 := Lib.hid (HKD.out.below b8 HKD.out.lt)
        have HF3 := Lib.hid (HF2.out.bel b8)
        have HK3 := Lib.hid (HK2.out.bel b8)
        have hzb := b8.size
        clear hS b8 RM OL t0 t1 k0 d0 HT2 HS2 HKD HF2 HK2 bc ba kz dz tz
        have t2 : wb.cell? ⟨T, 2, none⟩ = some (.pointer (some ⟨F, 0, none⟩)) := HT3.out.cellv (i := 2) rfl
        have tz := HT3.out.lt
        have HDU := Lib.hid (during_cnt wb b0 F E n l1 p m g A5 c5 (prA W H (kd : Int) X Y) #[.pointer (some ⟨T, 0, none⟩), .pointer (some ⟨S, 0, none⟩), .pointer (some ⟨bk, 0, none⟩)] [F, E, S] S (nrA r (kd + 1)) 85 HF3.out HPR.out (HPL.out kd hlt) (by have h1 := prK_two W H X Y kd hlt; have h2 := prK_len W H X Y kd 2 (Nat.le_refl _); rw [h1] at h2; omega) (by omega) HGB.out (by simp) (by simp) HSX.out.1 HSX.out.2.1 (fun lv' p' m' g' w' j1 j2 j3 j4 => by
          have hS4 := j4.at_ HS3.out HSX.out.1 HSX.out.2.1 HNS.out
          have hNS4 := j4.ne (by omega) HNS.out
          refine (out_cnt w' T S bk b0 F E n m' N cN kd W H TP lv' p' g' r (j4.at_ HT3.out HTX.out.1 HTX.out.2.1 HNT.out) (j4.at_ HD3.out (by omega) (by omega) (fun e => by have := HLO.out _ e; omega)) hS4 hlt j3 (by rw [HR.out kd hlt p' j1]; have := j3.cnt; omega) HTX.out.2.2.1 (by omega) HSX.out.1 HSX.out.2.1 hNS4).mono ?_
          rintro e w'' ⟨hv, q1, q2, q3⟩
          exact ⟨hv, lv', q1, q2.drop (fun y hy => .inl (by simp at hy; simp [hy])), q3, hNS4⟩))
        go_wp2_with fail
        refine HDU.out.mono ?_
        rintro e wd ⟨⟨v, rfl⟩, l2, f1, f2, f3, f4⟩
        have HF5 := Lib.hid f1
        have HK5 := Lib.hid (HK3.out.trans f2)
        have HS5 := Lib.hid f3
        clear f1 f2 f3 f4 t2 tz HDU HF3 HK3 HS3 HT3 HD3 HPR
        go_wp2
        go_roundw
        case rel => exact ⟨kd + 1, l2, by omega, by go_num, HF5, HK5, HS5⟩
        case measure => simp [intOf]; omega
    · obtain rfl : kd = 3 := by omega
      go_wp2
      go_end0
      exact ⟨⟨_, rfl⟩, l1, HF1.out, HK1.out, HS1.out, HK1.out.ne hSz HSX.out.2.2⟩
end Go.Proofs.YtjgclemfehfgiaaDoor.Base
namespace Go.Proofs.YtjgclemfehfgiaaDoor.Base
open Go Go.RowKit
set_option linter.unusedVariables false
set_option linter.unusedSimpArgs false

/-- a list of pairs as values: each a slice of two numbers -/
def PrsV (w : World) (F E : Nat) (lv : Value) (V : List Value) (ps : List (Nat × Nat)) : Prop := V.length = ps.length ∧
  ∀ (i x y : Nat), ps[i]? = some (x, y) → ∃ q : Nat, V[i]? = some (Value.slice (some ⟨q, 0, none⟩) 2 2) ∧ q < w.heap.size ∧ q ≠ F ∧ q ≠ E ∧ lv.ownBlock ≠ some q ∧ w.cell? ⟨q, 0, none⟩ = some (.int .i64 ((x : Nat) : Int)) ∧ w.cell? ⟨q, 1, none⟩ = some (.int .i64 ((y : Nat) : Int))
theorem PrsV.nil (w : World) (F E : Nat) (lv : Value) : PrsV w F E lv [] [] := ⟨rfl, fun i x y h => by simp at h⟩
theorem PrsV.below {w w' : World} {F E : Nat} {lv : Value} {V : List Value} {ps : List (Nat × Nat)} (h : PrsV w F E lv V ps) (b : Below w.heap.size w w') : PrsV w' F E lv V ps :=
  ⟨h.1, fun i x y hi => by
    obtain ⟨q, h1, h2, h3, h4, h5, h6, h7⟩ := h.2 i x y hi
    exact ⟨q, h1, Nat.lt_of_lt_of_le h2 b.size, h3, h4, h5, (b.cell (p := ⟨q, 0, none⟩) h2).trans h6, (b.cell (p := ⟨q, 1, none⟩) h2).trans h7⟩⟩
theorem PrsV.app {w : World} {F E : Nat} {lv : Value} {V U : List Value} {ps qs : List (Nat × Nat)} (h : PrsV w F E lv V ps) (k : PrsV w F E lv U qs) : PrsV w F E lv (V ++ U) (ps ++ qs) := by
  refine ⟨by rw [List.length_append, List.length_append, h.1, k.1], fun i x y hi => ?_⟩
  rcases Nat.lt_or_ge i ps.length with h1 | h1
  · rw [List.getElem?_append_left h1] at hi
    rw [List.getElem?_append_left (by rw [h.1]; exact h1)]
    exact h.2 i x y hi
  · rw [List.getElem?_append_right h1] at hi
    rw [List.getElem?_append_right (by rw [h.1]; exact h1), h.1]
    exact k.2 _ x y hi
def catP (pp : Nat → List (Nat × Nat)) : Nat → List (Nat × Nat)
  | 0 => []
  | k + 1 => catP pp k ++ pp k
theorem PrsV.cat {w : World} {F E : Nat} {lv : Value} {V : Nat → List Value} {pp : Nat → List (Nat × Nat)} : ∀ {k : Nat}, (∀ i, i < k → PrsV w F E lv (V i) (pp i)) → PrsV w F E lv (catV V k) (catP pp k)
  | 0, _ => PrsV.nil w F E lv
  | k + 1, h => (PrsV.cat (k := k) (fun i hi => h i (by omega))).app (h k (Nat.lt_succ_self _))
theorem catV_len (V : Nat → List Value) {m : Nat} : ∀ {k : Nat}, (∀ i, i < k → (V i).length ≤ m) → (catV V k).length ≤ m * k
  | 0, _ => Nat.zero_le _
  | k + 1, h => by
    have h1 := catV_len V (k := k) (fun i hi => h i (by omega))
    have h2 := h k (Nat.lt_succ_self _)
    rw [catV_step, Nat.mul_succ]
    omega
theorem catV_one {V : Nat → List Value} : ∀ {k : Nat}, (∀ i, i < k → ∀ u ∈ V i, u.oneCell' = true) → ∀ u ∈ catV V k, u.oneCell' = true
  | 0, _, u, hu => by cases hu
  | k + 1, h, u, hu => by
    rcases List.mem_append.1 hu with h1 | h1
    · exact catV_one (k := k) (fun i hi => h i (by omega)) u h1
    · exact h k (Nat.lt_succ_self _) u h1
theorem LRd.prl {w w0 : World} {F E : Nat} {lv : Value} {A : Option Addr} {n c : Nat} {V : List Value} {ps : List (Nat × Nat)} (h : LRd w A n c V) (k : PrsV w F E lv V ps) (hb : ∀ b o, A = some ⟨b, o, none⟩ → w0.heap.size ≤ b) (hF : F < w0.heap.size) (hE : E < w0.heap.size) (hl : ∀ q, lv.ownBlock = some q → q < w0.heap.size) : n = ps.length ∧ PrL w F E lv A c ps := by
  have hn : n = ps.length := h.1.symm.trans k.1
  refine ⟨hn, by rw [← hn]; exact h.2.2.1, h.2.2.2.1, fun hp => ?_⟩
  obtain ⟨b, o, e, h1, h2⟩ := h.2.2.2.2.2 (by omega)
  have h3 := hb b o e
  refine ⟨b, o, e, h1, by omega, by omega, fun e => by have := hl _ e; omega, fun i x y hi => ?_⟩
  obtain ⟨q, q1, q2⟩ := k.2 i x y hi
  exact ⟨q, h2 i _ q1, q2⟩
/-- what Concat leaves, as a list -/
def CatO (L : List Value) (w : World) (e : Ending) (w' : World) : Prop := ∃ A c, e = .returned (.slice A L.length c) ∧ Hid (LRd w' A L.length c L) ∧ Hid (∀ b o, A = some ⟨b, o, none⟩ → w.heap.size ≤ b) ∧ Below w.heap.size w w'
theorem owns_lrd {w : World} {B n : Nat} {A : Option Addr} {c : Nat} {L : List Value} (h : w.ownsRow B 22 1 (.slice A n c) n L) (h0 : L.length = 0 → A = none) (h1 : ∀ u ∈ L, u.oneCell' = true) : LRd w A n c L ∧ (∀ b o, A = some ⟨b, o, none⟩ → B ≤ b) := by
  have hl := h.1
  rw [Nat.mul_one] at hl
  rcases h.2 with ⟨e, e2⟩ | ⟨g, cap, cur, e, g1, g2, g3, g4, g5, g6⟩
  · injection e with e3 e4 e5
    subst e3 e5
    refine ⟨⟨hl, fun _ => rfl, by omega, by unfold maxLen; omega, h1, fun hn => by omega⟩, fun b o e => by cases e⟩
  · injection e with e3 e4 e5
    subst e3 e5
    refine ⟨⟨hl, fun h => absurd (h0 (by omega)) (by simp), g3, g4, h1, fun hn => ⟨g, 0, rfl, (Array.getElem?_eq_some_iff.1 g2).1, fun j u hj => ?_⟩⟩, fun b o e => ?_⟩
    · have hj2 := (List.getElem?_eq_some_iff.1 hj).1
      rw [Nat.zero_add, h.cellAt j (by omega)]
      exact hj
    · injection e with e
      injection e with e1 e2
      omega
theorem cat_any (w : World) (A : Option Addr) (c k : Nat) (B : Nat → Option Addr) (N C : Nat → Nat) (V : Nat → List Value) (hr : VRow w A k c (fun i => .slice (B i) (N i) (C i))) (hv : ∀ i, i < k → LRd w (B i) (N i) (C i) (V i)) (ht : (catV V k).length ≤ 1000) :
    Calls Tryd.prog 110 #[.slice A k c] w (CatO (catV V k) w) := by
  refine (lib_concat w A c k B N C V hr hv ht).mono ?_
  rintro e w' ⟨u, rfl, h1, h2, h3⟩
  obtain ⟨Au, cu, rfl⟩ := owns_slice h1
  obtain ⟨h4, h5⟩ := owns_lrd h1 (fun h => by have := h2 h; injection this) (catV_one (fun i hi => (hv i hi).2.2.2.2.1))
  exact ⟨Au, cu, rfl, Lib.hid h4, Lib.hid h5, h3⟩
theorem VRow.take_ {w : World} {A : Option Addr} {n c k : Nat} {g : Nat → Value} (h : VRow w A n c g) (hk : k ≤ n) : VRow w A k c g :=
  ⟨Nat.le_trans hk h.1, h.2.1, fun h0 => by
    obtain ⟨b, o, e, h1, h2⟩ := h.2.2 (by omega)
    exact ⟨b, o, e, h1, fun i hi => h2 i (by omega)⟩⟩
theorem VRow.drop_ {w : World} {tb tO n c k : Nat} {g : Nat → Value} (h : VRow w (some ⟨tb, tO, none⟩) n c g) (hk : k + 1 ≤ n) : VRow w (if c = k + 1 then some ⟨tb, tO, none⟩ else some ⟨tb, tO + (k + 1), none⟩) (n - (k + 1)) (c - (k + 1)) (fun i => g (k + 1 + i)) := by
  have h1 := h.1
  have h2 := h.2.1
  refine ⟨by omega, by omega, fun h0 => ?_⟩
  obtain ⟨b, o, e, h3, h4⟩ := h.2.2 (by omega)
  injection e with e
  injection e with e1 e2
  subst e1 e2
  rw [if_neg (by omega)]
  refine ⟨_, _, rfl, h3, fun i hi => ?_⟩
  have := h4 (k + 1 + i) (by omega)
  rw [show tO + (k + 1) + i = tO + (k + 1 + i) by omega]
  exact this
theorem cat_two (w : World) (b n1 n2 c1 c2 : Nat) (A1 A2 : Option Addr) (L1 L2 : List Value) (hb : b < w.heap.size) (k0 : w.cell? ⟨b, 0, none⟩ = some (.slice A1 n1 c1)) (k1 : w.cell? ⟨b, 1, none⟩ = some (.slice A2 n2 c2)) (h1 : LRd w A1 n1 c1 L1) (h2 : LRd w A2 n2 c2 L2) (ht : L1.length + L2.length ≤ 1000) :
    Calls Tryd.prog 110 #[.slice (some ⟨b, 0, none⟩) 2 2] w (CatO (L1 ++ L2) w) := by
  have h := cat_any w (some ⟨b, 0, none⟩) 2 2 (fun i => if i = 0 then A1 else A2) (fun i => if i = 0 then n1 else n2) (fun i => if i = 0 then c1 else c2) (fun i => if i = 0 then L1 else L2) ⟨Nat.le_refl _, by unfold maxLen; omega, fun _ => ⟨b, 0, rfl, hb, fun i hi => ?_⟩⟩ (fun i hi => ?_) ?_
  · exact h
  · rcases (show i = 0 ∨ i = 1 by omega) with rfl | rfl
    · exact k0
    · exact k1
  · rcases (show i = 0 ∨ i = 1 by omega) with rfl | rfl
    · exact h1
    · exact h2
  · show (([] ++ L1) ++ L2).length ≤ 1000
    rw [List.nil_append, List.length_append]
    exact ht
theorem catP_mem {pp : Nat → List (Nat × Nat)} {z : Nat × Nat} : ∀ {k : Nat}, z ∈ catP pp k → ∃ i, i < k ∧ z ∈ pp i
  | 0, h => by cases h
  | k + 1, h => by
    rcases List.mem_append.1 h with h | h
    · obtain ⟨i, hi, hm⟩ := catP_mem h
      exact ⟨i, by omega, hm⟩
    · exact ⟨k, Nat.lt_succ_self _, h⟩
theorem at_cel {w : World} {p : Nat} {cs : List Value} {t : TypeId} (h : At w p cs.toArray t) : Cel w p cs := ⟨h.lt, fun i v hv => h.cellv (by simpa using hv)⟩
theorem four_new (w : World) (c1 c2 c3 c4 : Array Value) (t1 t2 t3 t4 : TypeId) :
    At ((((w.alloc (.cells c1 t1)).alloc (.cells c2 t2)).alloc (.cells c3 t3)).alloc (.cells c4 t4)) w.heap.size c1 t1 ∧ At ((((w.alloc (.cells c1 t1)).alloc (.cells c2 t2)).alloc (.cells c3 t3)).alloc (.cells c4 t4)) (w.heap.size + 1) c2 t2 ∧
    At ((((w.alloc (.cells c1 t1)).alloc (.cells c2 t2)).alloc (.cells c3 t3)).alloc (.cells c4 t4)) (w.heap.size + 1 + 1) c3 t3 ∧ At ((((w.alloc (.cells c1 t1)).alloc (.cells c2 t2)).alloc (.cells c3 t3)).alloc (.cells c4 t4)) (w.heap.size + 1 + 1 + 1) c4 t4 ∧
    Below w.heap.size w ((((w.alloc (.cells c1 t1)).alloc (.cells c2 t2)).alloc (.cells c3 t3)).alloc (.cells c4 t4)) ∧ ((((w.alloc (.cells c1 t1)).alloc (.cells c2 t2)).alloc (.cells c3 t3)).alloc (.cells c4 t4)).heap.size = w.heap.size + 1 + 1 + 1 + 1 := by
  have b (x : World) (o : Obj) : Below x.heap.size x (x.alloc o) := (Below.refl x.heap.size x).alloc (Nat.le_refl _) o
  have s (x : World) (o : Obj) : (x.alloc o).heap.size = x.heap.size + 1 := by simp
  have a1 := At.new w c1 t1
  have a2 := At.newAt (X := w.alloc (.cells c1 t1)) (cs := c2) (T := t2) (p := w.heap.size + 1) (by simp)
  have a3 := At.newAt (X := (w.alloc (.cells c1 t1)).alloc (.cells c2 t2)) (cs := c3) (T := t3) (p := w.heap.size + 1 + 1) (by simp)
  have a4 := At.newAt (X := ((w.alloc (.cells c1 t1)).alloc (.cells c2 t2)).alloc (.cells c3 t3)) (cs := c4) (T := t4) (p := w.heap.size + 1 + 1 + 1) (by simp)
  have u1 := (((a1.below (b _ (.cells c2 t2)) a1.lt)))
  have u2 := u1.below (b _ (.cells c3 t3)) u1.lt
  have v1 := a2.below (b _ (.cells c3 t3)) a2.lt
  refine ⟨u2.below (b _ _) u2.lt, v1.below (b _ _) v1.lt, a3.below (b _ _) a3.lt, a4, ?_, by simp⟩
  exact ((((Below.refl w.heap.size w).alloc (Nat.le_refl _) _).alloc (by simp) _).alloc (by simp; omega) _).alloc (by simp; omega) _
def shP (f : Nat → List (Nat × Nat)) (k : Nat) : Nat → List (Nat × Nat) := fun i => f (k + 1 + i)
/-- all pairs but those of point k -/
def allBut (pp : Nat → List (Nat × Nat)) (N k : Nat) : List (Nat × Nat) := catP pp k ++ catP (shP pp k) (N - (k + 1))
set_option maxHeartbeats 8000000 in
set_option maxRecDepth 100000 in
theorem trial_out (w : World) (b0 F E n m N cN k : Nat) (W H : Int) (TP : Option Addr) (B : Nat → Option Addr) (Nn C : Nat → Nat) (V : Nat → List Value) (pp : Nat → List (Nat × Nat)) (lv : Value) (p : Nat → Nat) (g : Nat → Int) (r : Nat → Int)
    (hfo : Fo w b0 F E n lv p m g) (hD : Cel w 1 [.int .i64 (-1), .int .i64 (-1), .int .i64 1, .int .i64 (-1), .int .i64 (-1), .int .i64 1, .int .i64 1, .int .i64 1]) (hJ : Cel w 0 [.int .i64 0, .int .i64 3, .int .i64 1, .int .i64 2, .int .i64 0, .int .i64 2, .int .i64 1, .int .i64 3, .int .i64 0, .int .i64 1, .int .i64 2, .int .i64 3]) (hW : sideB W = true) (hH : sideB H = true) (hN : (N : Int) = inner W H) (hk : k < N)
    (hT : VRow w TP N cN (fun i => .slice (B i) (Nn i) (C i))) (hv : ∀ i, i < N → LRd w (B i) (Nn i) (C i) (V i)) (hV : ∀ i, i < N → PrsV w F E lv (V i) (pp i)) (h2 : ∀ i, i < N → (V i).length ≤ 2)
    (hr : ∀ kd : Nat, kd < 3 → ∀ q0 q, Jns p (allBut pp N k) q0 → Jns q0 (prA W H (kd : Int) (ptX W k) (ptY W k)) q → r kd = (nRt n q : Int)) (hpl : ∀ kd : Nat, kd < 3 → ∀ z ∈ prA W H (kd : Int) (ptX W k) (ptY W k), z.1 < n ∧ z.2 < n) (hpp : ∀ i, i < N → ∀ z ∈ pp i, z.1 < n ∧ z.2 < n) (hg : ∀ i, i < m → 0 ≤ g i ∧ g i < n) (hb0 : b0 ≤ w.heap.size)
    (hDX : 1 ≠ F ∧ 1 ≠ E ∧ lv.ownBlock ≠ some 1) (hJX : 0 ≠ F ∧ 0 ≠ E ∧ lv.ownBlock ≠ some 0) :
    Calls Tryd.prog 64 #[.agg #[.int .i64 W, .int .i64 H, .pointer (some ⟨F, 0, none⟩), .slice TP N cN], .int .i64 (k : Int)] w (fun e w' => e = .returned (.agg (nrA r 3)) ∧ ∃ lv', Fo w' b0 F E n lv' p m g ∧ Kx [F, E] lv lv' w w') := by
  have HFO := Lib.hid hfo
  have HD := Lib.hid hD
  have HJ := Lib.hid hJ
  have HWs := Lib.hid hW
  have HHs := Lib.hid hH
  have HN := Lib.hid hN
  have HT := Lib.hid hT
  have HV := Lib.hid hv
  have HPV := Lib.hid hV
  have H2 := Lib.hid h2
  have HR := Lib.hid hr
  have HPL := Lib.hid hpl
  have HPP := Lib.hid hpp
  have HGB := Lib.hid hg
  have HDX := Lib.hid hDX
  have HJX := Lib.hid hJX
  clear hfo hD hJ hW hH hN hT hv hV h2 hr hpl hpp hg hDX hJX
  go_enter Tryd.func64, Tryd.ntmps64
  go_wp2
  obtain ⟨Z1, Z2, Z3, Z4, bN, zN⟩ := four_new w #[.int .i64 W, .int .i64 H, .pointer (some ⟨F, 0, none⟩), .slice TP N cN] #[.int .i64 (k : Int)] #[.int .i64 0, .int .i64 0, .int .i64 0] #[.int .i64 0, .int .i64 0, .int .i64 0] 89 2 85 85
  have HT2 := Lib.hid (HT.out.below bN (Nat.le_refl _))
  have HV2 := Lib.hid (fun i (hi : i < N) => (HV.out i hi).below bN)
  have HPV2 := Lib.hid (fun i (hi : i < N) => (HPV.out i hi).below bN)
  have HD2 := Lib.hid (HD.out.below bN HD.out.1)
  have HJ2 := Lib.hid (HJ.out.below bN HJ.out.1)
  have HF2 := Lib.hid (HFO.out.bel bN)
  have HLO : Hid (∀ q, lv.ownBlock = some q → q < w.heap.size) := Lib.hid (fun q hq => (HFO.out.log.lt q hq).2)
  have hFz := HFO.out.box.lt
  have hEz := HFO.out.elm.lt
  have HB2 := Lib.hid bN
  have HZ1 := Lib.hid Z1
  have HZ2 := Lib.hid Z2
  have HZ3 := Lib.hid Z3
  have HZ4 := Lib.hid Z4
  clear Z1 Z2 Z3 Z4 bN
  generalize (((w.alloc (.cells #[.int .i64 W, .int .i64 H, .pointer (some ⟨F, 0, none⟩), .slice TP N cN] 89)).alloc (.cells #[.int .i64 (k : Int)] 2)).alloc (.cells #[.int .i64 0, .int .i64 0, .int .i64 0] 85)).alloc (.cells #[.int .i64 0, .int .i64 0, .int .i64 0] 85) = w2 at *
  have HZD := Lib.hid (show (0 : Nat) < w.heap.size ∧ 1 < w.heap.size from ⟨HJ.out.1, HD.out.1⟩)
  obtain ⟨z, hz⟩ : ∃ z, w.heap.size = z := ⟨_, rfl⟩
  rw [hz] at HZ1 HZ2 HZ3 HZ4 HLO hFz hEz zN HZD ⊢
  have HZZ := Lib.hid hz
  clear HT HV HPV HFO
  obtain ⟨tb, tO, hTP, htb, -⟩ := HT2.out.2.2 (by omega)
  have hcN := HT2.out.1
  have hcM := HT2.out.2.1
  unfold maxLen at hcM
  subst hTP
  have t3 : w2.cell? ⟨z, 3, none⟩ = some (.slice (some ⟨tb, tO, none⟩) N cN) := HZ1.out.cellv (i := 3) rfl
  have k0 : w2.cell? ⟨z + 1, 0, none⟩ = some (.int .i64 (k : Int)) := HZ2.out.cellv (i := 0) rfl
  have tz : z < w2.heap.size := by omega
  have kz : z + 1 < w2.heap.size := by omega
  have i0 : (0 : Int) ≤ (k : Int) := by omega
  have i1 : (k : Int) ≤ (cN : Int) := by omega
  have i2 : (0 : Int) ≤ (k : Int) + 1 := by omega
  have i3 : (k : Int) + 1 ≤ (N : Int) := by omega
  have i4 : (N : Int) ≤ (cN : Int) := by omega
  have i5 : IntKind.i64.wrap ((k : Int) + 1) = (k : Int) + 1 := by rw [IntKind.wrap_i64]; omega
  have hN2 : N ≤ 112 := by have := (inner_bd HWs.out HHs.out).2; have := HN.out; omega
  have len1 : (catV V k).length ≤ 2 * k := catV_len V (fun i hi => H2.out i (by omega))
  have len2 : (catV (fun i => V (k + 1 + i)) (N - (k + 1))).length ≤ 2 * (N - (k + 1)) := catV_len _ (fun i hi => H2.out _ (by omega))
  have CT1 := Lib.hid (fun (w' : World) (h : Old w2 w') => cat_any w' (some ⟨tb, tO, none⟩) cN k B Nn C V ((HT2.out.take_ (Nat.le_of_lt hk)).below h.2 (Nat.le_refl _)) (fun i hi => (HV2.out i (by omega)).below h.2) (by omega))
  have hdr := HT2.out.drop_ hk
  obtain ⟨DA, hda⟩ : ∃ DA, (if cN = k + 1 then some (⟨tb, tO, none⟩ : Addr) else some ⟨tb, tO + (k + 1), none⟩) = DA := ⟨_, rfl⟩
  rw [hda] at hdr
  have CT2 := Lib.hid (fun (w' : World) (h : Old w2 w') => cat_any w' _ _ (N - (k + 1)) (fun i => B (k + 1 + i)) (fun i => Nn (k + 1 + i)) (fun i => C (k + 1 + i)) (fun i => V (k + 1 + i)) (hdr.below h.2 (Nat.le_refl _)) (fun i hi => (HV2.out (k + 1 + i) (by omega)).below h.2) (by omega))
  clear hdr
  have OL := Lib.hid (Old.mk_ (Below.refl w2.heap.size w2).drew)
  go_region_held3 (fun w' => (∀ b o, b < (w2).heap.size → w'.cell? ⟨b, o, none⟩ = (w2).cell? ⟨b, o, none⟩) ∧ Below (w2).heap.size (w2) w') (first | assumption | exact OL.out | exact Old.trans (by assumption) ((Below.refl _ _).alloc (Nat.le_refl _) _) | exact Old.trans (by assumption) (by assumption))
        (first | (have _ := L2; go_at_call 110; refine (cat_two _ wb.heap.size _ _ c1 c2 A1 A2 _ _ (by simp) ((At.new wb _ _).cellv (i := 0) rfl) ((At.new wb _ _).cellv (i := 1) rfl) (L1.out.below (bb.alloc bb.size _)) (L2.out.below ((Below.refl _ _).alloc (Nat.le_refl _) _)) (by omega)).mono ?_; rintro e wd ⟨A3, c3, rfl, L3, B3, bd⟩) | (have _ := L1; go_at_call 110; refine (CT2.out _ (by assumption)).mono ?_; rintro e wb ⟨A2, c2, rfl, L2, B2, bb⟩) | (go_at_call 110; refine (CT1.out _ OL.out).mono ?_; rintro e wa ⟨A1, c1, rfl, L1, B1, ba⟩))
  rename_i hS
  have b8 := hS.2
  have h8 := b8.size
  have PV := ((PrsV.cat (F := F) (E := E) (lv := lv) (V := V) (pp := pp) (k := k) (fun i hi => HPV2.out i (by omega))).app (PrsV.cat (V := fun i => V (k + 1 + i)) (pp := shP pp k) (k := N - (k + 1)) (fun i hi => HPV2.out (k + 1 + i) (by omega)))).below b8
  obtain ⟨hlen, hprl⟩ := L3.out.prl (w0 := w2) PV (fun b o e => by have s1 : w2.heap.size ≤ wa.heap.size := ba.size; have s2 := bb.size; have s3 := B3.out b o e; simp at s3; omega) (by omega) (by omega) (fun q hq => by have := HLO.out q hq; omega)
  rw [List.length_append] at hlen
  replace hlen : _ = (allBut pp N k).length := hlen
  rw [hlen]
  have HPR : Hid (PrL wd F E lv A3 c3 (allBut pp N k)) := Lib.hid hprl
  have hl1 : (allBut pp N k).length ≤ 1000 := by
    omega
  have HNN := Lib.hid (show ∀ q, z ≤ q → lv.ownBlock ≠ some q from fun q hq e => by have := HLO.out q e; omega)
  clear PV hprl hlen L1 L2 L3 B1 B2 B3 ba bb bd CT1 CT2 OL t3 k0 tz kz i0 i1 i2 i3 i4 i5 len1 len2 hda HV2 HPV2 HT2
  have HT3 := Lib.hid (HZ1.out.below b8 HZ1.out.lt)
  have HK3 := Lib.hid (HZ2.out.below b8 HZ2.out.lt)
  have HR3 := Lib.hid (HZ3.out.below b8 HZ3.out.lt)
  have HS3 := Lib.hid (HZ4.out.below b8 HZ4.out.lt)
  have HD3 := Lib.hid (HD2.out.below b8 HD2.out.1)
  have HJ3 := Lib.hid (HJ2.out.below b8 HJ2.out.1)
  have HF3 := Lib.hid (HF2.out.bel b8)
  have HB3 := Lib.hid (HB2.out.trans (b8.mono (by have := HB2.out.size; omega)))
  clear hS b8 HZ1 HZ2 HZ3 HZ4 HD2 HJ2 HF2
  have t2 : wd.cell? ⟨z, 2, none⟩ = some (.pointer (some ⟨F, 0, none⟩)) := HT3.out.cellv (i := 2) rfl
  have tz := HT3.out.lt
  have HDU := Lib.hid (during_out wd b0 F E n lv p m g A3 c3 (allBut pp N k) #[.pointer (some ⟨z, 0, none⟩), .pointer (some ⟨z + 1, 0, none⟩), .pointer (some ⟨z + 1 + 1 + 1, 0, none⟩)] [F, E, z + 1 + 1 + 1] (z + 1 + 1 + 1) (nrA r 3) 85 HF3.out HPR.out
    (fun y hy => by
      rcases List.mem_append.1 hy with h | h
      · obtain ⟨i, hi, hm⟩ := catP_mem h
        exact HPP.out i (by omega) y hm
      · obtain ⟨i, hi, hm⟩ := catP_mem h
        exact HPP.out (k + 1 + i) (by omega) y hm) hl1 (by omega) HGB.out (by simp) (by simp) (by omega) (by omega) (fun lv' p' m' g' w' j1 j2 j3 j4 => by
      have jk := Kx.kf (X := [F, E]) (by simp) (by simp) j4
      have hs4 := j4.size
      exact out_all w' z (z + 1 + 1 + 1) (z + 1) b0 F E n m' N cN k W H _ lv' p' g' r (j4.at_ HT3.out (by omega) (by omega) (HNN.out _ (by omega))) (at_cel (j4.at_ HK3.out (by omega) (by omega) (HNN.out _ (by omega)))) (j4.at_ HS3.out (by omega) (by omega) (HNN.out _ (by omega))) j3
        (jk.cel HD3.out (by simp; exact ⟨HDX.out.1, HDX.out.2.1⟩) HDX.out.2.2) (jk.cel HJ3.out (by simp; exact ⟨HJX.out.1, HJX.out.2.1⟩) HJX.out.2.2) HWs.out HHs.out (by have := HN.out; omega) (fun kd hkd q hq => HR.out kd hkd p' q j1 hq) HPL.out
        (fun i hi => by
          rcases Nat.lt_or_ge i m with h | h
          · rw [j2.old i h]; exact HGB.out i h
          · obtain ⟨y, e1, e2, e3⟩ := j2.new i h hi
            rw [e1]; omega) (by omega) ⟨by omega, by omega, by omega, j4.ne (by omega) (HNN.out _ (by omega))⟩ ⟨by omega, by omega, j4.ne (by omega) (HNN.out _ (by omega))⟩ ⟨by omega, by omega, by omega, j4.ne (by omega) (HNN.out _ (by omega))⟩
          ⟨HDX.out.1, HDX.out.2.1, by have := HD3.out.1; have := HZD.out; omega, j4.ne HD3.out.1 HDX.out.2.2⟩ ⟨HJX.out.1, HJX.out.2.1, by have := HZD.out; omega, j4.ne HJ3.out.1 HJX.out.2.2⟩))
  go_wp2_with fail
  refine HDU.out.mono ?_
  rintro e we ⟨⟨v, rfl⟩, l2, f1, f2, f3, f4⟩
  have HR4 := f2.at_ HR3.out (by simp; omega) (HNN.out _ (by omega))
  have s0 : we.cell? ⟨z + 1 + 1 + 1, 0, none⟩ = some (.int .i64 (r 0)) := f3.cellv (i := 0) rfl
  have s1 : we.cell? ⟨z + 1 + 1 + 1, 1, none⟩ = some (.int .i64 (r 1)) := f3.cellv (i := 1) rfl
  have s2 : we.cell? ⟨z + 1 + 1 + 1, 2, none⟩ = some (.int .i64 (r 2)) := f3.cellv (i := 2) rfl
  have r0 : we.cell? ⟨z + 1 + 1, 0, none⟩ = some (.int .i64 0) := HR4.cellv (i := 0) rfl
  have r1 : we.cell? ⟨z + 1 + 1, 1, none⟩ = some (.int .i64 0) := HR4.cellv (i := 1) rfl
  have r2 : we.cell? ⟨z + 1 + 1, 2, none⟩ = some (.int .i64 0) := HR4.cellv (i := 2) rfl
  have g0 := HR4.frozen 0
  have g1 := HR4.frozen 1
  have g2 := HR4.frozen 2
  have sz := f3.lt
  have rz := HR4.lt
  have HF5 := Lib.hid f1
  have HK5 := Lib.hid f2
  clear f1 f2 f3 f4 t2 tz HDU
  have HRR := Lib.hid HR4
  clear HR4
  have HNE := Lib.hid (show z + 1 + 1 ≠ F ∧ z + 1 + 1 ≠ E ∧ l2.ownBlock ≠ some (z + 1 + 1) from ⟨by omega, by omega, HK5.out.ne (by omega) (HNN.out _ (by omega))⟩)
  have HZQ := Lib.hid hz
  clear zN hz h8 hcN hcM hN2 hl1 htb hEz hFz hk hb0
  go_wp2
  have hA := ((HRR.out.set 0 (.int .i64 (r 0))).set 1 (.int .i64 (r 1))).set 2 (.int .i64 (r 2))
  have hFo := ((HF5.out.set HNE.out.1 HNE.out.2.1 HNE.out.2.2 0 (.int .i64 (r 0))).set HNE.out.1 HNE.out.2.1 HNE.out.2.2 1 (.int .i64 (r 1))).set HNE.out.1 HNE.out.2.1 HNE.out.2.2 2 (.int .i64 (r 2))
  have h1 := HK5.out.drop (X := [F, E, z + 1 + 1 + 1, z + 1 + 1]) (fun y hy => .inl (by simp at hy ⊢; omega))
  have h2 := (((h1.set (x := z + 1 + 1) (by simp) 0 (.int .i64 (r 0))).set (x := z + 1 + 1) (by simp) 1 (.int .i64 (r 1))).set (x := z + 1 + 1) (by simp) 2 (.int .i64 (r 2))).from_ HB3.out
  have h3 := h2.drop (X := [F, E]) (fun y hy => by
    have := HZQ.out
    simp at hy ⊢
    omega)
  have HFf := Lib.hid hFo
  have HKf := Lib.hid h3
  have e0 := hA.cellv (i := 0) (v := .int .i64 (r 0)) rfl
  have e1 := hA.cellv (i := 1) (v := .int .i64 (r 1)) rfl
  have e2 := hA.cellv (i := 2) (v := .int .i64 (r 2)) rfl
  have e3 := hA.lt
  clear hA hFo h1 h2 h3 s0 s1 s2 r0 r1 r2 g0 g1 g2
  generalize ((we.setCell ⟨z + 1 + 1, 0, none⟩ (.int .i64 (r 0))).setCell ⟨z + 1 + 1, 1, none⟩ (.int .i64 (r 1))).setCell ⟨z + 1 + 1, 2, none⟩ (.int .i64 (r 2)) = W3 at *
  refine bodyPost_ret (v := .agg #[.int .i64 (r 0), .int .i64 (r 1), .int .i64 (r 2)]) (by simp [results, Tryd.results64, go_sem, e0, e1, e2, e3]) rfl ⟨rfl, l2, HFf.out, HKf.out⟩
end Go.Proofs.YtjgclemfehfgiaaDoor.Base
namespace Go.Proofs.YtjgclemfehfgiaaDoor.Base
open Go Go.RowKit
set_option linter.unusedVariables false
set_option linter.unusedSimpArgs false

def idI (k : Nat) : List Int := (List.range k).map (fun i : Nat => ((i : Nat) : Int))
theorem idI_succ (k : Nat) : idI (k + 1) = idI k ++ [(k : Int)] := by simp [idI, List.range_succ]
theorem idI_len (k : Nat) : (idI k).length = k := by simp [idI]
def idF : Nat → Int := fun i => (i : Int)
theorem owns_setJ {w : World} {base n s : Nat} {e : TypeId} {v : Value} {xs : List Value} (h : w.ownsRow base e s v n xs) {p i : Nat} (hp : p < base) (u : Value) : (w.setCell ⟨p, i, none⟩ u).ownsRow base e s v n xs := by
  obtain ⟨h1, h2⟩ := h
  refine ⟨h1, ?_⟩
  rcases h2 with h2 | ⟨g, cap, cur, e1, hb, hg, hr⟩
  · exact .inl h2
  · refine .inr ⟨g, cap, cur, e1, hb, ?_, hr⟩
    rw [Below.heap_setCell w ⟨p, i, none⟩ u g (by show g ≠ p; omega)]
    exact hg
theorem ownRow_idI {w : World} {base base' : Nat} {A : Option Addr} {n c : Nat} {T : TypeId} (h : w.ownsRow base T 1 (.slice A n c) n (ivs (idI n))) (hb : base' ≤ base) (hn : n ≤ maxLen) : OwnRow w base' A n c idF :=
  ownS_one.1 (ownS_ivs h (fun i hi => by unfold ivs idI; simp [hi, idF]) (fun i hi => WalkArith.wf_i64 (by unfold maxLen at hn; unfold idF; omega)) hb hn)
theorem ownRow_nilA {w : World} {base : Nat} {A : Option Addr} {f : Nat → Int} : OwnRow w base A 0 0 f := ⟨Nat.le_refl _, by unfold maxLen; omega, fun i hi => absurd hi (Nat.not_lt_zero _), fun h => absurd h (Nat.lt_irrefl _)⟩
set_option maxHeartbeats 4000000 in
set_option maxRecDepth 100000 in
theorem spec_new (w : World) (N : Nat) (h1 : 1 ≤ N) (h2 : N ≤ 256) : Calls Tryd.prog 78 #[.int .i64 (N : Int)] w (JnMade N idF 0 (fun _ => 0) w) := by
  obtain ⟨i2, hi2, hz0, hz1, hz2⟩ := info_parts infoI64
  have A1 := (Below.refl w.heap.size w).alloc (Nat.le_refl _) (.cells #[.slice none 0 0, .slice none 0 0] 50)
  have A2 := A1.alloc A1.size (.cells #[] 2)
  have A3 := A2.alloc A2.size (.cells #[.slice none 0 0, .slice (some ⟨w.heap.size + 1, 0, none⟩) 0 0] 50)
  have HB := Lib.hid A3
  have HR0 := Lib.hid (((At.new w #[.slice none 0 0, .slice none 0 0] 50).below ((Below.refl _ _).alloc (Nat.le_refl _) (.cells #[] 2)) (by simp)).below ((Below.refl _ _).alloc (Nat.le_refl _) (.cells #[.slice none 0 0, .slice (some ⟨w.heap.size + 1, 0, none⟩) 0 0] 50)) (by simp; omega))
  have hj := At.new ((w.alloc (.cells #[.slice none 0 0, .slice none 0 0] 50)).alloc (.cells #[] 2)) #[.slice none 0 0, .slice (some ⟨w.heap.size + 1, 0, none⟩) 0 0] 50
  simp only [World.size_alloc] at hj
  have HJ0 := Lib.hid hj
  clear A1 A2 A3 hj
  go_enter Tryd.func78, Tryd.ntmps78
  go_wp2
  generalize ((w.alloc (.cells #[.slice none 0 0, .slice none 0 0] 50)).alloc (.cells #[] 2)).alloc (.cells #[.slice none 0 0, .slice (some ⟨w.heap.size + 1, 0, none⟩) 0 0] 50) = w3 at *
  go_loopw [4] (fun kv wr => ∃ (k : Nat) (u : Value), k ≤ N ∧ kv = .int .i64 k ∧ Hid (At wr (w.heap.size + 1 + 1) #[u, .slice (some ⟨w.heap.size + 1, 0, none⟩) 0 0] 50) ∧ Hid (wr.ownsRow (w.heap.size + 3) 2 1 u k (ivs (idI k))) ∧ Hid (At wr w.heap.size #[.slice none 0 0, .slice none 0 0] 50) ∧ Hid (Below w.heap.size w wr)) (fun kv _ => 300 - (intOf kv).toNat)
  case atStart => exact ⟨0, .slice none 0 0, Nat.zero_le _, rfl, HJ0, Lib.hid ⟨rfl, .inl ⟨rfl, rfl⟩⟩, HR0, HB⟩
  case round =>
    clear HJ0 HR0 HB
    obtain ⟨k, u, hk, rfl, HJ, HU, HR, HB⟩ := hrel
    obtain ⟨Ao, co, rfl⟩ := owns_slice HU.out
    have lj := HJ.out.lt
    have lr := HR.out.lt
    by_cases hlt : k < N
    · have p0 : wr.cell? ⟨w.heap.size + 1 + 1, 0, none⟩ = some (.slice Ao k co) := HJ.out.cellv (i := 0) rfl
      have hXa := Lib.hid ((Below.refl wr.heap.size wr).alloc (Nat.le_refl _) (.cells #[.int .i64 (k : Int)] 2))
      go_wp2_with (first
        | (at_builtin; refine wpList_append_lies _ (by rfl) _ _ _ (by rfl) (w.heap.size + 3) 2 i2 _ 1 8 Tryd.underlying22 hi2 hz0 hz1 hz2 rfl (by omega) _ k (ivs (idI k)) (by rfl) (owns_belowS HU.out hXa.out) ⟨wr.heap.size, 0, none⟩ 1 1 [.int .i64 (k : Int)] (by rfl) (by rfl) (World.news_of_block (cs := #[.int .i64 (k : Int)]) (t := 2) (fr := (0, 0)) (heap_alloc_new wr _)) (fun u hu => by simp at hu; subst hu; rfl) (by omega) (by unfold maxLen; omega) (by omega) (by simp; omega) (wr.heap.size + 1) (by simp) ?_; intro g6 cap6 w6 hown6 hgrow6 hat6 hlt6; have HOW := Lib.hid hown6; have HGR := Lib.hid hgrow6; have HJ6 := Lib.hid ((HJ.out.below hXa.out lj).grown hgrow6 (fun e => by have := (HU.out.lt _ e.symm).1; omega)); have HR6 := Lib.hid ((HR.out.below hXa.out lr).grown hgrow6 (fun e => by have := (HU.out.lt _ e.symm).1; omega)); have c6 : w6.cell? ⟨w.heap.size + 1 + 1, 0, none⟩ = some (.slice Ao k co) := HJ6.out.cellv (i := 0) rfl; have f6 := HJ6.out.frozen 0; have l6 := HJ6.out.lt; clear hown6 hgrow6 hat6))
      go_roundw
      case rel =>
        refine ⟨k + 1, _, by omega, by go_num, Lib.hid (HJ6.out.set 0 _), Lib.hid (owns_setJ ?_ (by omega) _), Lib.hid (HR6.out.setOther (by simp; omega) _), Lib.hid (((HB.out.trans (hXa.out.mono (HB.out.size))).grown HGR.out (by have := HB.out.size; simp; omega) (fun b e => by have := (HU.out.lt b e).1; omega)).setCell (by simp; omega) _)⟩
        have e : ivs (idI (k + 1)) = ivs (idI k) ++ [.int .i64 (k : Int)] := by rw [idI_succ]; unfold ivs; simp
        rw [e]
        exact HOW.out
      case measure => simp [intOf]; omega
    · obtain rfl : k = N := by omega
      have p0 : wr.cell? ⟨w.heap.size + 1 + 1, 0, none⟩ = some (.slice Ao k co) := HJ.out.cellv (i := 0) rfl
      have p1 : wr.cell? ⟨w.heap.size + 1 + 1, 1, none⟩ = some (.slice (some ⟨w.heap.size + 1, 0, none⟩) 0 0) := HJ.out.cellv (i := 1) rfl
      have q0 : wr.cell? ⟨w.heap.size, 0, none⟩ = some (.slice none 0 0) := HR.out.cellv (i := 0) rfl
      have q1 : wr.cell? ⟨w.heap.size, 1, none⟩ = some (.slice none 0 0) := HR.out.cellv (i := 1) rfl
      have f0 := HR.out.frozen 0
      have f1 := HR.out.frozen 1
      go_wp2
      refine bodyPost_ret (v := .agg #[.slice Ao k co, .slice (some ⟨w.heap.size + 1, 0, none⟩) 0 0]) (by simp [results, Tryd.results78, go_sem, q0, q1]) rfl ⟨Ao, co, _, 0, rfl, ⟨?_, ownRow_nilA, fun h1 h2 => absurd h2 (by omega)⟩, ?_⟩
      · exact (((ownRow_idI HU.out (Nat.le_refl _) (by unfold maxLen; omega)).setLow (by omega) _ _).setLow (by omega) _ _).mono (by omega)
      · exact (HB.out.setCell (by simp) _).setCell (by simp) _
set_option maxHeartbeats 4000000 in
theorem impl_alone (w : World) (N : Nat) (h1 : 1 ≤ N) (h2 : N ≤ 256) : Calls Tryd.prog 81 #[.int .i64 (N : Int)] w (JnMade N idF 0 (fun _ => 0) w) := by
  have hmk := run_make_row' (P := Tryd.prog) 22 2 (.int .i64 0) 8 Tryd.underlying22 infoI64 rfl .i64 .i64 N (by omega) (by omega)
  have A1 := (Below.refl w.heap.size w).alloc (Nat.le_refl _) (.cells #[.slice none 0 0, .slice none 0 0] 50)
  have A2 := A1.alloc A1.size (.cells (madeCells #[.int .i64 0] N) 2)
  have A3 := A2.alloc A2.size (.cells #[.slice (some ⟨w.heap.size + 1, 0, none⟩) N N, .slice none 0 0] 50)
  have HB := Lib.hid A3
  have HR0 := Lib.hid (((At.new w #[.slice none 0 0, .slice none 0 0] 50).below ((Below.refl _ _).alloc (Nat.le_refl _) (.cells (madeCells #[.int .i64 0] N) 2)) (by simp)).below ((Below.refl _ _).alloc (Nat.le_refl _) (.cells #[.slice (some ⟨w.heap.size + 1, 0, none⟩) N N, .slice none 0 0] 50)) (by simp; omega))
  have hj := At.new ((w.alloc (.cells #[.slice none 0 0, .slice none 0 0] 50)).alloc (.cells (madeCells #[.int .i64 0] N) 2)) #[.slice (some ⟨w.heap.size + 1, 0, none⟩) N N, .slice none 0 0] 50
  simp only [World.size_alloc] at hj
  have HJ0 := Lib.hid hj
  have hrow := (World.rowIs_made (w.alloc (.cells #[.slice none 0 0, .slice none 0 0] 50)) (.int .i64 0) N 2)
  rw [World.size_alloc] at hrow
  have HW0 := Lib.hid (rowIs_below hrow ((Below.refl _ _).alloc (Nat.le_refl _) (.cells #[.slice (some ⟨w.heap.size + 1, 0, none⟩) N N, .slice none 0 0] 50)) (by simp))
  clear A1 A2 A3 hj hrow
  go_enter Tryd.func81, Tryd.ntmps81
  go_wp2
  clear hmk
  generalize ((w.alloc (.cells #[.slice none 0 0, .slice none 0 0] 50)).alloc (.cells (madeCells #[.int .i64 0] N) 2)).alloc (.cells #[.slice (some ⟨w.heap.size + 1, 0, none⟩) N N, .slice none 0 0] 50) = w3 at *
  go_loopw [11] (fun kv wr => ∃ (k : Nat), k ≤ N ∧ kv = .int .i64 k ∧ Hid (At wr (w.heap.size + 1 + 1) #[.slice (some ⟨w.heap.size + 1, 0, none⟩) N N, .slice none 0 0] 50) ∧ Hid (wr.rowIs (w.heap.size + 1) 2 N (fun j => .int .i64 (if j < k then (j : Int) else 0))) ∧ Hid (At wr w.heap.size #[.slice none 0 0, .slice none 0 0] 50) ∧ Hid (Below w.heap.size w wr)) (fun kv _ => 300 - (intOf kv).toNat)
  case atStart => exact ⟨0, Nat.zero_le _, rfl, HJ0, Lib.hid (HW0.out.congr (fun j hj => by simp)), HR0, HB⟩
  case round =>
    clear HJ0 HR0 HB HW0
    obtain ⟨k, hk, rfl, HJ, HW, HR, HB⟩ := hrel
    have lj := HJ.out.lt
    have p0 : wr.cell? ⟨w.heap.size + 1 + 1, 0, none⟩ = some (.slice (some ⟨w.heap.size + 1, 0, none⟩) N N) := HJ.out.cellv (i := 0) rfl
    by_cases hlt : k < N
    · have hc2 := HW.out.cell hlt
      have hf2 := HW.out.frozen k
      have HS := Lib.hid (HW.out.set k (.int .i64 (k : Int)))
      simp only [Nat.lt_irrefl, if_false] at hc2
      go_wp2
      go_roundw
      case rel => exact ⟨k + 1, by omega, by go_num, Lib.hid (HJ.out.setOther (a := ⟨w.heap.size + 1, k, none⟩) (by simp) _), Lib.hid (HS.out.congr (fun j hj => by by_cases e : j = k <;> simp [e] <;> (try (by_cases h : j < k <;> simp [h] <;> omega)))), Lib.hid (HR.out.setOther (a := ⟨w.heap.size + 1, k, none⟩) (by simp) _), Lib.hid (HB.out.setCell (p := ⟨w.heap.size + 1, k, none⟩) (by simp) _)⟩
      case measure => simp [intOf]; omega
    · obtain rfl : k = N := by omega
      have p1 : wr.cell? ⟨w.heap.size + 1 + 1, 1, none⟩ = some (.slice none 0 0) := HJ.out.cellv (i := 1) rfl
      have q0 : wr.cell? ⟨w.heap.size, 0, none⟩ = some (.slice none 0 0) := HR.out.cellv (i := 0) rfl
      have q1 : wr.cell? ⟨w.heap.size, 1, none⟩ = some (.slice none 0 0) := HR.out.cellv (i := 1) rfl
      have f0 := HR.out.frozen 0
      have f1 := HR.out.frozen 1
      have lr := HR.out.lt
      have hrw := ownRow_of (base := w.heap.size + 1) (f := idF) (HW.out.congr (g := fun j => .int .i64 (idF j)) (fun j hj => by simp [hj, idF])) (by unfold maxLen; omega) (fun i hi => WalkArith.wf_i64 (by unfold idF; omega)) (Nat.le_refl _)
      have HRW := Lib.hid hrw
      clear hrw
      go_wp2
      refine bodyPost_ret (v := .agg #[.slice (some ⟨w.heap.size + 1, 0, none⟩) k k, .slice none 0 0]) (by simp [results, Tryd.results81, go_sem, q0, q1]) rfl ⟨_, k, none, 0, rfl, ⟨?_, ownRow_nilA, fun h1 h2 => absurd h2 (by omega)⟩, ?_⟩
      · exact ((HRW.out.setLow (by omega) _ _).setLow (by omega) _ _).mono (by omega)
      · exact (HB.out.setCell (by simp) _).setCell (by simp) _
def njN (a : Int) : Nat := if inB a 1 256 then a.toNat else 0
def njC (a : Int) : Int := if inB a 1 256 then 0 else 2
end Go.Proofs.YtjgclemfehfgiaaDoor.Base
namespace Go.Proofs.YtjgclemfehfgiaaDoor.Base
open Go Go.RowKit
set_option linter.unusedVariables false
set_option linter.unusedSimpArgs false
attribute [local go_sem] Oper.semAt_some

/-- the points of a row, those of the first rows -/
def ptsRow (W H : Int) (y : Nat) : Nat → List (Int × Int)
  | 0 => []
  | x + 1 => ptsRow W H y x ++ (if hasB W H (x : Int) (y : Int) = true then [((x : Int), (y : Int))] else [])
def ptsTo (W H : Int) : Nat → List (Int × Int)
  | 0 => []
  | y + 1 => ptsTo W H y ++ ptsRow W H y (2 * W + 1).toNat
def ptsL (W H : Int) : List (Int × Int) := ptsTo W H (2 * H + 1).toNat
theorem ptsRow_pre (W H : Int) (y x : Nat) : ∀ d, ∃ r, ptsRow W H y (x + d) = ptsRow W H y x ++ r
  | 0 => ⟨[], by simp⟩
  | d + 1 => by
    obtain ⟨r, h⟩ := ptsRow_pre W H y x d
    refine ⟨r ++ (if hasB W H ((x + d : Nat) : Int) (y : Int) = true then [(((x + d : Nat) : Int), (y : Int))] else []), ?_⟩
    show ptsRow W H y (x + d) ++ _ = _
    rw [h, List.append_assoc]
    rfl
theorem ptsTo_pre (W H : Int) (y : Nat) : ∀ d, ∃ r, ptsTo W H (y + d) = ptsTo W H y ++ r
  | 0 => ⟨[], by simp⟩
  | d + 1 => by
    obtain ⟨r, h⟩ := ptsTo_pre W H y d
    refine ⟨r ++ ptsRow W H (y + d) (2 * W + 1).toNat, ?_⟩
    show ptsTo W H (y + d) ++ _ = _
    rw [h, List.append_assoc]
    rfl
theorem pts_at {W H : Int} {y x : Nat} (hy : y < (2 * H + 1).toNat) (hx : x < (2 * W + 1).toNat) (h : hasB W H (x : Int) (y : Int) = true) :
    (ptsL W H).getD ((ptsTo W H y).length + (ptsRow W H y x).length) (0, 0) = ((x : Int), (y : Int)) ∧ (ptsTo W H y).length + (ptsRow W H y x).length < (ptsL W H).length := by
  obtain ⟨r1, e1⟩ := ptsTo_pre W H (y + 1) ((2 * H + 1).toNat - (y + 1))
  obtain ⟨r2, e2⟩ := ptsRow_pre W H y (x + 1) ((2 * W + 1).toNat - (x + 1))
  rw [show y + 1 + ((2 * H + 1).toNat - (y + 1)) = (2 * H + 1).toNat by omega] at e1
  rw [show x + 1 + ((2 * W + 1).toNat - (x + 1)) = (2 * W + 1).toNat by omega] at e2
  have e : ptsL W H = (ptsTo W H y ++ ptsRow W H y x) ++ (((x : Int), (y : Int)) :: (r2 ++ r1)) := by
    show ptsTo W H (2 * H + 1).toNat = _
    rw [e1]
    show (ptsTo W H y ++ ptsRow W H y (2 * W + 1).toNat) ++ r1 = _
    rw [e2]
    show (ptsTo W H y ++ ((ptsRow W H y x ++ (if hasB W H (x : Int) (y : Int) = true then [((x : Int), (y : Int))] else [])) ++ r2)) ++ r1 = _
    rw [if_pos h]
    simp
  rw [e]
  constructor
  · rw [← List.length_append, List.getD_eq_getElem?_getD, List.getElem?_append_right (Nat.le_refl _)]
    simp
  · simp
theorem ptsRow_has {W H : Int} {y : Nat} {p : Int × Int} : ∀ {x : Nat}, p ∈ ptsRow W H y x ↔ p.2 = (y : Int) ∧ 0 ≤ p.1 ∧ p.1 < (x : Int) ∧ hasB W H p.1 p.2 = true
  | 0 => by simp [ptsRow]; omega
  | x + 1 => by
    show p ∈ ptsRow W H y x ++ _ ↔ _
    rw [List.mem_append, ptsRow_has (x := x)]
    constructor
    · rintro (⟨h1, h2, h3, h4⟩ | h1)
      · exact ⟨h1, h2, by omega, h4⟩
      · split at h1
        · next h =>
          obtain rfl := List.mem_singleton.1 h1
          exact ⟨rfl, by simp, by simp; omega, h⟩
        · cases h1
    · rintro ⟨h1, h2, h3, h4⟩
      by_cases e : p.1 = (x : Int)
      · refine .inr ?_
        obtain ⟨a, b⟩ := p
        simp only at h1 e h4
        subst h1 e
        rw [if_pos h4]
        exact List.mem_singleton.2 rfl
      · exact .inl ⟨h1, h2, by omega, h4⟩
theorem ptsTo_has {W H : Int} {p : Int × Int} : ∀ {y : Nat}, p ∈ ptsTo W H y ↔ 0 ≤ p.2 ∧ p.2 < (y : Int) ∧ hasB W H p.1 p.2 = true
  | 0 => by simp [ptsTo]; omega
  | y + 1 => by
    show p ∈ ptsTo W H y ++ _ ↔ _
    rw [List.mem_append, ptsTo_has (y := y), ptsRow_has]
    constructor
    · rintro (⟨h1, h2, h3⟩ | ⟨h1, h2, h3, h4⟩)
      · exact ⟨h1, by omega, h3⟩
      · exact ⟨by omega, by omega, h4⟩
    · rintro ⟨h1, h2, h3⟩
      have := has_yes h3
      by_cases e : p.2 = (y : Int)
      · exact .inr ⟨e, this.1, by omega, h3⟩
      · exact .inl ⟨h1, by omega, h3⟩
theorem ptsL_has {W H : Int} {p : Int × Int} : p ∈ ptsL W H ↔ hasB W H p.1 p.2 = true := by
  unfold ptsL
  rw [ptsTo_has]
  constructor
  · exact fun h => h.2.2
  · intro h
    have := has_yes h
    exact ⟨this.2.2.1, by omega, h⟩
def ptE (W H : Int) (k : Nat) : Array Value := #[.agg #[.int .i64 ((ptsL W H).getD k (0, 0)).1, .int .i64 ((ptsL W H).getD k (0, 0)).2]]
theorem pts_row (W H : Int) (y x : Nat) : (ptsRow W H y (x + 1)).length = (ptsRow W H y x).length + (if hasB W H (x : Int) (y : Int) = true then 1 else 0) := by
  show (ptsRow W H y x ++ _).length = _
  rw [List.length_append]
  split <;> simp
set_option maxHeartbeats 4000000 in
set_option maxRecDepth 100000 in
theorem pts_iter (n : Nat) (hn1 : 1 ≤ n) (w : World) (pb : Nat) (W H : Int) (hb : Cel w pb [.int .i64 W, .int .i64 H]) (hW : sideB W = true) (hH : sideB H = true) :
    IterY Fence.wide n Tryd.prog 126 #[.pointer (some ⟨pb, 0, none⟩)] (fun k => ptE W H k) (ptsL W H).length 0 [pb] w := fun l J Jx Wa hba hnew hJ hJx hset hY h0 => by
  refine callsIn_of_wp Tryd.func126 rfl trivial ?_ rfl
  simp only [Tryd.ntmps126, List.size_toArray, List.length_cons, List.length_nil, Nat.reduceAdd, Nat.reduceSub, Array.replicate_succ, Array.replicate_zero, List.push_toArray, List.append_toArray, List.nil_append, List.cons_append]
  obtain ⟨a1, a2⟩ := side_mk hW
  obtain ⟨b1, b2⟩ := side_mk hH
  have HWs := Lib.hid hW
  have HHs := Lib.hid hH
  have HA := Lib.hid (hb.below hba hb.1)
  have HJ0 := Lib.hid h0
  have HJB := Lib.hid hJ
  have HY := Lib.hid hY
  obtain ⟨R, hR0⟩ : ∃ R : Nat, 2 * H + 1 = R := ⟨(2 * H + 1).toNat, by omega⟩
  obtain ⟨C, hC0⟩ : ∃ C : Nat, 2 * W + 1 = C := ⟨(2 * W + 1).toNat, by omega⟩
  have HR := Lib.hid hR0
  have HC := Lib.hid hC0
  have hRle : R ≤ 17 := by omega
  have hCle : C ≤ 17 := by omega
  have k1 : Wa.cell? ⟨pb, 1, none⟩ = some (.int .i64 H) := HA.out.2 1 _ rfl
  have l0 := HA.out.1
  have hend : (ptsTo W H R).length = (ptsL W H).length := by unfold ptsL; rw [hR0]; rfl
  have HEND := Lib.hid hend
  clear hb h0 hnew hJ hJx hset hY hW hH hend hR0 hC0
  gi_wp2_with fail
  rw [HR.out]
  clear k1
  gi_loopw [10] (fun yv wr => ∃ y : Nat, y ≤ R ∧ yv = .int .i64 (y : Int) ∧ Hid (J [] (ptsTo W H y).length wr) ∧ Hid (Cel wr pb [.int .i64 W, .int .i64 H])) (fun yv _ => R - (intOf yv).toNat)
  case atStart => exact ⟨0, Nat.zero_le _, rfl, HJ0, HA⟩
  case round =>
    clear HJ0 HA l0
    obtain ⟨y, hy, rfl, HJy, HA⟩ := hrel
    by_cases hyl : y < R
    · have k0 : wr.cell? ⟨pb, 0, none⟩ = some (.int .i64 W) := HA.out.2 0 _ rfl
      have l0 := HA.out.1
      gi_wp2_with fail
      rw [HC.out]
      clear k0
      gi_loopw [17] (fun xv wx => ∃ x : Nat, x ≤ C ∧ xv = .int .i64 (x : Int) ∧ Hid (J [] ((ptsTo W H y).length + (ptsRow W H y x).length) wx) ∧ Hid (Cel wx pb [.int .i64 W, .int .i64 H])) (fun xv _ => C - (intOf xv).toNat)
      case atStart => exact ⟨0, Nat.zero_le _, rfl, HJy, HA⟩
      case round =>
        clear HJy HA l0
        obtain ⟨x, hx, rfl, HJx, HA⟩ := hrel
        by_cases hxl : x < C
        · have bN := (Below.refl wr.heap.size wr).alloc (Nat.le_refl _) (.cells #[.int .i64 (x : Int), .int .i64 (y : Int)] 32)
          have HP := Lib.hid (Cel.new wr [.int .i64 (x : Int), .int .i64 (y : Int)] 32)
          have HA2 := Lib.hid (HA.out.below bN HA.out.1)
          have HJ2 := Lib.hid (HJB.out _ _ _ _ HJx.out bN)
          have p0 := HA2.out.2 0 _ rfl
          have p1 := HA2.out.2 1 _ rfl
          have pz := HA2.out.1
          clear bN HA HJx
          gi_wp2_with fail
          clear p0 p1 pz
          generalize wr.alloc (.cells #[.int .i64 (x : Int), .int .i64 (y : Int)] 32) = w2 at *
          generalize wr.heap.size = bp at *
          cases hv : hasB W H (x : Int) (y : Int)
          · have HV := Lib.hid hv
            have he := pts_row W H y x
            rw [hv, if_neg (by decide), Nat.add_zero] at he
            have HE := Lib.hid he
            clear hv he
            refine ⟨trivial, (callsIn_wide.2 (hasPoint_is HV.out HWs.out HHs.out)).mono ?_⟩
            rintro e w3 ⟨rfl, b3⟩
            have HA3 := Lib.hid (HA2.out.below b3 HA2.out.1)
            have HJ3 := Lib.hid (HJB.out _ _ _ _ HJ2.out b3)
            clear b3 HA2 HJ2 HP
            gi_wp2
            refine ⟨fun f hf => (by cases hf), ?_⟩
            gi_wp2
            go_roundw
            case rel => exact ⟨x + 1, by omega, by go_num, Lib.hid (by rw [HE.out]; exact HJ3.out), HA3⟩
            case measure => simp [intOf]; omega
          · have HV := Lib.hid hv
            have he := pts_row W H y x
            rw [hv, if_pos rfl] at he
            have HE := Lib.hid he
            obtain ⟨hel, hlt⟩ := pts_at (W := W) (H := H) (y := y) (x := x) (by have := HR.out; omega) (by have := HC.out; omega) hv
            clear hv he
            refine ⟨trivial, (callsIn_wide.2 (hasPoint_is HV.out HWs.out HHs.out)).mono ?_⟩
            rintro e w3 ⟨rfl, b3⟩
            have HA3 := Lib.hid (HA2.out.below b3 HA2.out.1)
            have HJ3 := Lib.hid (HJB.out _ _ _ _ HJ2.out b3)
            have HP3 := Lib.hid (HP.out.below b3 HP.out.1)
            clear b3 HA2 HJ2 HP
            obtain ⟨fn, tm, assign, body, hyy, hRR⟩ := HY.out [] _ w3 hlt HJ3.out
            have hy' : (Instr.yield l #[.agg #[.int .i64 (x : Int), .int .i64 (y : Int)]]).run Tryd.prog w3 = .ok (.round l fn tm assign body) w3 := by
              unfold ptE at hyy
              rw [hel] at hyy
              exact hyy
            have q0 := HP3.out.2 0 _ rfl
            have q1 := HP3.out.2 1 _ rfl
            have qz := HP3.out.1
            have az := HA3.out.1
            clear hyy hel
            gi_wp2_with fail
            clear q0 q1 qz
            refine hRR.mono ?_
            clear hy' hRR
            rintro e W5 (⟨rfl, hJ5, hk5⟩ | ⟨rfl, hJx5⟩)
            · have HA5 := Lib.hid (show Cel W5 pb [.int .i64 W, .int .i64 H] from ⟨Nat.lt_of_lt_of_le az hk5.below.size, fun i v hv => (World.cell?_of_block (a := ⟨pb, i, none⟩) (hk5.box pb (by simp) az)).trans (HA3.out.2 i v hv)⟩)
              have HJ5 := Lib.hid hJ5
              clear hk5 hJ5 HA3 HJ3 HP3
              gi_wp2
              go_roundw
              case rel => exact ⟨x + 1, by omega, by go_num, Lib.hid (by rw [HE.out, ← Nat.add_assoc]; exact HJ5.out), HA5⟩
              case measure => simp [intOf]; omega
            · have HJ5 := Lib.hid hJx5
              clear hJx5
              gi_wp2
              refine bodyPost_ret (results_none rfl _ _ _) rfl ?_
              exact ⟨⟨_, rfl⟩, .inr ⟨_, by omega, HJ5.out⟩⟩
        · obtain rfl : x = C := by omega
          gi_wp2
          go_roundw
          case rel => exact ⟨y + 1, by omega, by go_num, Lib.hid (by
            show J [] (ptsTo W H y ++ ptsRow W H y (2 * W + 1).toNat).length wr
            rw [List.length_append, show (2 * W + 1).toNat = x by have := HC.out; omega]
            exact HJx.out), HA⟩
          case measure => simp [intOf]; omega
    · obtain rfl : y = R := by omega
      gi_wp2
      go_end0
      exact ⟨⟨_, rfl⟩, .inl ⟨[], by rw [← HEND.out]; exact HJy.out⟩⟩
end Go.Proofs.YtjgclemfehfgiaaDoor.Base
namespace Go.Proofs.YtjgclemfehfgiaaDoor.Base
open Go Go.RowKit
set_option linter.unusedVariables false
set_option linter.unusedSimpArgs false

/-- a row of integers in the blocks from lo to hi -/
def RowI (w : World) (lo hi : Nat) (A : Option Addr) (n c : Nat) (f : Nat → Int) : Prop := OwnRow w lo A n c f ∧ (0 < n → ∀ b, blk A = some b → b < hi)
theorem RowI.same {B : Nat} {X : List Nat} {lo hi : Nat} {w w' : World} {A : Option Addr} {n c : Nat} {f : Nat → Int} (h : RowI w lo hi A n c f) (e : Same B X lo hi w w') : RowI w' lo hi A n c f :=
  ⟨⟨h.1.1, h.1.2.1, h.1.2.2.1, fun hn => by
    obtain ⟨b, o, e1, h1, h2, h3⟩ := h.1.2.2.2 hn
    have hb := h.2 hn b (by rw [e1]; rfl)
    have eb := e.block b h2 (.inr ⟨h1, hb⟩)
    exact ⟨b, o, e1, h1, Nat.lt_of_lt_of_le h2 e.size, fun i hi => ⟨(World.cell?_of_block (a := ⟨b, o + i, none⟩) eb).trans (h3 i hi).1, (World.frozen?_of_block (a := ⟨b, o + i, none⟩) eb).trans (h3 i hi).2⟩⟩⟩, h.2⟩
theorem RowI.of {w : World} {lo : Nat} {A : Option Addr} {n c : Nat} {f : Nat → Int} (h : OwnRow w lo A n c f) : RowI w lo w.heap.size A n c f :=
  ⟨h, fun hn b hb => by
    obtain ⟨b1, o, e1, h1, h2, h3⟩ := h.2.2.2 hn
    rw [e1] at hb
    simp [blk] at hb
    omega⟩
/-- a forest in the blocks from lo to hi -/
def FoI (w : World) (lo hi n : Nat) (v : Value) : Prop := ∃ F E lv, v = .pointer (some ⟨F, 0, none⟩) ∧ Fo w lo F E n lv (fun z => z) 0 (fun _ => 0) ∧ (lo ≤ F ∧ F < hi) ∧ (lo ≤ E ∧ E < hi) ∧ (∀ q, lv.ownBlock = some q → lo ≤ q ∧ q < hi)
theorem Fo.of_blocks {w w' : World} {b0 F E n m : Nat} {lv : Value} {p : Nat → Nat} {g : Nat → Int} (h : Fo w b0 F E n lv p m g) (hF : w'.heap[F]? = w.heap[F]?) (hE : w'.heap[E]? = w.heap[E]?) (hl : ∀ q, lv.ownBlock = some q → w'.heap[q]? = w.heap[q]?) : Fo w' b0 F E n lv p m g :=
  ⟨h.box.of_block hF, h.elm.of_block hE, owns_block h.log hl, h.far, h.ne, h.ju, h.cnt, h.n2⟩
theorem FoI.same {B : Nat} {X : List Nat} {lo hi n : Nat} {w w' : World} {v : Value} (h : FoI w lo hi n v) (e : Same B X lo hi w w') : FoI w' lo hi n v := by
  obtain ⟨F, E, lv, h1, h2, h3, h4, h5⟩ := h
  exact ⟨F, E, lv, h1, h2.of_blocks (e.block F h2.box.lt (.inr h3)) (e.block E h2.elm.lt (.inr h4)) (fun q hq => e.block q (h2.log.lt q hq).2 (.inr (h5 q hq))), h3, h4, h5⟩
theorem nRt_all (n : Nat) : nRt n (fun z => z) = n := by
  unfold nRt
  rw [List.filter_eq_self.2 (fun z _ => by simp)]
  simp
theorem ju_all (n : Nat) : Ju n (fun z => z) (fun z => z) (fun _ => 0) [] 0 := .first ⟨fun x h => h, fun x _ => .inl rfl⟩ (fun _ _ => Nat.le_refl _) (fun _ _ _ => rfl)
set_option maxHeartbeats 2000000 in
/-- planted, of elements that stand alone -/
theorem planted_alone (w : World) (A : Option Addr) (n c : Nat) (B : Option Addr) (d : Nat) (g : Nat → Int) (hr : Row .i64 w A n c idF) (hr' : Row .i64 w B 0 d g) (n1 : 1 ≤ n) (n2 : n ≤ 256) :
    Calls Tryd.prog 80 #[.agg #[.slice A n c, .slice B 0 d]] w (fun e w' => ∃ v, e = .returned v ∧ FoI w' w.heap.size w'.heap.size n v ∧ Below w.heap.size w w') := by
  refine (impl_planted w A n c idF B 0 d g hr hr' n1 n2 (by omega) (fun k hk => by unfold idF; omega)).mono ?_
  rintro e w' ⟨F, E, lv, base, rfl, h1, h2, h3, h4, h5, h6⟩
  have hl : ∀ q, lv.ownBlock = some q → w.heap.size ≤ q ∧ q < w'.heap.size := fun q hq => h2.lt q hq
  refine ⟨_, rfl, ⟨F, E, lv, rfl, ⟨h1.box, h1.elm.congr (fun x => by unfold pNat idF; exact Int.toNat_natCast x), h2, fun q hq => ⟨(h3 q hq).2.1, (h3 q hq).2.2⟩, h1.ne, ⟨_, ju_all n⟩, by rw [nRt_all]; rfl, n2⟩, ⟨h4, h1.box.lt⟩, ⟨h5, h1.elm.lt⟩, hl⟩, h6⟩
/-- the points of a panel: the iterator's closure -/
theorem impl_points (w : World) (W H : Int) : Calls Tryd.prog 74 #[.agg #[.int .i64 W, .int .i64 H]] w (fun e w' => e = .returned (.func (.func 126) #[] #[.pointer (some ⟨w.heap.size, 0, none⟩)]) ∧ Cel w' w.heap.size [.int .i64 W, .int .i64 H] ∧ Below w.heap.size w w' ∧ w'.heap.size = w.heap.size + 1) := by
  go_enter Tryd.func74, Tryd.ntmps74
  go_wp2
  go_ret
  exact ⟨rfl, Cel.new w [.int .i64 W, .int .i64 H] _, (Below.refl _ _).alloc (Nat.le_refl _) _, by simp⟩
end Go.Proofs.YtjgclemfehfgiaaDoor.Base
namespace Go.Proofs.YtjgclemfehfgiaaDoor.Base
open Go.RowKit
set_option linter.unusedVariables false
set_option linter.unusedSimpArgs false

def swB (s : Int) : Bool := decide (4 ≤ s)
def acB (s : Int) : Bool := decide (s % 2 = 1)
def dnB (s : Int) : Bool := decide (s / 2 % 2 = 1)
def mvW (W H s : Int) : Int := if swB s then H else W
def mvH (W H s : Int) : Int := if swB s then W else H
def mvX (W H s x y : Int) : Int := if acB s then 2 * mvW W H s - (if swB s then y else x) else (if swB s then y else x)
def mvY (W H s x y : Int) : Int := if dnB s then 2 * mvH W H s - (if swB s then x else y) else (if swB s then x else y)
def bkX (W H s x y : Int) : Int := if swB s then (if dnB s then 2 * W - y else y) else (if acB s then 2 * W - x else x)
def bkY (W H s x y : Int) : Int := if swB s then (if acB s then 2 * H - x else x) else (if dnB s then 2 * H - y else y)
theorem mv_bk (W H s x y : Int) : mvX W H s (bkX W H s x y) (bkY W H s x y) = x ∧ mvY W H s (bkX W H s x y) (bkY W H s x y) = y := by
  unfold mvX mvY bkX bkY mvW mvH
  cases swB s <;> cases acB s <;> cases dnB s <;> simp <;> omega
theorem bk_mv (W H s x y : Int) : bkX W H s (mvX W H s x y) (mvY W H s x y) = x ∧ bkY W H s (mvX W H s x y) (mvY W H s x y) = y := by
  unfold mvX mvY bkX bkY mvW mvH
  cases swB s <;> cases acB s <;> cases dnB s <;> simp <;> omega
theorem hasM {W H x y : Int} (h : 0 ≤ x ∧ x ≤ 2 * W ∧ 0 ≤ y ∧ y ≤ 2 * H ∧ (x + y) % 2 = 1) : hasB W H x y = true := by
  have h1 : inB x 0 (2 * W) = true := decide_eq_true ⟨h.1, h.2.1⟩
  have h2 : inB y 0 (2 * H) = true := decide_eq_true ⟨h.2.2.1, h.2.2.2.1⟩
  simp [hasB, h1, h2, h.2.2.2.2]
theorem edgeM {W H x y : Int} (h : x ≠ 0 ∧ y ≠ 0 ∧ x ≠ 2 * W ∧ y ≠ 2 * H) : edgeB W H x y = false := decide_eq_false (by omega)
theorem mv_has {W H s x y : Int} (h : hasB W H x y = true) : hasB (mvW W H s) (mvH W H s) (mvX W H s x y) (mvY W H s x y) = true := by
  obtain ⟨h1, h2, h3, h4, h5⟩ := has_yes h
  refine hasM ?_
  unfold mvX mvY mvW mvH
  cases swB s <;> cases acB s <;> cases dnB s <;> simp <;> omega
theorem mv_edge {W H s x y : Int} (h : edgeB W H x y = false) : edgeB (mvW W H s) (mvH W H s) (mvX W H s x y) (mvY W H s x y) = false := by
  obtain ⟨h1, h2, h3, h4⟩ := edge_no h
  refine edgeM ?_
  unfold mvX mvY mvW mvH
  cases swB s <;> cases acB s <;> cases dnB s <;> simp <;> omega
theorem bk_has {W H s x y : Int} (h : hasB (mvW W H s) (mvH W H s) x y = true) : hasB W H (bkX W H s x y) (bkY W H s x y) = true := by
  obtain ⟨h1, h2, h3, h4, h5⟩ := has_yes h
  refine hasM ?_
  unfold mvW at h2
  unfold mvH at h4
  unfold bkX bkY
  cases hs : swB s <;> cases acB s <;> cases dnB s <;> simp [hs] at h2 h4 ⊢ <;> omega
theorem bk_edge {W H s x y : Int} (h : edgeB (mvW W H s) (mvH W H s) x y = false) : edgeB W H (bkX W H s x y) (bkY W H s x y) = false := by
  obtain ⟨h1, h2, h3, h4⟩ := edge_no h
  refine edgeM ?_
  unfold mvW at h3
  unfold mvH at h4
  unfold bkX bkY
  cases hs : swB s <;> cases acB s <;> cases dnB s <;> simp [hs] at h3 h4 ⊢ <;> omega
theorem mv_side {W H s : Int} (hW : sideB W = true) (hH : sideB H = true) : sideB (mvW W H s) = true ∧ sideB (mvH W H s) = true := by
  unfold mvW mvH
  cases swB s
  · exact ⟨hW, hH⟩
  · exact ⟨hH, hW⟩
theorem mv_inner (W H s : Int) : inner (mvW W H s) (mvH W H s) = inner W H := by
  unfold mvW mvH inner
  cases swB s
  · rfl
  · exact Int.add_comm _ _
theorem ptn_is {W H k : Int} (hW : sideB W = true) (hH : sideB H = true) (hk : 0 ≤ k) (hk' : k < inner W H) :
    hasB W H (ptX W k) (ptY W k) = true ∧ edgeB W H (ptX W k) (ptY W k) = false ∧ numN W (ptX W k) (ptY W k) = k := by
  obtain ⟨a1, a2⟩ := side_mk hW
  obtain ⟨b1, b2⟩ := side_mk hH
  obtain ⟨p1, p2, p3, p4⟩ := pt_rows a1 hk
  have p5 := pt_end a1 b1 hk hk'
  have p6 := rowN_succ W (ptY W k) p1
  have p7 : (0 ≤ ptX W k ∧ 1 ≤ ptX W k) ∧ ptX W k ≤ 2 * W - 1 ∧ (ptX W k + ptY W k) % 2 = 1 := by
    split at p6 <;> omega
  refine ⟨hasM ⟨by omega, by omega, by omega, by omega, p7.2.2⟩, edgeM ⟨by omega, by omega, by omega, by omega⟩, ?_⟩
  unfold numN
  split at p6 <;> omega
theorem num_pt {W H x y : Int} (hW : sideB W = true) (hH : sideB H = true) (h : hasB W H x y = true) (h' : edgeB W H x y = false) : ptX W (numN W x y) = x ∧ ptY W (numN W x y) = y := by
  obtain ⟨a1, a2⟩ := side_mk hW
  obtain ⟨b1, b2⟩ := side_mk hH
  obtain ⟨x1, x2, y1, y2, hp⟩ := has_yes h
  obtain ⟨e1, e2, e3, e4⟩ := edge_no h'
  obtain ⟨n1, n2⟩ := num_lt hW hH h h'
  have hs := rowN_succ W y (by omega)
  have hy : y = ptY W (numN W x y) := pt_only a1 b1 n1 n2 (by omega) (by omega) (by unfold numN; omega) (by
    right
    unfold numN
    split at hs <;> omega)
  obtain ⟨p1, p2, p3, p4⟩ := pt_rows (W := W) a1 n1
  refine ⟨?_, hy.symm⟩
  rw [p4, ← hy]
  unfold numN
  split at hs <;> omega
/-- the inner point that a symmetry moves to the inner point i, and the one to which it moves the inner point k -/
def srcI (W H s i : Int) : Int := numN W (bkX W H s (ptX (mvW W H s) i) (ptY (mvW W H s) i)) (bkY W H s (ptX (mvW W H s) i) (ptY (mvW W H s) i))
def dstI (W H s k : Int) : Int := numN (mvW W H s) (mvX W H s (ptX W k) (ptY W k)) (mvY W H s (ptX W k) (ptY W k))
theorem src_bd {W H s i : Int} (hW : sideB W = true) (hH : sideB H = true) (h0 : 0 ≤ i) (h1 : i < inner W H) : 0 ≤ srcI W H s i ∧ srcI W H s i < inner W H := by
  obtain ⟨s1, s2⟩ := mv_side (s := s) hW hH
  obtain ⟨p1, p2, -⟩ := ptn_is s1 s2 h0 (by rw [mv_inner]; exact h1)
  exact num_lt hW hH (bk_has p1) (bk_edge p2)
theorem dst_bd {W H s k : Int} (hW : sideB W = true) (hH : sideB H = true) (h0 : 0 ≤ k) (h1 : k < inner W H) : 0 ≤ dstI W H s k ∧ dstI W H s k < inner W H := by
  obtain ⟨s1, s2⟩ := mv_side (s := s) hW hH
  obtain ⟨p1, p2, -⟩ := ptn_is hW hH h0 h1
  rw [← mv_inner W H s]
  exact num_lt s1 s2 (mv_has p1) (mv_edge p2)
theorem src_dst {W H s k : Int} (hW : sideB W = true) (hH : sideB H = true) (h0 : 0 ≤ k) (h1 : k < inner W H) : srcI W H s (dstI W H s k) = k := by
  obtain ⟨s1, s2⟩ := mv_side (s := s) hW hH
  obtain ⟨p1, p2, p3⟩ := ptn_is hW hH h0 h1
  obtain ⟨q1, q2⟩ := num_pt s1 s2 (mv_has (s := s) p1) (mv_edge (s := s) p2)
  unfold srcI dstI
  rw [q1, q2, (bk_mv W H s _ _).1, (bk_mv W H s _ _).2, p3]
theorem dst_src {W H s i : Int} (hW : sideB W = true) (hH : sideB H = true) (h0 : 0 ≤ i) (h1 : i < inner W H) : dstI W H s (srcI W H s i) = i := by
  obtain ⟨s1, s2⟩ := mv_side (s := s) hW hH
  obtain ⟨p1, p2, p3⟩ := ptn_is s1 s2 h0 (by rw [mv_inner]; exact h1)
  obtain ⟨q1, q2⟩ := num_pt hW hH (bk_has p1) (bk_edge p2)
  unfold srcI dstI
  rw [q1, q2, (mv_bk W H s _ _).1, (mv_bk W H s _ _).2, p3]
/-- what a symmetry makes of a kind of break -/
def kdS (s z : Int) : Int := if swB s && decide (z ≠ 0) then 3 - z else z
theorem kd_bd {s z : Int} (h : 0 ≤ z ∧ z ≤ 2) : 0 ≤ kdS s z ∧ kdS s z ≤ 2 := by
  unfold kdS
  split
  · rename_i hh
    simp at hh
    omega
  · exact h
/-- the breaks of the panel to which a symmetry moves a panel -/
def mpF (W H s : Int) (f : Nat → Int) (i : Nat) : Int := kdS s (f (srcI W H s i).toNat)
/-- the same behind k rounds -/
def mpK (W H s : Int) (f : Nat → Int) (k : Nat) (i : Nat) : Int := if srcI W H s i < (k : Int) then mpF W H s f i else 0
theorem mpK_zero {W H s : Int} {f : Nat → Int} {n : Nat} (hW : sideB W = true) (hH : sideB H = true) (hn : (n : Int) = inner W H) (i : Nat) (hi : i < n) : mpK W H s f 0 i = 0 := by
  have := (src_bd (s := s) hW hH (i := i) (by omega) (by omega)).1
  unfold mpK
  rw [if_neg (by omega)]
theorem mpK_all {W H s : Int} {f : Nat → Int} {n : Nat} (hW : sideB W = true) (hH : sideB H = true) (hn : (n : Int) = inner W H) (i : Nat) (hi : i < n) : mpK W H s f n i = mpF W H s f i := by
  have := (src_bd (s := s) hW hH (i := i) (by omega) (by omega)).2
  unfold mpK
  rw [if_pos (by omega)]
theorem mpK_put {W H s : Int} {f : Nat → Int} {n k : Nat} (hW : sideB W = true) (hH : sideB H = true) (hn : (n : Int) = inner W H) (hk : k < n) (i : Nat) (hi : i < n) :
    putF (mpK W H s f k) (dstI W H s k).toNat (kdS s (f k)) i = mpK W H s f (k + 1) i := by
  have d := dst_bd (s := s) hW hH (k := k) (by omega) (by omega)
  unfold putF
  by_cases e : i = (dstI W H s k).toNat
  · rw [if_pos e]
    have ei : (i : Int) = dstI W H s k := by omega
    have es := src_dst (s := s) hW hH (k := k) (by omega) (by omega)
    unfold mpK mpF
    rw [ei, es, if_pos (by omega), Int.toNat_natCast]
  · rw [if_neg e]
    have es : srcI W H s i ≠ k := fun h => e (by
      have := dst_src (s := s) hW hH (i := i) (by omega) (by omega)
      rw [h] at this
      omega)
    unfold mpK
    by_cases h : srcI W H s i < (k : Int)
    · rw [if_pos h, if_pos (by omega)]
    · rw [if_neg h, if_neg (by omega)]
theorem mpF_bd {W H s : Int} {f : Nat → Int} {n : Nat} (hW : sideB W = true) (hH : sideB H = true) (hn : (n : Int) = inner W H) (hK : kindsB n f = true) (i : Nat) (hi : i < n) : 0 ≤ mpF W H s f i ∧ mpF W H s f i ≤ 2 := by
  have := src_bd (s := s) hW hH (i := i) (by omega) (by omega)
  exact kd_bd (kinds_iff.1 hK _ (by omega))
/-- the code of a panel and a symmetry -/
def mpC (W H : Int) (n : Nat) (f : Nat → Int) (s : Int) : Int := if validB W H n f then (if inB s 0 7 then 0 else 2) else 1
theorem mpC_1 {W H : Int} {n : Nat} {f : Nat → Int} {s : Int} (h : validB W H n f = false) : mpC W H n f s = 1 := by simp [mpC, h]
theorem mpC_2 {W H : Int} {n : Nat} {f : Nat → Int} {s : Int} (h : validB W H n f = true) (h2 : inB s 0 7 = false) : mpC W H n f s = 2 := by simp [mpC, h, h2]
theorem mpC_0 {W H : Int} {n : Nat} {f : Nat → Int} {s : Int} (h : validB W H n f = true) (h2 : inB s 0 7 = true) : mpC W H n f s = 0 := by simp [mpC, h, h2]
end Go.Proofs.YtjgclemfehfgiaaDoor.Base
