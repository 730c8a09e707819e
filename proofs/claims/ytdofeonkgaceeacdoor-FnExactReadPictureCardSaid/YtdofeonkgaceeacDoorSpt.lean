/-
  Slices of values in memory; the laws' lists of texts: equal, marked, held.
-/
import Derived.Test.YtdofeonkgaceeacDoorMark
import Derived.Test.YtdofeonkgaceeacDoorSpw
import Derived.Deep.RegionHeld3
import Derived.OwnWalk
import Derived.Laws.AppendOwn
import Derived.Deep.AppendLies
import Derived.Deep.DeepMust
import Derived.Lib.Strings
import Derived.Laws.DeepStrings4
namespace Go.Proofs.YtdofeonkgaceeacDoor.Base
open Go Go.RowKit
open Go.PlainAid (bt get_bt bt_nonneg bt_le)
set_option linter.unusedVariables false
set_option linter.unusedSimpArgs false

theorem bcellS {w w' : World} {B : Nat} (h : Below B w w') : ∀ b o, b < B → w'.cell? ⟨b, o, none⟩ = w.cell? ⟨b, o, none⟩ := fun b o hb => h.cell (p := ⟨b, o, none⟩) hb
theorem oldMk {W w' : World} (h : Below W.heap.size W w') : (∀ b o, b < W.heap.size → w'.cell? ⟨b, o, none⟩ = W.cell? ⟨b, o, none⟩) ∧ Below W.heap.size W w' := ⟨bcellS h, h⟩
theorem oldTr {W w1 w2 : World} (h : (∀ b o, b < W.heap.size → w1.cell? ⟨b, o, none⟩ = W.cell? ⟨b, o, none⟩) ∧ Below W.heap.size W w1) (b : Below w1.heap.size w1 w2) : (∀ b o, b < W.heap.size → w2.cell? ⟨b, o, none⟩ = W.cell? ⟨b, o, none⟩) ∧ Below W.heap.size W w2 := oldMk (h.2.trans (b.mono h.2.size))
/-- a slice that reads as g -/
def VRow (w : World) (A : Option Addr) (n c : Nat) (g : Nat → Value) : Prop :=
  n ≤ c ∧ c ≤ maxLen ∧ (0 < n → ∃ b o, A = some ⟨b, o, none⟩ ∧ b < w.heap.size ∧ ∀ i, i < n → w.cell? ⟨b, o + i, none⟩ = some (g i))
/-- the same, made from block base on -/
def VOwn (w : World) (base : Nat) (A : Option Addr) (n c : Nat) (g : Nat → Value) : Prop :=
  n ≤ c ∧ c ≤ maxLen ∧ (0 < n → ∃ b o, A = some ⟨b, o, none⟩ ∧ base ≤ b ∧ b < w.heap.size ∧ ∀ i, i < n → w.cell? ⟨b, o + i, none⟩ = some (g i) ∧ w.frozen? ⟨b, o + i, none⟩ = false)
section
variable {w w' : World} {base : Nat} {A : Option Addr} {n c : Nat} {g : Nat → Value}
theorem VOwn.row (h : VOwn w base A n c g) : VRow w A n c g :=
  ⟨h.1, h.2.1, fun hn => by obtain ⟨b, o, e, _, hb, hc⟩ := h.2.2 hn; exact ⟨b, o, e, hb, fun i hi => (hc i hi).1⟩⟩
theorem VRow.below {B : Nat} (h : VRow w A n c g) (hb : Below B w w') (hB : w.heap.size ≤ B) : VRow w' A n c g :=
  ⟨h.1, h.2.1, fun hn => by
    obtain ⟨b, o, e, h2, hc⟩ := h.2.2 hn
    exact ⟨b, o, e, Nat.lt_of_lt_of_le h2 hb.size, fun i hi => (hb.cell (p := ⟨b, o + i, none⟩) (Nat.lt_of_lt_of_le h2 hB)).trans (hc i hi)⟩⟩
theorem VOwn.below {B : Nat} (h : VOwn w base A n c g) (hb : Below B w w') (hB : w.heap.size ≤ B) : VOwn w' base A n c g :=
  ⟨h.1, h.2.1, fun hn => by
    obtain ⟨b, o, e, h1, h2, hc⟩ := h.2.2 hn
    exact ⟨b, o, e, h1, Nat.lt_of_lt_of_le h2 hb.size, fun i hi => ⟨(hb.cell (p := ⟨b, o + i, none⟩) (Nat.lt_of_lt_of_le h2 hB)).trans (hc i hi).1, (hb.frozen (p := ⟨b, o + i, none⟩) (Nat.lt_of_lt_of_le h2 hB)).trans (hc i hi).2⟩⟩⟩
theorem VRow.grownR {r : Option Nat} (h : VRow w A n c g) (gr : w.grownBy w' r) (hne : ∀ b, 0 < n → blk A = some b → r = some b → False) : VRow w' A n c g :=
  ⟨h.1, h.2.1, fun hn => by
    obtain ⟨b, o, e, h2, hc⟩ := h.2.2 hn
    have hb := gr.block b h2 (fun e' => hne b hn (by rw [e]; rfl) e'.symm)
    exact ⟨b, o, e, Nat.lt_of_lt_of_le h2 gr.size, fun i hi => (World.cell?_of_block (a := ⟨b, o + i, none⟩) hb).trans (hc i hi)⟩⟩
theorem VOwn.grownR {r : Option Nat} (h : VOwn w base A n c g) (gr : w.grownBy w' r) (hne : ∀ b, 0 < n → blk A = some b → r = some b → False) : VOwn w' base A n c g :=
  ⟨h.1, h.2.1, fun hn => by
    obtain ⟨b, o, e, h1, h2, hc⟩ := h.2.2 hn
    have hb := gr.block b h2 (fun e' => hne b hn (by rw [e]; rfl) e'.symm)
    exact ⟨b, o, e, h1, Nat.lt_of_lt_of_le h2 gr.size, fun i hi => ⟨(World.cell?_of_block (a := ⟨b, o + i, none⟩) hb).trans (hc i hi).1, (World.frozen?_of_block (a := ⟨b, o + i, none⟩) hb).trans (hc i hi).2⟩⟩⟩
theorem VRow.blk_lt (h : VRow w A n c g) : 0 < n → ∀ b, blk A = some b → b < w.heap.size := fun hn b hb => by
  obtain ⟨b', o, e, h2, _⟩ := h.2.2 hn
  rw [e] at hb
  simp [blk] at hb
  omega
theorem VOwn.blk_ge (h : VOwn w base A n c g) : 0 < n → ∀ b, blk A = some b → base ≤ b := fun hn b hb => by
  obtain ⟨b', o, e, h2, _⟩ := h.2.2 hn
  rw [e] at hb
  simp [blk] at hb
  omega
theorem markedV_below {r : Option Nat} {B : Nat} (h : w.grownBy w' r) (hr : ∀ b, r = some b → 0 < n ∧ blk A = some b) (ho : VOwn w base A n c g) (hb : B ≤ base) (hs : base ≤ w.heap.size) : Below B w w' :=
  (Below.refl B w).grown h (Nat.le_trans hb hs) (fun b e => by
    obtain ⟨hn, hA⟩ := hr b e
    have := ho.blk_ge hn b hA
    omega)
end
theorem infoStr : (Tryd.prog.info? 9).map (fun i => (i.zero, i.size, i.bytes)) = some (some (.string ⟨#[]⟩), 1, 16) := by kernel_rfl
theorem sp_slice {w : World} {base n s : Nat} {e : TypeId} {v : Value} {xs : List Value} (h : w.ownsRow base e s v n xs) : ∃ A c, v = .slice A n c := by
  rcases h.2 with ⟨rfl, rfl⟩ | ⟨g, cap, cur, rfl, _⟩
  · exact ⟨none, 0, rfl⟩
  · exact ⟨_, cap, rfl⟩
theorem sp_below {wr wa : World} {base n s : Nat} {e : TypeId} {v : Value} {xs : List Value} (h : wr.ownsRow base e s v n xs) (hb : Below wr.heap.size wr wa) : wa.ownsRow base e s v n xs :=
  h.kept (grown_of_below (r := none) hb) (by by_cases e : v.ownBlock = none <;> simp [e])
theorem sp_new0 {X : World} {e : TypeId} {s base p : Nat} (hp : X.heap.size = p) (hb : base ≤ p) : (X.alloc (.cells #[] e)).ownsRow base e s (.slice (some ⟨p, 0, none⟩) 0 0) 0 [] := by
  subst hp
  exact World.ownsRow_lit (size := s) _ #[] 0 hb (Nat.zero_le _) (by simp)
theorem vown_of {w : World} {base base' : Nat} {A : Option Addr} {n c : Nat} {T : TypeId} {l : List ByteArray} (h : w.ownsRow base T 1 (.slice A n c) n (l.map Value.string)) (hb : base' ≤ base) (hn : n ≤ maxLen) : VOwn w base' A n c (fun i => .string (l.getD i ⟨#[]⟩)) := by
  have hl : l.length = n := by have := h.1; simpa using this
  rcases h.2 with ⟨e, rfl⟩ | ⟨b, cap, cur, e, hb', hgb, hnc, hcm, hcs, ht⟩
  · cases e
    exact ⟨Nat.le_refl _, Nat.zero_le _, fun h => absurd h (by omega)⟩
  · cases e
    refine ⟨hnc, hcm, fun hn' => ⟨b, 0, rfl, by omega, (Array.getElem?_eq_some_iff.1 hgb).1, fun i hi => ⟨?_, ?_⟩⟩⟩
    · rw [Nat.zero_add, h.cellAt i (by omega)]
      simp [List.getD_eq_getElem?_getD, List.getElem?_eq_getElem (show i < l.length by omega)]
    · rw [Nat.zero_add]
      exact h.frozenAt i
def digU (k : Nat) : UInt8 := UInt8.ofNat (48 + k % 10)
/-- the digits of a number ahead of a text -/
def dgt (k : Nat) (s : ByteArray) : ByteArray := if h : k = 0 then s else dgt (k / 10) (⟨#[digU k]⟩ ++ s)
termination_by k
decreasing_by omega
theorem dgt_zero (s : ByteArray) : dgt 0 s = s := by unfold dgt; rw [dif_pos rfl]
theorem dgt_step {k : Nat} (s : ByteArray) (h : 0 < k) : dgt k s = dgt (k / 10) (⟨#[digU k]⟩ ++ s) := by
  conv => lhs; unfold dgt
  rw [dif_neg (by omega)]
/-- the text that marks with k -/
def mkT (k : Int) : ByteArray := if k ≤ 0 then ⟨#[109, 48]⟩ else ⟨#[109]⟩ ++ dgt k.toNat ⟨#[]⟩
theorem markText_is (w : World) (k : Int) (h : k ≤ 4194304) : Calls Tryd.prog 48 #[.int .i64 k] w (Gives (.string (mkT k)) w) := by
  by_cases h0 : k ≤ 0
  · have e : mkT k = ⟨#[109, 48]⟩ := if_pos h0
    rw [e]
    clear e
    go_enter Tryd.func48, Tryd.ntmps48
    go_wp2
    go_ret
    exact ⟨rfl, Below.refl _ _⟩
  · have e : mkT k = ⟨#[109]⟩ ++ dgt k.toNat ⟨#[]⟩ := if_neg h0
    rw [e]
    clear e
    obtain ⟨m, rfl⟩ : ∃ m : Nat, k = m := ⟨k.toNat, by omega⟩
    rw [Int.toNat_natCast]
    obtain ⟨R, hR⟩ : ∃ R, dgt m ⟨#[]⟩ = R := ⟨_, rfl⟩
    rw [hR]
    have HR := Lib.hid hR
    clear hR
    go_enter Tryd.func48, Tryd.ntmps48
    go_wp2
    go_loopw [0, 3] (fun kv sv wr => ∃ (j : Nat) (s : ByteArray), kv = .int .i64 j ∧ sv = .string s ∧ Hid (dgt j s = R) ∧ s.size + j ≤ m ∧ Hid (Below w.heap.size w wr)) (fun kv _ _ => (intOf kv).toNat)
    case atStart => exact ⟨m, ⟨#[]⟩, rfl, rfl, HR, by show 0 + m ≤ m; omega, Lib.hid (Below.refl _ _)⟩
    case round =>
      obtain ⟨j, s, rfl, rfl, HS, hle, HB⟩ := hrel
      by_cases hj : 0 < j
      · have hst := dgt_step s hj
        have HD := Lib.hid (hst.symm.trans HS.out)
        clear hst
        have hr0 : (0 : Int) ≤ (j : Int) % 10 := by omega
        have hr1 : (j : Int) % 10 < 10 := by omega
        have hcv : (convert 38 9 (.slice (some ⟨wr.heap.size, 0, none⟩) 1 1)).run Tryd.prog (wr.alloc (.cells #[.int .u8 (48 + (j : Int) % 10)] 5)) = .ok (.string ⟨#[digU j]⟩) (wr.alloc (.cells #[.int .u8 (48 + (j : Int) % 10)] 5)) :=
          run_convert_bytes_back _ _ _ 5 _ 1 [digU j] Tryd.underlying38 Tryd.underlying5 Tryd.underlying9 (fun i hi => by
            obtain rfl : i = 0 := by simp at hi; exact hi
            have e : ((digU j).toNat : Int) = 48 + (j : Int) % 10 := by
              unfold digU
              rw [UInt8.toNat_ofNat']
              omega
            simp only [List.getElem_cons_zero, e]
            simp [Addr.add])
        have hsz : ((⟨#[digU j]⟩ : ByteArray) ++ s).size = 1 + s.size := by rw [ByteArray.size_append]; rfl
        have HZ := Lib.hid hsz
        clear hsz
        go_wp2
        go_roundw
        case rel => exact ⟨j / 10, _, by go_num, rfl, HD, by rw [HZ.out]; omega, Lib.hid (HB.out.alloc HB.out.size _)⟩
        case measure => simp [intOf]; omega
      · obtain rfl : j = 0 := by omega
        have hs : s = R := (dgt_zero s).symm.trans HS.out
        subst hs
        go_wp2
        go_ret
        exact ⟨rfl, HB.out⟩

theorem eqStrings_same (w : World) (A A' : Option Addr) (n c c' : Nat) (g : Nat → ByteArray) (hr : VRow w A n c (fun i => .string (g i))) (hr' : VRow w A' n c' (fun i => .string (g i))) :
    Calls Tryd.prog 13 #[.slice A n c, .slice A' n c'] w (Gives (.bool true) w) := by
  obtain ⟨hnc, hcm, hcell⟩ := hr
  obtain ⟨hnc', hcm', hcell'⟩ := hr'
  unfold maxLen at hcm hcm'
  have hn : ((n : Int) != (n : Int)) = false := by simp
  go_enter Tryd.func13, Tryd.ntmps13
  go_wp2
  go_loopw [5] (fun i wr => ∃ k m : Nat, k ≤ n ∧ i = .int .i64 k ∧ wr = w.drewN m) (fun i _ => n - (intOf i).toNat)
  case atStart => exact ⟨0, 0, Nat.zero_le _, rfl, rfl⟩
  case round =>
    obtain ⟨k, m, hk, rfl, rfl⟩ := hrel
    by_cases hlt : k < n
    · obtain ⟨b, o, rfl, hbl, hc⟩ := hcell (by omega)
      obtain ⟨b', o', rfl, hbl', hc'⟩ := hcell' (by omega)
      have hck := hc k hlt
      have hck' := hc' k hlt
      clear hc hc' hcell hcell'
      generalize g k = t at *
      have heb' : (t.toList != t.toList) = false := by simp
      have heb : (t.toList == t.toList) = true := by simp
      go_wp2
      go_quiet (fail)
      go_wp2
      go_roundw
      case rel => exact ⟨k + 1, _, by omega, by go_num, rfl⟩
      case measure => simp [intOf]; omega
    · clear hcell hcell'
      go_wp2
      go_ret
      exact ⟨rfl, below_drewN (Below.refl _ _) _⟩
def MarkedV (base : Nat) (A : Option Addr) (n c : Nat) (k : Int) (w : World) (e : Ending) (w' : World) : Prop :=
  e = .returned (.int .i64 (k + n)) ∧ VOwn w' base A n c (fun i => .string (mkT (k + i))) ∧ Below base w w' ∧ ∃ r, w.grownBy w' r ∧ ∀ b, r = some b → 0 < n ∧ blk A = some b
theorem markS_any (w : World) (base : Nat) (A : Option Addr) (n c : Nat) (g : Nat → ByteArray) (k : Int) (hr : VOwn w base A n c (fun i => .string (g i))) (hB : base ≤ w.heap.size) (k0 : 0 ≤ k) (k1 : k + n ≤ 4194304) :
    Calls Tryd.prog 17 #[.slice A n c, .int .i64 k] w (MarkedV base A n c k w) := by
  obtain ⟨hnc, hcm, hcell⟩ := hr
  unfold maxLen at hcm
  by_cases hn : 0 < n
  · obtain ⟨b, o, rfl, hb, hlt, hc⟩ := hcell hn
    have HC := Lib.hid hc
    clear hc hcell
    go_enter Tryd.func17, Tryd.ntmps17
    go_wp2
    go_loopw [1, 5] (fun s i wr => ∃ j : Nat, j ≤ n ∧ i = .int .i64 j ∧ s = .int .i64 (k + j) ∧ Hid (∀ i, i < n → wr.cell? ⟨b, o + i, none⟩ = some (.string (if i < j then mkT (k + i) else g i)) ∧ wr.frozen? ⟨b, o + i, none⟩ = false) ∧ w.grownBy wr (some b))
      (fun _ i _ => n - (intOf i).toNat)
    case atStart => exact ⟨0, Nat.zero_le _, rfl, by go_num, Lib.hid (fun i hi => by simpa using HC.out i hi), World.grownBy.refl _ _⟩
    case round =>
      obtain ⟨j, hj, rfl, rfl, HW, hg⟩ := hrel
      by_cases hlt2 : j < n
      · have hgz := hg.size
        go_wp2_with fail
        refine (markText_is _ (k + j) (by omega)).mono ?_
        rintro e w1 ⟨rfl, b1⟩
        have hblt : b < wr.heap.size := by omega
        have HW1 := Lib.hid (show ∀ i, i < n → w1.cell? ⟨b, o + i, none⟩ = some (.string (if i < j then mkT (k + i) else g i)) ∧ w1.frozen? ⟨b, o + i, none⟩ = false from fun i hi =>
          ⟨(b1.cell (p := ⟨b, o + i, none⟩) hblt).trans (HW.out i hi).1, (b1.frozen (p := ⟨b, o + i, none⟩) hblt).trans (HW.out i hi).2⟩)
        have hg1 := grown_trans hg (grown_of_below (r := some b) b1)
        obtain ⟨c1, f1⟩ := HW1.out j hlt2
        have hz1 := b1.size
        clear hg HW b1
        go_wp2
        go_roundw
        case rel =>
          refine ⟨j + 1, by omega, by go_num, by go_num, Lib.hid (fun i hi => ?_), grown_trans hg1 (grown_setCell _)⟩
          obtain ⟨c2, f2⟩ := HW1.out i hi
          refine ⟨?_, by rw [World.frozen?_setCell]; exact f2⟩
          by_cases e : i = j
          · subst e
            rw [World.cell?_setCell_same _ _ _ c1]
            simp
          · rw [World.cell?_setCell_other _ _ _ _ (fun h => e (by injection h; omega)), c2]
            by_cases h : i < j
            · rw [if_pos h, if_pos (by omega)]
            · rw [if_neg h, if_neg (by omega)]
        case measure => simp [intOf]; omega
      · have e : j = n := by omega
        go_wp2
        go_ret
        have hown : VOwn wr base (some ⟨b, o, none⟩) n c (fun i => .string (mkT (k + i))) :=
          ⟨hnc, by unfold maxLen; omega, fun _ => ⟨b, o, rfl, hb, Nat.lt_of_lt_of_le hlt hg.size, fun i hi => ⟨by rw [(HW.out i hi).1, if_pos (by omega)], (HW.out i hi).2⟩⟩⟩
        exact ⟨ret_int (by rw [e]), hown, (Below.refl base w).grown hg hB (fun b' e => by injection e; omega), some b, hg, fun b' e => ⟨hn, e⟩⟩
  · have e : n = 0 := by omega
    subst e
    clear hcell
    go_enter Tryd.func17, Tryd.ntmps17
    go_wp2
    go_loop [1, 5] (fun s i => i = .int .i64 0 ∧ s = .int .i64 k) (fun _ _ => 0)
    case atStart => exact ⟨rfl, rfl⟩
    case round =>
      obtain ⟨rfl, rfl⟩ := hrel
      go_wp2
      go_ret
      exact ⟨ret_int (by simp), ⟨hnc, by unfold maxLen; omega, fun h => absurd h (by omega)⟩, Below.refl _ _, none, World.grownBy.refl _ _, fun b e => by cases e⟩
end Go.Proofs.YtdofeonkgaceeacDoor.Base
