/-
  impl's numberBefore: the number ahead of a byte.
-/
import Derived.Test.YtocnocchliihhaaDoorBkw
import Derived.Test.YtocnocchliihhaaDoorRdi
import Derived.Laws.IdiomStrings
namespace Go.Proofs.YtocnocchliihhaaDoor.Base
open Go Go.RowKit
open Go.PlainAid (bt get_bt bt_nonneg bt_le)
set_option linter.unusedVariables false
set_option linter.unusedSimpArgs false

/-- the cells of block g from place o on are the bytes of s from place d on, to its end -/
def BSl (w : World) (g o n : Nat) (s : ByteArray) (d : Nat) : Prop :=
  g < w.heap.size ∧ d + n = s.size ∧ ∀ i, i < n → w.cell? ⟨g, o + i, none⟩ = some (.int .u8 (bt s (d + i)))
theorem BSl.below {w w' : World} {g o n : Nat} {s : ByteArray} {d B : Nat} (h : BSl w g o n s d) (hb : Below B w w') (hB : g < B) : BSl w' g o n s d :=
  ⟨Nat.lt_of_lt_of_le h.1 hb.size, h.2.1, fun i hi => (hb.cell (p := ⟨g, o + i, none⟩) hB).trans (h.2.2 i hi)⟩
theorem BSl.tail {w : World} {g o n : Nat} {s : ByteArray} {d k : Nat} (h : BSl w g o n s d) (hk : k + 1 ≤ n) : BSl w g (o + (k + 1)) (n - (k + 1)) s (d + (k + 1)) :=
  ⟨h.1, by have := h.2.1; omega, fun i hi => by have := h.2.2 (k + 1 + i) (by omega); rw [← Nat.add_assoc, ← Nat.add_assoc] at this; rw [Nat.add_assoc o, Nat.add_assoc d] at *; simpa [Nat.add_assoc] using this⟩
def bxs (s : ByteArray) (d n : Nat) : List Int := (List.range n).map fun i => bt s (d + i)
theorem bxs_len (s : ByteArray) (d n : Nat) : (bxs s d n).length = n := by simp [bxs]
theorem bxs_at (s : ByteArray) (d n i : Nat) (h : i < n) : (Lib.bytesOf (bxs s d n))[i]? = some (UInt8.ofNat (bt s (d + i)).toNat) := by
  simp [Lib.bytesOf, bxs, List.getElem?_range h]
theorem u8_eq {a b : Int} (a0 : 0 ≤ a) (a1 : a ≤ 255) (b0 : 0 ≤ b) (b1 : b ≤ 255) (h : UInt8.ofNat a.toNat = b.toNat.toUInt8) : a = b := by
  have := congrArg UInt8.toNat h
  simp at this
  omega
theorem ix_hit (s : ByteArray) (d n k : Nat) (c : Int) (c0 : 0 ≤ c) (c1 : c ≤ 255) (hk : k < n) (h1 : ∀ i, i < k → bt s (d + i) ≠ c) (h2 : bt s (d + k) = c) : Lib.indexByte (Lib.bytesOf (bxs s d n)) c.toNat.toUInt8 = k := by
  refine indexByte_first _ _ k (fun j hj e => ?_) ?_
  · rw [bxs_at s d n j (by omega)] at e
    injection e with e
    exact h1 j hj (u8_eq (bt_nonneg _ _) (bt_le _ _) c0 c1 e)
  · rw [bxs_at s d n k hk, h2]
theorem ix_miss (s : ByteArray) (d n : Nat) (c : Int) (c0 : 0 ≤ c) (c1 : c ≤ 255) (h1 : ∀ i, i < n → bt s (d + i) ≠ c) : Lib.indexByte (Lib.bytesOf (bxs s d n)) c.toNat.toUInt8 = -1 := by
  refine indexByte_none _ _ (fun j e => ?_)
  by_cases hj : j < n
  · rw [bxs_at s d n j hj] at e
    injection e with e
    exact h1 j hj (u8_eq (bt_nonneg _ _) (bt_le _ _) c0 c1 e)
  · rw [List.getElem?_eq_none (by rw [Lib.bytesOf_length, bxs_len]; omega)] at e
    cases e
/-- the library's tables and errors -/
def Lv (w : World) (tS : TypeId) (pS : Value) (tR : TypeId) (pR : Value) : Prop :=
  Lib.TabIs Tryd.prog w "internal/strconv.uint64pow10" .u64 Lib.pow10Tab ∧ w.var? Tryd.prog "strconv.ErrSyntax" = some #[.iface tS pS] ∧ w.var? Tryd.prog "strconv.ErrRange" = some #[.iface tR pR]
theorem Lv.below {w w' : World} {tS tR : TypeId} {pS pR : Value} (h : Lv w tS pS tR pR) (hb : Below w.heap.size w w') : Lv w' tS pS tR pR :=
  ⟨tab_below h.1 hb, var_below h.2.1 hb, var_below h.2.2 hb⟩
theorem nb_index (w : World) (g o n c : Nat) (s : ByteArray) (d : Nat) (cv : Int) (h : BSl w g o n s d) (m : Int) (hm : Lib.indexByte (Lib.bytesOf (bxs s d n)) cv.toNat.toUInt8 = m) :
    Calls Tryd.prog 113 #[.slice (some ⟨g, o, none⟩) n c, .int .u8 cv] w fun e w' => e = .returned (.int .i64 m) ∧ w = w' :=
  (Tryd.bytes_IndexByte g o n c (bxs s d n) cv w (bxs_len s d n) (fun i hi => by
    rw [h.2.2 i hi]
    simp [bxs, List.getD_eq_getElem?_getD, List.getElem?_range hi])).mono fun e w' ⟨h1, h2⟩ => ⟨by rw [h1, hm], h2.symm⟩
/-- none -/
theorem nb_miss (w : World) (g o n c : Nat) (s : ByteArray) (d : Nat) (cv : Int) (c0 : 0 ≤ cv) (c1 : cv ≤ 255) (h : BSl w g o n s d) (h1 : ∀ i, i < n → bt s (d + i) ≠ cv) :
    Calls Tryd.prog 76 #[.slice (some ⟨g, o, none⟩) n c, .int .u8 cv] w fun e w' => e = .returned (.tuple #[.int .i64 0, .slice none 0 0]) ∧ w = w' := by
  have HX := Lib.hid (nb_index w g o n c s d cv h (-1) (ix_miss s d n cv c0 c1 h1))
  clear h h1
  go_enter Tryd.func76, Tryd.ntmps76
  go_wp2_with fail
  refine HX.out.mono ?_
  rintro e w' ⟨rfl, rfl⟩
  go_wp2
  go_ret2
  exact ⟨rfl, rfl⟩
theorem nb_nil (w : World) (cv : Int) :
    Calls Tryd.prog 76 #[.slice none 0 0, .int .u8 cv] w fun e w' => e = .returned (.tuple #[.int .i64 0, .slice none 0 0]) ∧ w = w' := by
  have HX := Lib.hid (Tryd.bytes_IndexByte_nil cv w)
  go_enter Tryd.func76, Tryd.ntmps76
  go_wp2_with fail
  refine HX.out.mono ?_
  rintro e w' ⟨rfl, h⟩
  subst h
  go_wp2
  go_ret2
  exact ⟨rfl, rfl⟩
/-- the number ahead, and what is behind -/
def NbHit (s : ByteArray) (d k g o n : Nat) (w : World) (e : Ending) (w' : World) : Prop :=
  ∃ v b A c', e = .returned (.tuple #[.int .i64 v, .slice A (n - (k + 1)) c']) ∧ RDans (s.extract d (d + k)) v b ∧ (∃ o', A = some ⟨g, o', none⟩ ∧ (0 < n - (k + 1) → o' = o + (k + 1))) ∧ n - (k + 1) ≤ c' ∧ c' ≤ maxLen ∧ Below w.heap.size w w'
set_option maxHeartbeats 1000000 in
set_option maxRecDepth 100000 in
theorem nb_hit (w : World) (g o n c : Nat) (s : ByteArray) (d k : Nat) (cv : Int) (c0 : 0 ≤ cv) (c1 : cv ≤ 255) (hs : s.size ≤ 1048576) (hnc : n ≤ c) (hcm : c ≤ maxLen) (h : BSl w g o n s d) (hk : k < n) (h1 : ∀ i, i < k → bt s (d + i) ≠ cv) (h2 : bt s (d + k) = cv)
    (tS : TypeId) (pS : Value) (tR : TypeId) (pR : Value) (hL : Lv w tS pS tR pR) :
    Calls Tryd.prog 76 #[.slice (some ⟨g, o, none⟩) n c, .int .u8 cv] w (NbHit s d k g o n w) := by
  have HX := Lib.hid (nb_index w g o n c s d cv h k (ix_hit s d n k cv c0 c1 hk h1 h2))
  have hsz := h.2.1
  have hl : (s.extract d (d + k)).data.toList.length = k := by
    rw [Array.length_toList]
    show (s.extract d (d + k)).size = k
    rw [ByteArray.size_extract]
    omega
  have hcv := run_convert_bytes_back (P := Tryd.prog) w 22 9 5 ⟨g, o, none⟩ c (s.extract d (d + k)).data.toList Tryd.underlying22 Tryd.underlying5 Tryd.underlying9 (fun j hj => by
    have hj' : j < k := by omega
    have e0 : ((⟨g, o, none⟩ : Addr).add j) = ⟨g, o + j, none⟩ := by simp [Addr.add]
    have e1 := extract_bt s d (d + k) j (by omega) (by omega)
    have e2 := get_bt (s.extract d (d + k)) j (by rw [ByteArray.size_extract]; omega)
    rw [e0, h.2.2 j (by omega), ← e1, ← e2]
    rfl)
  rw [hl] at hcv
  have HL := Lib.hid hL
  unfold maxLen at hcm
  have hm63 : (c : Int) ≤ 9223372036854775807 := by omega
  have hz : (s.extract d (d + k)).size ≤ 1048576 := by rw [ByteArray.size_extract]; omega
  generalize hx : s.extract d (d + k) = x at *
  have HXe := Lib.hid hx
  clear hx
  have hx2 : (⟨x.data.toList.toArray⟩ : ByteArray) = x := by simp
  rw [hx2] at hcv
  clear hx2 hL h h1 h2 hl
  have hkn : k + 1 ≤ n := hk
  have f1 : (k : Int) ≤ (c : Int) := by omega
  have f2 : ((k : Int) + 1) ≤ (n : Int) := by omega
  have f3 : ((k : Int) + 1) ≤ (c : Int) := by omega
  go_enter Tryd.func76, Tryd.ntmps76
  go_wp2_with fail
  refine HX.out.mono ?_
  rintro e w' ⟨rfl, rfl⟩
  go_wp2_with fail
  refine (impl_readDecimal x w hz HL.out.1 tS pS HL.out.2.1 tR pR HL.out.2.2).mono ?_
  rintro e w1 ⟨v, b, rfl, hr, b1⟩
  have HR := Lib.hid hr
  clear hr hcv
  go_wp2
  have f4 : ((n : Int) - ((k : Int) + 1)).toNat = n - (k + 1) := by omega
  have f5 : ((c : Int) - ((k : Int) + 1)).toNat = c - (k + 1) := by omega
  have f6 : ((k : Int) + 1).toNat = k + 1 := by omega
  go_quiet (fail)
  go_wp2
  all_goals
    go_ret2
    exact ⟨v, b, _, _, rfl, by rw [HXe.out]; exact HR.out, ⟨_, rfl, fun h => by first | rfl | (exfalso; omega)⟩, by omega, by unfold maxLen; omega, below_drewN b1 nq⟩
end Go.Proofs.YtocnocchliihhaaDoor.Base
