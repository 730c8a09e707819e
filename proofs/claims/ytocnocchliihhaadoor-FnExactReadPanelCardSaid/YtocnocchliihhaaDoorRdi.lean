/-
  Reading numerals: the program's contract.
-/
import Derived.Test.YtocnocchliihhaaDoorRds
import Derived.Test.YtocnocchliihhaaDoorDci
namespace Go.Proofs.YtocnocchliihhaaDoor.Base
open Go Go.RowKit
set_option linter.unusedVariables false
set_option linter.unusedSimpArgs false

theorem var_below {w w1 : World} {nm : String} {cs : Array Value} (h : w.var? Tryd.prog nm = some cs) (hb : Below w.heap.size w w1) : w1.var? Tryd.prog nm = some cs := by
  unfold World.var? at h ⊢
  cases hg : Tryd.prog.globalNamed nm with
  | none => simp [hg] at h
  | some g =>
    simp only [hg, Option.bind_some] at h ⊢
    have hlt : g < w.heap.size := by
      rcases Nat.lt_or_ge g w.heap.size with h' | h'
      · exact h'
      · rw [Array.getElem?_eq_none h'] at h; cases h
    rw [hb.block g hlt]
    exact h

set_option maxHeartbeats 1000000 in
theorem impl_readDecimal (s : ByteArray) (w : World) (hs : s.size ≤ 1048576) (hT : Lib.TabIs Tryd.prog w "internal/strconv.uint64pow10" .u64 Lib.pow10Tab) (tS : TypeId) (pS : Value) (hS : w.var? Tryd.prog "strconv.ErrSyntax" = some #[.iface tS pS]) (tR : TypeId) (pR : Value) (hR : w.var? Tryd.prog "strconv.ErrRange" = some #[.iface tR pR]) :
    Calls Tryd.prog 114 #[.string s] w (RDp s w) := by
  have HT := Lib.hid hT
  have HS := Lib.hid hS
  have HR := Lib.hid hR
  clear hT hS hR
  cases hp : Lib.parseIntB 64 s.data.toList with
  | «syntax» =>
    have HN := Lib.hid (show ∀ n, ¬ RDok s n from fun n h => by have := rd_parse h; rw [hp] at this; cases this)
    have HP := Lib.hid hp
    clear hp
    go_enter Tryd.func114, Tryd.ntmps114
    go_wp2_with fail
    refine (Tryd.strconv_ParseInt_10_at64_syntax_var s (by omega) HP.out _ _ _ HS.out).mono ?_
    rintro e w1 ⟨N, rfl, h1, h2, hb⟩
    clear h2
    go_wp2
    go_ret2
    exact ⟨0, false, rfl, .inr ⟨rfl, rfl, HN.out⟩, hb⟩
  | range =>
    have HN := Lib.hid (show ∀ n, ¬ RDok s n from fun n h => by have := rd_parse h; rw [hp] at this; cases this)
    have HP := Lib.hid hp
    clear hp
    go_enter Tryd.func114, Tryd.ntmps114
    go_wp2_with fail
    refine (Tryd.strconv_ParseInt_10_at64_range_var s (by omega) HP.out _ _ _ HR.out).mono ?_
    rintro e w1 ⟨N, rfl, h1, h2, hb⟩
    clear h2
    generalize Lib.intSat 64 s.data.toList = z at *
    go_wp2
    go_ret2
    exact ⟨0, false, rfl, .inr ⟨rfl, rfl, HN.out⟩, hb⟩
  | ok v =>
    obtain ⟨v0, v1⟩ := Lib.parseIntB_bounds hp
    have e63 : ((2 ^ (64 - 1) : Nat) : Int) = 9223372036854775808 := by decide
    rw [e63] at v0 v1
    have HUN := Lib.hid (show ∀ n, RDok s n → n = v from fun n h => by have := rd_parse h; rw [hp] at this; injection this with e; exact e.symm)
    have HP := Lib.hid hp
    clear hp e63
    go_enter Tryd.func114, Tryd.ntmps114
    go_wp2_with fail
    refine (Tryd.strconv_ParseInt_10_at64_ok s (by omega) v HP.out _).mono ?_
    rintro e w1 ⟨rfl, hw⟩
    have hb : Below w.heap.size w w1 := by
      rcases hw with rfl | ⟨t, rfl⟩
      · exact Below.refl _ _
      · exact Lib.bytesWorld_below _ _ _
    have HB := Lib.hid hb
    have HT1 := Lib.hid (tab_below HT.out hb)
    clear hw hb
    by_cases hlim : -1000000000000000000 < v ∧ v < 1000000000000000000
    · obtain ⟨l0, l1⟩ := hlim
      by_cases hq : decS v = s
      · have hqb := eq_bytes hq
        have HQ := Lib.hid hq
        clear hq
        go_wp2_with fail
        refine (impl_decimal v (by omega) (by omega) _ HT1.out).mono ?_
        rintro e w2 ⟨rfl, hb2⟩
        go_wp2
        go_ret2
        exact ⟨v, true, rfl, .inl ⟨rfl, l0, l1, HQ.out⟩, HB.out.trans (hb2.mono HB.out.size)⟩
      · have hqb := ne_bytes hq
        have HQ := Lib.hid hq
        clear hq
        go_wp2_with fail
        refine (impl_decimal v (by omega) (by omega) _ HT1.out).mono ?_
        rintro e w2 ⟨rfl, hb2⟩
        go_wp2
        go_ret2
        exact ⟨0, false, rfl, .inr ⟨rfl, rfl, fun n h => HQ.out (by rw [← HUN.out n h]; exact h.2.2)⟩, HB.out.trans (hb2.mono HB.out.size)⟩
    · have HN := Lib.hid (show ∀ n, ¬ RDok s n from fun n h => hlim (by rw [← HUN.out n h]; exact ⟨h.1, h.2.1⟩))
      by_cases h1 : v ≤ -1000000000000000000
      · clear hlim
        go_wp2
        all_goals go_ret2
        all_goals exact ⟨0, false, rfl, .inr ⟨rfl, rfl, HN.out⟩, HB.out⟩
      · have h2 : 1000000000000000000 ≤ v := by omega
        clear hlim
        go_wp2
        all_goals go_ret2
        all_goals exact ⟨0, false, rfl, .inr ⟨rfl, rfl, HN.out⟩, HB.out⟩
end Go.Proofs.YtocnocchliihhaaDoor.Base
