/-
  The program's ReadPicture: the panel with a picture, or the code.
-/
import Derived.Test.YtdofeonkgaceeacDoorPrp
namespace Go.Proofs.YtdofeonkgaceeacDoor.Base
open Go Go.RowKit
open Go.PlainAid (bt get_bt bt_nonneg bt_le)
set_option linter.unusedVariables false
set_option linter.unusedSimpArgs false

/-- what ReadPicture leaves -/
def RdpOut (n : Nat) (g : Nat → ByteArray) (w : World) (e : Ending) (w' : World) : Prop :=
  ∃ q y x : Int, FltIs n g q y x ∧ Below w.heap.size w w' ∧
    ((q ≠ 0 ∧ e = .returned (.tuple #[.agg #[.int .i64 0, .int .i64 0, .slice none 0 0], .int .i64 8])) ∨
     (q = 0 ∧ ∃ u L, L = allL (((g 0).size / 2 : Nat) : Int) ((n / 2 : Nat) : Int) (g 0).size g n ∧ e = .returned (.tuple #[.agg #[.int .i64 (((g 0).size / 2 : Nat) : Int), .int .i64 ((n / 2 : Nat) : Int), u], .int .i64 0]) ∧ w'.ownsRow w.heap.size 2 1 u L.length L))
set_option maxHeartbeats 4000000 in
set_option maxRecDepth 100000 in
theorem impl_ReadPicture (w : World) (A : Option Addr) (n c : Nat) (g : Nat → ByteArray) (hr : VRow w A n c (fun i => .string (g i))) (hn : n ≤ 1048576) (hg : ∀ i, i < n → (g i).size ≤ 1048576) (tt : TypeId) (p : Int → Value) (hE : Ers tt p w) :
    Calls Tryd.prog 15 #[.slice A n c] w (RdpOut n g w) := by
  have b0 := (Below.refl w.heap.size w).alloc (Nat.le_refl _) (.cells #[.int .i64 0, .int .i64 0, .slice none 0 0] 33)
  have HP := Lib.hid (impl_readPicture (w.alloc (.cells #[.int .i64 0, .int .i64 0, .slice none 0 0] 33)) A n c g (hr.below b0 (Nat.le_refl _)) hn hg tt p (hE.below b0 (Nat.le_refl _)))
  have HL0 := Lib.hid b0
  have HZ0 := Lib.hid (At.new w #[.int .i64 0, .int .i64 0, .slice none 0 0] 33)
  clear b0 hr hE hn hg
  go_enter Tryd.func15, Tryd.ntmps15
  go_wp2_with fail
  refine HP.out.mono ?_
  rintro e w1 ⟨q, y, x, hF, hb, ho⟩
  have HF := Lib.hid hF
  have HB := Lib.hid hb
  have hz := HZ0.out.below hb (by simp)
  have hsz := hb.size
  simp only [World.size_alloc] at hsz
  clear hF hb HP
  rcases ho with ⟨hq, rfl⟩ | ⟨rfl, u, L, hL, rfl, how⟩
  · have HQ := Lib.hid hq
    clear hq
    have b2 := (HL0.out.trans (HB.out.mono (by simp))).alloc (by omega) (.cells #[.int .i64 0, .int .i64 0, .slice none 0 0] 33)
    obtain ⟨z0, z1, z2, f0, f1, f2, hB, hzz⟩ := out_cells (HB.out.alloc (by simp; omega) (.cells #[.int .i64 0, .int .i64 0, .slice none 0 0] 33))
    clear hz b2
    go_wp2
    refine bodyPost_ret ?_ rfl ⟨q, y, x, HF.out, ((hB.setCell (by simp) _).setCell (by simp) _).setCell (by simp) _, .inl ⟨HQ.out, rfl⟩⟩
    simp [results, Tryd.results15, go_sem, z0, z1, z2]
  · obtain ⟨uA, uc, rfl⟩ : ∃ A' c', u = .slice A' L.length c' := (by
      rcases how.2 with ⟨rfl, h⟩ | ⟨g', cap, cur, rfl, -⟩
      · exact ⟨none, 0, by rw [h]⟩
      · exact ⟨_, _, rfl⟩)
    have HLL := Lib.hid hL
    generalize ha : (((g 0).size / 2 : Nat) : Int) = a at *
    generalize hb : ((n / 2 : Nat) : Int) = b at *
    have HA := Lib.hid ha
    have HBb := Lib.hid hb
    clear ha hb
    have HOW := Lib.hid (sp_below (owns_base2 (base' := w.heap.size + 1) how (by simp)) ((Below.refl _ w1).alloc (Nat.le_refl _) (.cells #[.int .i64 a, .int .i64 b, .slice uA L.length uc] 33)))
    obtain ⟨z0, z1, z2, f0, f1, f2, hB, hzz⟩ := out_cells (HB.out.alloc (by simp; omega) (.cells #[.int .i64 a, .int .i64 b, .slice uA L.length uc] 33))
    have hn1 : ¬ (w.heap.size = w1.heap.size) := by omega
    have hn2 : ¬ (w1.heap.size = w.heap.size) := by omega
    clear hz how hL
    go_wp2
    refine bodyPost_ret ?_ rfl ⟨0, y, x, HF.out, ?_, .inr ⟨rfl, .slice uA L.length uc, L, ?_, rfl, ?_⟩⟩
    · rw [HA.out, HBb.out]
      simp [results, Tryd.results15, go_sem, z0, z1, z2, hn1, hn2]
    · exact ((hB.setCell (p := ⟨w.heap.size, 0, none⟩) (Nat.le_refl _) _).setCell (p := ⟨w.heap.size, 1, none⟩) (Nat.le_refl _) _).setCell (p := ⟨w.heap.size, 2, none⟩) (Nat.le_refl _) _
    · rw [HA.out, HBb.out]
      exact HLL.out
    · exact owns_base2 (base := w.heap.size + 1) (owns_set (owns_set (owns_set HOW.out (Nat.lt_succ_self _)) (Nat.lt_succ_self _)) (Nat.lt_succ_self _)) (Nat.le_succ _)
end Go.Proofs.YtdofeonkgaceeacDoor.Base
