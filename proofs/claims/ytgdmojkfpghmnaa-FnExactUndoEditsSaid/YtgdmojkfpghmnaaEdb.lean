/-
  The edits between two panels: the specification's, the program's.
-/
import Derived.Test.YtgdmojkfpghmnaaEdv
import Derived.Test.YtgdmojkfpghmnaaEdw
import Derived.Test.YtgdmojkfpghmnaaDis
import Derived.Deep.AppendLies
namespace Go.Proofs.Ytgdmojkfpghmnaa.Base
open Go Go.RowKit
set_option linter.unusedVariables false
set_option linter.unusedSimpArgs false

theorem btL_dif (f f' : Nat → Int) : ∀ k, (btL f f' k).length = difN f f' k * 2
  | 0 => rfl
  | k + 1 => by
    have ih := btL_dif f f' k
    by_cases h : f k = f' k
    · rw [btL_same h, dif_same h, ih]
    · rw [btL_other h, dif_other h, List.length_append, ih]
      simp only [List.length_cons, List.length_nil]
      omega
/-- a list of edits that the call has made, from block base on -/
def EdO (N : Nat) (L : List Int) (base : Nat) (w : World) (e : Ending) (w' : World) : Prop :=
  ∃ A c, e = .returned (.slice A N c) ∧ OwnS 2 w' base A N c (fun i => L.getD i 0) ∧ Below base w w'
theorem owns_emptyE (w : World) (s : Nat) (e : TypeId) : (w.alloc (.cells #[] e)).ownsRow w.heap.size e s (.slice (some ⟨w.heap.size, 0, none⟩) 0 0) 0 [] := World.ownsRow_lit (size := s) _ #[] 0 (Nat.le_refl _) (Nat.zero_le _) (by simp)
theorem ivs_two (l : List Int) (a b : Int) : ivs (l ++ [a, b]) = ivs l ++ [.int .i64 a, .int .i64 b] := by simp [ivs]
set_option maxHeartbeats 4000000 in
set_option maxRecDepth 100000 in
theorem spec_between (w : World) (p q : Nat) (W H W' H' : Int) (A A' : Option Addr) (n c n' c' : Nat) (f f' : Nat → Int) (hb : Box w p W H A n c) (hb' : Box w q W' H' A' n' c') (hr : Row .i64 w A n c f) (hr' : Row .i64 w A' n' c' f') (hnn : n ≤ n') (hn : n ≤ 1048576) :
    Calls Try.prog 40 #[.pointer (some ⟨p, 0, none⟩), .pointer (some ⟨q, 0, none⟩)] w (EdO (difN f f' n) (btL f f' n) w.heap.size w) := by
  have hnc := hr.1
  have hcm := hr.2.1
  have hnc' := hr'.1
  have hcm' := hr'.2.1
  unfold maxLen at hcm hcm'
  have HX := Lib.hid hb
  have HY := Lib.hid hb'
  have HR := Lib.hid hr
  have HR' := Lib.hid hr'
  have HWF := Lib.hid hr'.2.2.1
  have hp0 := hb.1
  have hq0 := hb'.1
  obtain ⟨i2, hi2, hz0, hz1, hz2⟩ := info_parts infoEd
  have HO1 := Lib.hid (owns_emptyE w 2 50)
  clear hb hb' hr hr'
  go_enter Try.func40, Try.ntmps40
  go_wp2
  go_loopw [5, 6] (fun u kv wr => ∃ k : Nat, k ≤ n ∧ kv = .int .i64 k ∧ Hid (wr.ownsRow w.heap.size 50 2 u (difN f f' k) (ivs (btL f f' k))) ∧ Hid (Below w.heap.size w wr)) (fun _ kv _ => n - (intOf kv).toNat)
  case atStart => exact ⟨0, Nat.zero_le _, rfl, HO1, Lib.hid ((Below.refl _ _).alloc (Nat.le_refl _) _)⟩
  case round =>
    clear HO1
    obtain ⟨k, hk, rfl, HU, HB⟩ := hrel
    obtain ⟨Ao, co, rfl⟩ := owns_slice HU.out
    have hBz := HB.out.size
    have hdl := difN_le f f' k
    obtain ⟨hp, k0, k1, k2⟩ := HX.out.below HB.out hp0
    obtain ⟨hq, l0, l1, l2⟩ := HY.out.below HB.out hq0
    by_cases hlt : k < n
    · obtain ⟨b, o, rfl, hbl, hc⟩ := (HR.out.below HB.out (Nat.le_refl _)).2.2.2 (by omega)
      obtain ⟨b', o', rfl, hbl', hc'⟩ := (HR'.out.below HB.out (Nat.le_refl _)).2.2.2 (by omega)
      have hck := hc k hlt
      have hck' := hc' k (by omega)
      have hkn' : k < n' := by omega
      clear hc hc'
      by_cases hd : f k = f' k
      · have hb : (f k != f' k) = false := by simp [hd]
        have HD := Lib.hid (btL_same hd)
        have HD2 := Lib.hid (dif_same hd)
        clear hd
        go_wp2_with fail
        go_quiet (fail)
        go_wp2
        go_roundw
        case rel => exact ⟨k + 1, by omega, by go_num, Lib.hid (by rw [HD.out, HD2.out]; exact owns_belowS HU.out (below_drewN (Below.refl wr.heap.size wr) nq)), Lib.hid (below_drewN HB.out nq)⟩
        case measure => simp [intOf]; omega
      · have hb : (f k != f' k) = true := by simp [hd]
        have HD := Lib.hid (btL_other hd)
        have HD2 := Lib.hid (dif_other hd)
        clear hd
        go_wp2_with fail
        go_quiet (fail)
        have HU2 := Lib.hid (owns_belowS HU.out (below_drewN (Below.refl wr.heap.size wr) nq))
        have HB2 := Lib.hid (below_drewN HB.out nq)
        have bq := below_drewN (Below.refl wr.heap.size wr) nq
        have bck : (wr.drewN nq).cell? ⟨b', o' + k, none⟩ = some (.int .i64 (f' k)) := hck'
        have bl2 : (wr.drewN nq).cell? ⟨q, 2, none⟩ = some (.slice (some ⟨b', o', none⟩) n' c') := l2
        have bq0 : q < (wr.drewN nq).heap.size := hq
        have bb0 : b' < (wr.drewN nq).heap.size := hbl'
        have hBz2 : w.heap.size ≤ (wr.drewN nq).heap.size := hBz
        clear HU HB bq k0 k1 k2 l0 l1 l2 hck hck' hq hbl' hBz hp hbl
        generalize wr.drewN nq = w2 at *
        have hXa := Lib.hid ((Below.refl w2.heap.size w2).alloc (Nat.le_refl _) (.cells #[.int .i64 (k : Int), .int .i64 (f' k)] 50))
        have hsz : (w2.alloc (.cells #[.int .i64 (k : Int), .int .i64 (f' k)] 50)).heap.size = w2.heap.size + 1 := by simp
        go_wp2_with (first
          | (at_builtin; refine wpList_append_lies _ (by rfl) _ _ _ (by rfl) w.heap.size 50 i2 _ 2 16 Try.underlying31 hi2 hz0 hz1 hz2 rfl (by omega) _ (difN f f' k) (ivs (btL f f' k)) (by rfl) (owns_belowS HU2.out hXa.out) ⟨w2.heap.size, 0, none⟩ 1 1 [.int .i64 (k : Int), .int .i64 (f' k)] (by rfl) (by rfl) (World.news_of_block (cs := #[.int .i64 (k : Int), .int .i64 (f' k)]) (t := 50) (fr := (0, 0)) (heap_alloc_new w2 _)) (fun u hu => by simp at hu; rcases hu with rfl | rfl <;> rfl) (by omega) (by unfold maxLen; omega) (by omega) (by simp; omega) (w2.heap.size + 1) (by simp) ?_; intro g6 cap6 w6 hown6 hgrow6 hat6 hlt6; have HOW := Lib.hid hown6; have HGR := Lib.hid hgrow6; have HAT := Lib.hid hat6; clear hown6 hgrow6 hat6))
        clear bck bl2
        go_roundw
        case rel =>
          refine ⟨k + 1, by omega, by go_num, Lib.hid ?_, Lib.hid ((HB2.out.trans (hXa.out.mono (by omega))).grown HGR.out (by omega) (fun b e => (HU2.out.lt b e).1))⟩
          rw [HD.out, HD2.out, ivs_two]
          exact HOW.out
        case measure => simp [intOf]; omega
    · obtain rfl : k = n := by omega
      go_wp2
      go_ret
      refine ⟨_, _, rfl, ownS_two HU.out (btL_mem (P := fun z => (Lit.int .i64 z).wf = true) (fun j hj => ⟨WalkArith.wf_i64 (by omega), HWF.out j (by omega)⟩)) (Nat.le_refl _) (by unfold maxLen; omega), HB.out⟩
end Go.Proofs.Ytgdmojkfpghmnaa.Base
