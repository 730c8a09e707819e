/-
  The joined elements of a forest.
-/
import Derived.Test.YtneknajeecgnoaaJo1
namespace Go.Proofs.Ytneknajeecgnoaa.Base
open Go Go.RowKit
set_option linter.unusedVariables false
set_option linter.unusedSimpArgs false

set_option maxHeartbeats 4000000 in
set_option maxRecDepth 100000 in
theorem impl_joined (w : World) (F E n : Nat) (B : Option Addr) (m d : Nat) (p : Nat → Nat) (hE : Elm w E n p) (hF : At w F #[.slice (some ⟨E, 0, none⟩) n n, .slice B m d, .slice none 0 0] 95) (hp : ∀ x, x < n → p x < n) (n1 : 1 ≤ n) (hn : n ≤ 256) :
    Calls Try.prog 59 #[.pointer (some ⟨F, 0, none⟩)] w (fun e w' => ∃ v, e = .returned (.agg #[v, .slice B m d]) ∧ w'.ownsRow (w.heap.size + 1) 2 1 v n (cellsOfF n (fun k => (p k : Int))) ∧ Below w.heap.size w w') := by
  have HE := Lib.hid hE
  have HF := Lib.hid hF
  have HP := Lib.hid hp
  have b0 := hF.cellv (i := 0) rfl
  have fz := hF.lt
  have ez := hE.lt
  obtain ⟨i0, hi, hz0, hz1, hz2⟩ := info_parts infoI64
  clear hE hF hp
  go_enter Try.func59, Try.ntmps59
  go_wp2_with (first
    | (at_make; refine wpList_make_own _ rfl (.const (.int .i64 0)) (.tmp 10) 24 rfl (w.heap.size + 1) 2 i0 _ 1 Try.underlying24 hi hz0 hz1 .i64 .i64 (n : Int) n (by rfl) (by rfl) (by rfl) (by rw [hz2]; omega) (by unfold maxLen; omega) (by simp) ?_; intro w4 hown4 hgrow4; have HO1 := Lib.hid hown4; have HB1 := Lib.hid (((Below.refl w.heap.size w).alloc (Nat.le_refl _) (.cells #[.slice none 0 0, .slice none 0 0] 26)).grown hgrow4 (by simp) (fun b e => by cases e)); have HR1 := Lib.hid ((At.new w #[.slice none 0 0, .slice none 0 0] 26).grown hgrow4 (fun e => by cases e)); have b4 := (HF.out.below HB1.out fz).cellv (i := 0) rfl; have fz4 := (HF.out.below HB1.out fz).lt; clear hown4 hgrow4))
  clear b0 b4
  go_loopw [3, 17] (fun u kv wr => ∃ k : Nat, k ≤ n ∧ kv = .int .i64 k ∧ Hid (wr.ownsRow (w.heap.size + 1) 2 1 u k (cellsOfF k (fun k => (p k : Int)))) ∧ Hid (At wr w.heap.size #[.slice none 0 0, .slice none 0 0] 26) ∧ Hid (Below w.heap.size w wr)) (fun _ kv _ => n - (intOf kv).toNat)
  case atStart => exact ⟨0, Nat.zero_le _, rfl, Lib.hid (by have h := HO1.out; rw [World.size_alloc] at h; exact h), HR1, HB1⟩
  case round =>
    clear HO1 HR1 HB1 fz4
    obtain ⟨k, hk, rfl, HU, HR, HB⟩ := hrel
    obtain ⟨Ao, co, rfl⟩ := owns_slice HU.out
    have hB := HB.out.size
    have lr := HR.out.lt
    by_cases hlt : k < n
    · have HE2 := Lib.hid (HE.out.of_block (HB.out.block E ez))
      obtain ⟨z, hz⟩ : ∃ z, p k = z := ⟨_, rfl⟩
      have hzn : z < n := by rw [← hz]; exact HP.out k hlt
      obtain ⟨c1, c2, -, -⟩ := HE2.out.at_ hlt
      obtain ⟨d1, -, -, -⟩ := HE2.out.at_ hzn
      rw [hz] at c2
      have HZ := Lib.hid hz
      have lE := HE2.out.lt
      clear hz
      have hXa := Lib.hid (((Below.refl wr.heap.size wr).alloc (Nat.le_refl _) (.cells #[.int .i64 (k : Int), .pointer (some ⟨E, z * 2, none⟩)] 88)).alloc (by simp) (.cells #[.int .i64 (z : Int)] 2))
      have hnew : ((wr.alloc (.cells #[.int .i64 (k : Int), .pointer (some ⟨E, z * 2, none⟩)] 88)).alloc (.cells #[.int .i64 (z : Int)] 2)).heap[wr.heap.size + 1]? = some (.cells #[.int .i64 (z : Int)] 2 (0, 0)) := by
        have h := heap_alloc_new (wr.alloc (.cells #[.int .i64 (k : Int), .pointer (some ⟨E, z * 2, none⟩)] 88)) (.cells #[.int .i64 (z : Int)] 2)
        rwa [World.size_alloc] at h
      have HNW := Lib.hid hnew
      clear hnew
      go_wp2_with (first
        | (at_builtin; refine wpList_append_lies _ (by rfl) _ _ _ (by rfl) (w.heap.size + 1) 2 i0 _ 1 8 Try.underlying24 hi hz0 hz1 hz2 rfl (by omega) _ k (cellsOfF k (fun k => (p k : Int))) (by rfl) (owns_belowS HU.out hXa.out) ⟨wr.heap.size + 1, 0, none⟩ 1 1 [.int .i64 (z : Int)] (by rfl) (by rfl) (World.news_of_block (cs := #[.int .i64 (z : Int)]) (t := 2) (fr := (0, 0)) HNW.out) (fun u hu => by simp at hu; subst hu; rfl) (by omega) (by unfold maxLen; omega) (by omega) (by simp; omega) (wr.heap.size + 2) (by simp) ?_; intro g6 cap6 w6 hown6 hgrow6 hat6 hlt6; have HOW := Lib.hid hown6; have HGR := Lib.hid hgrow6; have HR6 := Lib.hid ((HR.out.below hXa.out lr).grown hgrow6 (fun e => by have := (HU.out.lt _ e.symm).1; omega)); clear hown6 hgrow6 hat6))
      go_roundw
      case rel =>
        refine ⟨k + 1, by omega, by go_num, Lib.hid ?_, HR6, Lib.hid ((HB.out.trans (hXa.out.mono hB)).grown HGR.out (by simp; omega) (fun b e => by have := (HU.out.lt b e).1; omega))⟩
        have h1 := HOW.out
        rw [cells_snoc] at h1
        have e : cellsOfF (k + 1) (putF (fun k => (p k : Int)) k (z : Int)) = cellsOfF (k + 1) (fun k => (p k : Int)) := by
          unfold cellsOfF
          refine List.map_congr_left fun i hi => ?_
          unfold putF
          split
          · next e =>
            rw [e]
            show Value.int .i64 (z : Int) = Value.int .i64 (p k : Int)
            rw [HZ.out]
          · rfl
        rw [e] at h1
        exact h1
      case measure => simp [intOf]; omega
    · obtain rfl : k = n := by omega
      have HF2 := Lib.hid (HF.out.below HB.out fz)
      have f1 := HF2.out.cellv (i := 1) rfl
      have lF := HF2.out.lt
      have q0 : wr.cell? ⟨w.heap.size, 0, none⟩ = some (.slice none 0 0) := HR.out.cellv (i := 0) rfl
      have q1 : wr.cell? ⟨w.heap.size, 1, none⟩ = some (.slice none 0 0) := HR.out.cellv (i := 1) rfl
      have g0 := HR.out.frozen 0
      have g1 := HR.out.frozen 1
      go_wp2
      refine bodyPost_ret (v := .agg #[.slice Ao k co, .slice B m d]) (by simp [results, Try.results59, go_sem, q0, q1]) rfl ⟨_, rfl, ?_, ?_⟩
      · exact ownsRow_setCell_below (ownsRow_setCell_below HU.out (by simp) _) (by simp) _
      · exact (HB.out.setCell (by simp) _).setCell (by simp) _
end Go.Proofs.Ytneknajeecgnoaa.Base
