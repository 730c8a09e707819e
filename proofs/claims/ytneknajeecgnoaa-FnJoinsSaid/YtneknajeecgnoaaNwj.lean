/-
  NewJoined, the model's and the program's.
-/
import Derived.Test.YtneknajeecgnoaaJn
namespace Go.Proofs.Ytneknajeecgnoaa.Base
open Go Go.RowKit
set_option linter.unusedVariables false
set_option linter.unusedSimpArgs false

def idI (k : Nat) : List Int := (List.range k).map (fun i : Nat => ((i : Nat) : Int))
theorem idI_succ (k : Nat) : idI (k + 1) = idI k ++ [(k : Int)] := by simp [idI, List.range_succ]
theorem idI_len (k : Nat) : (idI k).length = k := by simp [idI]
def idF : Nat → Int := fun i => (i : Int)
theorem owns_setJ {w : World} {base n s : Nat} {e : TypeId} {v : Value} {xs : List Value} (h : w.ownsRow base e s v n xs) {p i : Nat} (hp : p < base) (u : Value) : (w.setCell ⟨p, i, none⟩ u).ownsRow base e s v n xs := by
  obtain ⟨h1, h2⟩ := h
  refine ⟨h1, ?_⟩
  rcases h2 with h2 | ⟨g, cap, cur, e1, hb, hg, hr⟩
  · exact .inl h2
  · refine .inr ⟨g, cap, cur, e1, hb, ?_, hr⟩
    rw [Below.heap_setCell w ⟨p, i, none⟩ u g (by show g ≠ p; omega)]
    exact hg
theorem ownRow_idI {w : World} {base base' : Nat} {A : Option Addr} {n c : Nat} {T : TypeId} (h : w.ownsRow base T 1 (.slice A n c) n (ivs (idI n))) (hb : base' ≤ base) (hn : n ≤ maxLen) : OwnRow w base' A n c idF :=
  ownS_one.1 (ownS_ivs h (fun i hi => by unfold ivs idI; simp [hi, idF]) (fun i hi => WalkArith.wf_i64 (by unfold maxLen at hn; unfold idF; omega)) hb hn)
theorem ownRow_nilA {w : World} {base : Nat} {A : Option Addr} {f : Nat → Int} : OwnRow w base A 0 0 f := ⟨Nat.le_refl _, by unfold maxLen; omega, fun i hi => absurd hi (Nat.not_lt_zero _), fun h => absurd h (Nat.lt_irrefl _)⟩
set_option maxHeartbeats 4000000 in
set_option maxRecDepth 100000 in
theorem spec_new (w : World) (N : Nat) (h1 : 1 ≤ N) (h2 : N ≤ 256) : Calls Try.prog 89 #[.int .i64 (N : Int)] w (JnMade N idF 0 (fun _ => 0) w) := by
  obtain ⟨i2, hi2, hz0, hz1, hz2⟩ := info_parts infoI64
  have A1 := (Below.refl w.heap.size w).alloc (Nat.le_refl _) (.cells #[.slice none 0 0, .slice none 0 0] 26)
  have A2 := A1.alloc A1.size (.cells #[] 2)
  have A3 := A2.alloc A2.size (.cells #[.slice none 0 0, .slice (some ⟨w.heap.size + 1, 0, none⟩) 0 0] 26)
  have HB := Lib.hid A3
  have HR0 := Lib.hid (((At.new w #[.slice none 0 0, .slice none 0 0] 26).below ((Below.refl _ _).alloc (Nat.le_refl _) (.cells #[] 2)) (by simp)).below ((Below.refl _ _).alloc (Nat.le_refl _) (.cells #[.slice none 0 0, .slice (some ⟨w.heap.size + 1, 0, none⟩) 0 0] 26)) (by simp; omega))
  have hj := At.new ((w.alloc (.cells #[.slice none 0 0, .slice none 0 0] 26)).alloc (.cells #[] 2)) #[.slice none 0 0, .slice (some ⟨w.heap.size + 1, 0, none⟩) 0 0] 26
  simp only [World.size_alloc] at hj
  have HJ0 := Lib.hid hj
  clear A1 A2 A3 hj
  go_enter Try.func89, Try.ntmps89
  go_wp2
  generalize ((w.alloc (.cells #[.slice none 0 0, .slice none 0 0] 26)).alloc (.cells #[] 2)).alloc (.cells #[.slice none 0 0, .slice (some ⟨w.heap.size + 1, 0, none⟩) 0 0] 26) = w3 at *
  go_loopw [4] (fun kv wr => ∃ (k : Nat) (u : Value), k ≤ N ∧ kv = .int .i64 k ∧ Hid (At wr (w.heap.size + 1 + 1) #[u, .slice (some ⟨w.heap.size + 1, 0, none⟩) 0 0] 26) ∧ Hid (wr.ownsRow (w.heap.size + 3) 2 1 u k (ivs (idI k))) ∧ Hid (At wr w.heap.size #[.slice none 0 0, .slice none 0 0] 26) ∧ Hid (Below w.heap.size w wr)) (fun kv _ => 300 - (intOf kv).toNat)
  case atStart => exact ⟨0, .slice none 0 0, Nat.zero_le _, rfl, HJ0, Lib.hid ⟨rfl, .inl ⟨rfl, rfl⟩⟩, HR0, HB⟩
  case round =>
    clear HJ0 HR0 HB
    obtain ⟨k, u, hk, rfl, HJ, HU, HR, HB⟩ := hrel
    obtain ⟨Ao, co, rfl⟩ := owns_slice HU.out
    have lj := HJ.out.lt
    have lr := HR.out.lt
    by_cases hlt : k < N
    · have p0 : wr.cell? ⟨w.heap.size + 1 + 1, 0, none⟩ = some (.slice Ao k co) := HJ.out.cellv (i := 0) rfl
      have hXa := Lib.hid ((Below.refl wr.heap.size wr).alloc (Nat.le_refl _) (.cells #[.int .i64 (k : Int)] 2))
      go_wp2_with (first
        | (at_builtin; refine wpList_append_lies _ (by rfl) _ _ _ (by rfl) (w.heap.size + 3) 2 i2 _ 1 8 Try.underlying24 hi2 hz0 hz1 hz2 rfl (by omega) _ k (ivs (idI k)) (by rfl) (owns_belowS HU.out hXa.out) ⟨wr.heap.size, 0, none⟩ 1 1 [.int .i64 (k : Int)] (by rfl) (by rfl) (World.news_of_block (cs := #[.int .i64 (k : Int)]) (t := 2) (fr := (0, 0)) (heap_alloc_new wr _)) (fun u hu => by simp at hu; subst hu; rfl) (by omega) (by unfold maxLen; omega) (by omega) (by simp; omega) (wr.heap.size + 1) (by simp) ?_; intro g6 cap6 w6 hown6 hgrow6 hat6 hlt6; have HOW := Lib.hid hown6; have HGR := Lib.hid hgrow6; have HJ6 := Lib.hid ((HJ.out.below hXa.out lj).grown hgrow6 (fun e => by have := (HU.out.lt _ e.symm).1; omega)); have HR6 := Lib.hid ((HR.out.below hXa.out lr).grown hgrow6 (fun e => by have := (HU.out.lt _ e.symm).1; omega)); have c6 : w6.cell? ⟨w.heap.size + 1 + 1, 0, none⟩ = some (.slice Ao k co) := HJ6.out.cellv (i := 0) rfl; have f6 := HJ6.out.frozen 0; have l6 := HJ6.out.lt; clear hown6 hgrow6 hat6))
      go_roundw
      case rel =>
        refine ⟨k + 1, _, by omega, by go_num, Lib.hid (HJ6.out.set 0 _), Lib.hid (owns_setJ ?_ (by omega) _), Lib.hid (HR6.out.setOther (by simp; omega) _), Lib.hid (((HB.out.trans (hXa.out.mono (HB.out.size))).grown HGR.out (by have := HB.out.size; simp; omega) (fun b e => by have := (HU.out.lt b e).1; omega)).setCell (by simp; omega) _)⟩
        have e : ivs (idI (k + 1)) = ivs (idI k) ++ [.int .i64 (k : Int)] := by rw [idI_succ]; unfold ivs; simp
        rw [e]
        exact HOW.out
      case measure => simp [intOf]; omega
    · obtain rfl : k = N := by omega
      have p0 : wr.cell? ⟨w.heap.size + 1 + 1, 0, none⟩ = some (.slice Ao k co) := HJ.out.cellv (i := 0) rfl
      have p1 : wr.cell? ⟨w.heap.size + 1 + 1, 1, none⟩ = some (.slice (some ⟨w.heap.size + 1, 0, none⟩) 0 0) := HJ.out.cellv (i := 1) rfl
      have q0 : wr.cell? ⟨w.heap.size, 0, none⟩ = some (.slice none 0 0) := HR.out.cellv (i := 0) rfl
      have q1 : wr.cell? ⟨w.heap.size, 1, none⟩ = some (.slice none 0 0) := HR.out.cellv (i := 1) rfl
      have f0 := HR.out.frozen 0
      have f1 := HR.out.frozen 1
      go_wp2
      refine bodyPost_ret (v := .agg #[.slice Ao k co, .slice (some ⟨w.heap.size + 1, 0, none⟩) 0 0]) (by simp [results, Try.results89, go_sem, q0, q1]) rfl ⟨Ao, co, _, 0, rfl, ⟨?_, ownRow_nilA, fun h1 h2 => absurd h2 (by omega)⟩, ?_⟩
      · exact (((ownRow_idI HU.out (Nat.le_refl _) (by unfold maxLen; omega)).setLow (by omega) _ _).setLow (by omega) _ _).mono (by omega)
      · exact (HB.out.setCell (by simp) _).setCell (by simp) _
def njN (a : Int) : Nat := if inB a 1 256 then a.toNat else 0
def njC (a : Int) : Int := if inB a 1 256 then 0 else 2
end Go.Proofs.Ytneknajeecgnoaa.Base
