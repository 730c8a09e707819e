/-
  NewJoined, the model's and the program's.
-/
import Derived.Test.YtfgbfmpolhilcaaJn
namespace Go.Proofs.Ytfgbfmpolhilcaa.Base
open Go Go.RowKit
set_option linter.unusedVariables false
set_option linter.unusedSimpArgs false

def idI (k : Nat) : List Int := (List.range k).map (fun i : Nat => ((i : Nat) : Int))
theorem idI_succ (k : Nat) : idI (k + 1) = idI k ++ [(k : Int)] := by simp [idI, List.range_succ]
theorem idI_len (k : Nat) : (idI k).length = k := by simp [idI]
def idF : Nat → Int := fun i => (i : Int)
theorem owns_setJ {w : World} {base n s : Nat} {e : TypeId} {v : Value} {xs : List Value} (h : w.ownsRow base e s v n xs) {p i : Nat} (hp : p < base) (u : Value) : (w.setCell ⟨p, i, none⟩ u).ownsRow base e s v n xs := by
  obtain ⟨h1, h2⟩ := h
  refine ⟨h1, ?_⟩
  rcases h2 with h2 | ⟨g, cap, cur, e1, hb, hg, hr⟩
  · exact .inl h2
  · refine .inr ⟨g, cap, cur, e1, hb, ?_, hr⟩
    rw [Below.heap_setCell w ⟨p, i, none⟩ u g (by show g ≠ p; omega)]
    exact hg
theorem ownRow_idI {w : World} {base base' : Nat} {A : Option Addr} {n c : Nat} {T : TypeId} (h : w.ownsRow base T 1 (.slice A n c) n (ivs (idI n))) (hb : base' ≤ base) (hn : n ≤ maxLen) : OwnRow w base' A n c idF :=
  ownS_one.1 (ownS_ivs h (fun i hi => by unfold ivs idI; simp [hi, idF]) (fun i hi => WalkArith.wf_i64 (by unfold maxLen at hn; unfold idF; omega)) hb hn)
theorem ownRow_nilA {w : World} {base : Nat} {A : Option Addr} {f : Nat → Int} : OwnRow w base A 0 0 f := ⟨Nat.le_refl _, by unfold maxLen; omega, fun i hi => absurd hi (Nat.not_lt_zero _), fun h => absurd h (Nat.lt_irrefl _)⟩
set_option maxHeartbeats 4000000 in
set_option maxRecDepth 100000 in
theorem spec_new (w : World) (N : Nat) (h1 : 1 ≤ N) (h2 : N ≤ 256) : Calls Try.prog 69 #[.int .i64 (N : Int)] w (JnMade N idF 0 (fun _ => 0) w) := by
  obtain ⟨i2, hi2, hz0, hz1, hz2⟩ := info_parts infoI64
  have A1 := (Below.refl w.heap.size w).alloc (Nat.le_refl _) (.cells #[.slice none 0 0, .slice none 0 0] 54)
  have A2 := A1.alloc A1.size (.cells #[] 2)
  have A3 := A2.alloc A2.size (.cells #[.slice none 0 0, .slice (some ⟨w.heap.size + 1, 0, none⟩) 0 0] 54)
  have HB := Lib.hid A3
  have HR0 := Lib.hid (((At.new w #[.slice none 0 0, .slice none 0 0] 54).below ((Below.refl _ _).alloc (Nat.le_refl _) (.cells #[] 2)) (by simp)).below ((Below.refl _ _).alloc (Nat.le_refl _) (.cells #[.slice none 0 0, .slice (some ⟨w.heap.size + 1, 0, none⟩) 0 0] 54)) (by simp; omega))
  have hj := At.new ((w.alloc (.cells #[.slice none 0 0, .slice none 0 0] 54)).alloc (.cells #[] 2)) #[.slice none 0 0, .slice (some ⟨w.heap.size + 1, 0, none⟩) 0 0] 54
  simp only [World.size_alloc] at hj
  have HJ0 := Lib.hid hj
  clear A1 A2 A3 hj
  go_enter Try.func69, Try.ntmps69
  go_wp2
  generalize ((w.alloc (.cells #[.slice none 0 0, .slice none 0 0] 54)).alloc (.cells #[] 2)).alloc (.cells #[.slice none 0 0, .slice (some ⟨w.heap.size + 1, 0, none⟩) 0 0] 54) = w3 at *
  go_loopw [4] (fun kv wr => ∃ (k : Nat) (u : Value), k ≤ N ∧ kv = .int .i64 k ∧ Hid (At wr (w.heap.size + 1 + 1) #[u, .slice (some ⟨w.heap.size + 1, 0, none⟩) 0 0] 54) ∧ Hid (wr.ownsRow (w.heap.size + 3) 2 1 u k (ivs (idI k))) ∧ Hid (At wr w.heap.size #[.slice none 0 0, .slice none 0 0] 54) ∧ Hid (Below w.heap.size w wr)) (fun kv _ => 300 - (intOf kv).toNat)
  case atStart => exact ⟨0, .slice none 0 0, Nat.zero_le _, rfl, HJ0, Lib.hid ⟨rfl, .inl ⟨rfl, rfl⟩⟩, HR0, HB⟩
  case round =>
    clear HJ0 HR0 HB
    obtain ⟨k, u, hk, rfl, HJ, HU, HR, HB⟩ := hrel
    obtain ⟨Ao, co, rfl⟩ := owns_slice HU.out
    have lj := HJ.out.lt
    have lr := HR.out.lt
    by_cases hlt : k < N
    · have p0 : wr.cell? ⟨w.heap.size + 1 + 1, 0, none⟩ = some (.slice Ao k co) := HJ.out.cellv (i := 0) rfl
      have hXa := Lib.hid ((Below.refl wr.heap.size wr).alloc (Nat.le_refl _) (.cells #[.int .i64 (k : Int)] 2))
      go_wp2_with (first
        | (at_builtin; refine wpList_append_lies _ (by rfl) _ _ _ (by rfl) (w.heap.size + 3) 2 i2 _ 1 8 Try.underlying39 hi2 hz0 hz1 hz2 rfl (by omega) _ k (ivs (idI k)) (by rfl) (owns_belowS HU.out hXa.out) ⟨wr.heap.size, 0, none⟩ 1 1 [.int .i64 (k : Int)] (by rfl) (by rfl) (World.news_of_block (cs := #[.int .i64 (k : Int)]) (t := 2) (fr := (0, 0)) (heap_alloc_new wr _)) (fun u hu => by simp at hu; subst hu; rfl) (by omega) (by unfold maxLen; omega) (by omega) (by simp; omega) (wr.heap.size + 1) (by simp) ?_; intro g6 cap6 w6 hown6 hgrow6 hat6 hlt6; have HOW := Lib.hid hown6; have HGR := Lib.hid hgrow6; have HJ6 := Lib.hid ((HJ.out.below hXa.out lj).grown hgrow6 (fun e => by have := (HU.out.lt _ e.symm).1; omega)); have HR6 := Lib.hid ((HR.out.below hXa.out lr).grown hgrow6 (fun e => by have := (HU.out.lt _ e.symm).1; omega)); have c6 : w6.cell? ⟨w.heap.size + 1 + 1, 0, none⟩ = some (.slice Ao k co) := HJ6.out.cellv (i := 0) rfl; have f6 := HJ6.out.frozen 0; have l6 := HJ6.out.lt; clear hown6 hgrow6 hat6))
      go_roundw
      case rel =>
        refine ⟨k + 1, _, by omega, by go_num, Lib.hid (HJ6.out.set 0 _), Lib.hid (owns_setJ ?_ (by omega) _), Lib.hid (HR6.out.setOther (by simp; omega) _), Lib.hid (((HB.out.trans (hXa.out.mono (HB.out.size))).grown HGR.out (by have := HB.out.size; simp; omega) (fun b e => by have := (HU.out.lt b e).1; omega)).setCell (by simp; omega) _)⟩
        have e : ivs (idI (k + 1)) = ivs (idI k) ++ [.int .i64 (k : Int)] := by rw [idI_succ]; unfold ivs; simp
        rw [e]
        exact HOW.out
      case measure => simp [intOf]; omega
    · obtain rfl : k = N := by omega
      have p0 : wr.cell? ⟨w.heap.size + 1 + 1, 0, none⟩ = some (.slice Ao k co) := HJ.out.cellv (i := 0) rfl
      have p1 : wr.cell? ⟨w.heap.size + 1 + 1, 1, none⟩ = some (.slice (some ⟨w.heap.size + 1, 0, none⟩) 0 0) := HJ.out.cellv (i := 1) rfl
      have q0 : wr.cell? ⟨w.heap.size, 0, none⟩ = some (.slice none 0 0) := HR.out.cellv (i := 0) rfl
      have q1 : wr.cell? ⟨w.heap.size, 1, none⟩ = some (.slice none 0 0) := HR.out.cellv (i := 1) rfl
      have f0 := HR.out.frozen 0
      have f1 := HR.out.frozen 1
      go_wp2
      refine bodyPost_ret (v := .agg #[.slice Ao k co, .slice (some ⟨w.heap.size + 1, 0, none⟩) 0 0]) (by simp [results, Try.results69, go_sem, q0, q1]) rfl ⟨Ao, co, _, 0, rfl, ⟨?_, ownRow_nilA, fun h1 h2 => absurd h2 (by omega)⟩, ?_⟩
      · exact (((ownRow_idI HU.out (Nat.le_refl _) (by unfold maxLen; omega)).setLow (by omega) _ _).setLow (by omega) _ _).mono (by omega)
      · exact (HB.out.setCell (by simp) _).setCell (by simp) _
set_option maxHeartbeats 4000000 in
theorem impl_alone (w : World) (N : Nat) (h1 : 1 ≤ N) (h2 : N ≤ 256) : Calls Try.prog 70 #[.int .i64 (N : Int)] w (JnMade N idF 0 (fun _ => 0) w) := by
  have hmk := run_make_row' (P := Try.prog) 39 2 (.int .i64 0) 8 Try.underlying39 infoI64 rfl .i64 .i64 N (by omega) (by omega)
  have A1 := (Below.refl w.heap.size w).alloc (Nat.le_refl _) (.cells #[.slice none 0 0, .slice none 0 0] 54)
  have A2 := A1.alloc A1.size (.cells (madeCells #[.int .i64 0] N) 2)
  have A3 := A2.alloc A2.size (.cells #[.slice (some ⟨w.heap.size + 1, 0, none⟩) N N, .slice none 0 0] 54)
  have HB := Lib.hid A3
  have HR0 := Lib.hid (((At.new w #[.slice none 0 0, .slice none 0 0] 54).below ((Below.refl _ _).alloc (Nat.le_refl _) (.cells (madeCells #[.int .i64 0] N) 2)) (by simp)).below ((Below.refl _ _).alloc (Nat.le_refl _) (.cells #[.slice (some ⟨w.heap.size + 1, 0, none⟩) N N, .slice none 0 0] 54)) (by simp; omega))
  have hj := At.new ((w.alloc (.cells #[.slice none 0 0, .slice none 0 0] 54)).alloc (.cells (madeCells #[.int .i64 0] N) 2)) #[.slice (some ⟨w.heap.size + 1, 0, none⟩) N N, .slice none 0 0] 54
  simp only [World.size_alloc] at hj
  have HJ0 := Lib.hid hj
  have hrow := (World.rowIs_made (w.alloc (.cells #[.slice none 0 0, .slice none 0 0] 54)) (.int .i64 0) N 2)
  rw [World.size_alloc] at hrow
  have HW0 := Lib.hid (rowIs_below hrow ((Below.refl _ _).alloc (Nat.le_refl _) (.cells #[.slice (some ⟨w.heap.size + 1, 0, none⟩) N N, .slice none 0 0] 54)) (by simp))
  clear A1 A2 A3 hj hrow
  go_enter Try.func70, Try.ntmps70
  go_wp2
  clear hmk
  generalize ((w.alloc (.cells #[.slice none 0 0, .slice none 0 0] 54)).alloc (.cells (madeCells #[.int .i64 0] N) 2)).alloc (.cells #[.slice (some ⟨w.heap.size + 1, 0, none⟩) N N, .slice none 0 0] 54) = w3 at *
  go_loopw [11] (fun kv wr => ∃ (k : Nat), k ≤ N ∧ kv = .int .i64 k ∧ Hid (At wr (w.heap.size + 1 + 1) #[.slice (some ⟨w.heap.size + 1, 0, none⟩) N N, .slice none 0 0] 54) ∧ Hid (wr.rowIs (w.heap.size + 1) 2 N (fun j => .int .i64 (if j < k then (j : Int) else 0))) ∧ Hid (At wr w.heap.size #[.slice none 0 0, .slice none 0 0] 54) ∧ Hid (Below w.heap.size w wr)) (fun kv _ => 300 - (intOf kv).toNat)
  case atStart => exact ⟨0, Nat.zero_le _, rfl, HJ0, Lib.hid (HW0.out.congr (fun j hj => by simp)), HR0, HB⟩
  case round =>
    clear HJ0 HR0 HB HW0
    obtain ⟨k, hk, rfl, HJ, HW, HR, HB⟩ := hrel
    have lj := HJ.out.lt
    have p0 : wr.cell? ⟨w.heap.size + 1 + 1, 0, none⟩ = some (.slice (some ⟨w.heap.size + 1, 0, none⟩) N N) := HJ.out.cellv (i := 0) rfl
    by_cases hlt : k < N
    · have hc2 := HW.out.cell hlt
      have hf2 := HW.out.frozen k
      have HS := Lib.hid (HW.out.set k (.int .i64 (k : Int)))
      simp only [Nat.lt_irrefl, if_false] at hc2
      go_wp2
      go_roundw
      case rel => exact ⟨k + 1, by omega, by go_num, Lib.hid (HJ.out.setOther (a := ⟨w.heap.size + 1, k, none⟩) (by simp) _), Lib.hid (HS.out.congr (fun j hj => by by_cases e : j = k <;> simp [e] <;> (try (by_cases h : j < k <;> simp [h] <;> omega)))), Lib.hid (HR.out.setOther (a := ⟨w.heap.size + 1, k, none⟩) (by simp) _), Lib.hid (HB.out.setCell (p := ⟨w.heap.size + 1, k, none⟩) (by simp) _)⟩
      case measure => simp [intOf]; omega
    · obtain rfl : k = N := by omega
      have p1 : wr.cell? ⟨w.heap.size + 1 + 1, 1, none⟩ = some (.slice none 0 0) := HJ.out.cellv (i := 1) rfl
      have q0 : wr.cell? ⟨w.heap.size, 0, none⟩ = some (.slice none 0 0) := HR.out.cellv (i := 0) rfl
      have q1 : wr.cell? ⟨w.heap.size, 1, none⟩ = some (.slice none 0 0) := HR.out.cellv (i := 1) rfl
      have f0 := HR.out.frozen 0
      have f1 := HR.out.frozen 1
      have lr := HR.out.lt
      have hrw := ownRow_of (base := w.heap.size + 1) (f := idF) (HW.out.congr (g := fun j => .int .i64 (idF j)) (fun j hj => by simp [hj, idF])) (by unfold maxLen; omega) (fun i hi => WalkArith.wf_i64 (by unfold idF; omega)) (Nat.le_refl _)
      have HRW := Lib.hid hrw
      clear hrw
      go_wp2
      refine bodyPost_ret (v := .agg #[.slice (some ⟨w.heap.size + 1, 0, none⟩) k k, .slice none 0 0]) (by simp [results, Try.results70, go_sem, q0, q1]) rfl ⟨_, k, none, 0, rfl, ⟨?_, ownRow_nilA, fun h1 h2 => absurd h2 (by omega)⟩, ?_⟩
      · exact ((HRW.out.setLow (by omega) _ _).setLow (by omega) _ _).mono (by omega)
      · exact (HB.out.setCell (by simp) _).setCell (by simp) _
def njN (a : Int) : Nat := if inB a 1 256 then a.toNat else 0
def njC (a : Int) : Int := if inB a 1 256 then 0 else 2
set_option maxHeartbeats 1000000 in
theorem spec_newJoined (w : World) (a : Int) : Calls Try.prog 41 #[.int .i64 a] w (JnOut (njN a) idF 0 (fun _ => 0) (njC a) w) := by
  cases hi : inB a 1 256
  · rw [show njN a = 0 by simp [njN, hi], show njC a = 2 by simp [njC, hi]]
    have HI := Lib.hid hi
    have hno := in_no hi
    clear hi
    clear hno
    go_enter Try.func41, Try.ntmps41
    go_wp2_with (go_at_call 58; refine (in_is HI.out _).mono ?_; rintro e w' ⟨rfl, rfl⟩)
    refine bodyPost_ret (v := .tuple #[.agg #[.slice none 0 0, .slice none 0 0], .int .i64 2]) (by simp [results, Try.results41, go_sem]) rfl ⟨none, 0, none, 0, rfl, ⟨ownRow_nilA, ownRow_nilA, fun h1 h2 => absurd h2 (by omega)⟩, by go_grown⟩
  · obtain ⟨a1, a2⟩ := in_yes hi
    rw [show njN a = a.toNat by simp [njN, hi], show njC a = 0 by simp [njC, hi]]
    obtain ⟨N, rfl⟩ : ∃ N : Nat, a = N := ⟨a.toNat, by omega⟩
    rw [Int.toNat_natCast]
    have HI := Lib.hid hi
    have HC := Lib.hid (fun w => spec_new w N (by omega) (by omega))
    have hR := At.new w #[.slice none 0 0, .slice none 0 0] 54
    have HR := Lib.hid hR
    clear hi hR
    go_enter Try.func41, Try.ntmps41
    go_wp2_with (go_at_call 58; refine (in_is HI.out _).mono ?_; rintro e w' ⟨rfl, rfl⟩)
    refine (HC.out _).mono ?_
    rintro e w1 ⟨A, c, B, d, rfl, hJ, b1⟩
    have HR1 := Lib.hid (HR.out.below b1 HR.out.lt)
    have HJ1 := Lib.hid hJ
    have HB1 := Lib.hid (((Below.refl w.heap.size w).alloc (Nat.le_refl _) (.cells #[.slice none 0 0, .slice none 0 0] 54)).trans (b1.mono (by simp)))
    clear hJ b1 HR
    have lr := HR1.out.lt
    have q0 : w1.cell? ⟨w.heap.size, 0, none⟩ = some (.slice none 0 0) := HR1.out.cellv (i := 0) rfl
    have q1 : w1.cell? ⟨w.heap.size, 1, none⟩ = some (.slice none 0 0) := HR1.out.cellv (i := 1) rfl
    have f0 := HR1.out.frozen 0
    have f1 := HR1.out.frozen 1
    go_wp2
    refine bodyPost_ret (v := .tuple #[.agg #[.slice A N c, .slice B 0 d], .int .i64 0]) (by simp [results, Try.results41, go_sem, q0, q1]) rfl ⟨A, c, B, d, rfl, ⟨?_, ?_, HJ1.out.2.2⟩, ?_⟩
    · exact ((HJ1.out.1.setLow (by simp) _ _).setLow (by simp) _ _).mono (by simp)
    · exact ((HJ1.out.2.1.setLow (by simp) _ _).setLow (by simp) _ _).mono (by simp)
    · exact (HB1.out.setCell (by simp) _).setCell (by simp) _
set_option maxHeartbeats 1000000 in
theorem impl_newJoined (w : World) (a : Int) : Calls Try.prog 42 #[.int .i64 a] w (JnOut (njN a) idF 0 (fun _ => 0) (njC a) w) := by
  cases hi : inB a 1 256
  · rw [show njN a = 0 by simp [njN, hi], show njC a = 2 by simp [njC, hi]]
    have HI := Lib.hid hi
    have hno := in_no hi
    clear hi
    by_cases g1 : 1 ≤ a
    · have g2 : ¬ a ≤ 256 := fun h => hno ⟨g1, h⟩
      clear hno
      go_enter Try.func42, Try.ntmps42
      go_wp2
      refine bodyPost_ret (v := .tuple #[.agg #[.slice none 0 0, .slice none 0 0], .int .i64 2]) (by simp [results, Try.results42, go_sem]) rfl ⟨none, 0, none, 0, rfl, ⟨ownRow_nilA, ownRow_nilA, fun h1 h2 => absurd h2 (by omega)⟩, by go_grown⟩
    · clear hno
      go_enter Try.func42, Try.ntmps42
      go_wp2
      refine bodyPost_ret (v := .tuple #[.agg #[.slice none 0 0, .slice none 0 0], .int .i64 2]) (by simp [results, Try.results42, go_sem]) rfl ⟨none, 0, none, 0, rfl, ⟨ownRow_nilA, ownRow_nilA, fun h1 h2 => absurd h2 (by omega)⟩, by go_grown⟩
  · obtain ⟨a1, a2⟩ := in_yes hi
    rw [show njN a = a.toNat by simp [njN, hi], show njC a = 0 by simp [njC, hi]]
    obtain ⟨N, rfl⟩ : ∃ N : Nat, a = N := ⟨a.toNat, by omega⟩
    rw [Int.toNat_natCast]
    have HI := Lib.hid hi
    have HC := Lib.hid (fun w => impl_alone w N (by omega) (by omega))
    have hR := At.new w #[.slice none 0 0, .slice none 0 0] 54
    have HR := Lib.hid hR
    clear hi hR
    go_enter Try.func42, Try.ntmps42
    go_wp2_with fail
    refine (HC.out _).mono ?_
    rintro e w1 ⟨A, c, B, d, rfl, hJ, b1⟩
    have HR1 := Lib.hid (HR.out.below b1 HR.out.lt)
    have HJ1 := Lib.hid hJ
    have HB1 := Lib.hid (((Below.refl w.heap.size w).alloc (Nat.le_refl _) (.cells #[.slice none 0 0, .slice none 0 0] 54)).trans (b1.mono (by simp)))
    clear hJ b1 HR
    have lr := HR1.out.lt
    have q0 : w1.cell? ⟨w.heap.size, 0, none⟩ = some (.slice none 0 0) := HR1.out.cellv (i := 0) rfl
    have q1 : w1.cell? ⟨w.heap.size, 1, none⟩ = some (.slice none 0 0) := HR1.out.cellv (i := 1) rfl
    have f0 := HR1.out.frozen 0
    have f1 := HR1.out.frozen 1
    go_wp2
    refine bodyPost_ret (v := .tuple #[.agg #[.slice A N c, .slice B 0 d], .int .i64 0]) (by simp [results, Try.results42, go_sem, q0, q1]) rfl ⟨A, c, B, d, rfl, ⟨?_, ?_, HJ1.out.2.2⟩, ?_⟩
    · exact ((HJ1.out.1.setLow (by simp) _ _).setLow (by simp) _ _).mono (by simp)
    · exact ((HJ1.out.2.1.setLow (by simp) _ _).setLow (by simp) _ _).mono (by simp)
    · exact (HB1.out.setCell (by simp) _).setCell (by simp) _
end Go.Proofs.Ytfgbfmpolhilcaa.Base
