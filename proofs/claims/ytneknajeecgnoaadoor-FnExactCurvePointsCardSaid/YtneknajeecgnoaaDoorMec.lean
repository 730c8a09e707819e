/-
  CurvePoints and SharedPoints of the program.
-/
import Derived.Test.YtneknajeecgnoaaDoorMeb
namespace Go.Proofs.YtneknajeecgnoaaDoor.Base
open Go Go.RowKit
set_option linter.unusedVariables false
set_option linter.unusedSimpArgs false

theorem rowL1 (w : World) (k : Int) (hk : (Lit.int .i64 k).wf = true) : Row .i64 (w.alloc (.cells #[.int .i64 k] 2)) (some ⟨w.heap.size, 0, none⟩) 1 1 (fun _ => k) := by
  refine ⟨Nat.le_refl _, by unfold maxLen; omega, fun i hi => hk, fun _ => ⟨w.heap.size, 0, rfl, by simp, fun i hi => ?_⟩⟩
  obtain rfl : i = 0 := by omega
  have h := (Cel.new w [.int .i64 k] 2).2 0 _ rfl
  exact h
def twoF (a b : Int) (i : Nat) : Int := if i = 0 then a else b
theorem rowL2 (w : World) (a b : Int) (ha : (Lit.int .i64 a).wf = true) (hb : (Lit.int .i64 b).wf = true) : Row .i64 (w.alloc (.cells #[.int .i64 a, .int .i64 b] 2)) (some ⟨w.heap.size, 0, none⟩) 2 2 (twoF a b) := by
  refine ⟨Nat.le_refl _, by unfold maxLen; omega, fun i hi => ?_, fun _ => ⟨w.heap.size, 0, rfl, by simp, fun i hi => ?_⟩⟩
  · unfold twoF
    split
    · exact ha
    · exact hb
  · have h := (Cel.new w [.int .i64 a, .int .i64 b] 2).2
    obtain rfl | rfl : i = 0 ∨ i = 1 := by omega
    · exact h 0 _ rfl
    · exact h 1 _ rfl
theorem impl_curvePoints (w : World) (W H : Int) (A : Option Addr) (n c : Nat) (f : Nat → Int) (s : Int) (ws : (Lit.int .i64 s).wf = true) (hr : Row .i64 w A n c f) (hT : Tabs w) :
    Calls Tryd.prog 11 #[.agg #[.int .i64 W, .int .i64 H, .slice A n c], .int .i64 s] w (ListOut 1 (cpN W H n f s) (spF W H n f s s) (cuC W H n f s) w.heap.size w) := by
  have bb := ((Below.refl w.heap.size w).alloc (Nat.le_refl _) (.cells #[.int .i64 W, .int .i64 H, .slice A n c] 26)).alloc (by simp) (.cells #[.int .i64 s] 2)
  have HL := Lib.hid bb
  have hrow := rowL1 (w.alloc (.cells #[.int .i64 W, .int .i64 H, .slice A n c] 26)) s ws
  rw [World.size_alloc] at hrow
  have hTk := hT.below bb hT.1
  have hR := hr.below bb (Nat.le_refl _)
  clear bb
  unfold cpN
  rcases cu_cases W H n f s with ⟨hv, e⟩ | ⟨hv, hk, e⟩ | ⟨hv, hk, e⟩
  · rw [e]
    have HC := Lib.hid (impl_ptsBad ((w.alloc (.cells #[.int .i64 W, .int .i64 H, .slice A n c] 26)).alloc (.cells #[.int .i64 s] 2)) W H A n c f (some ⟨w.heap.size + 1, 0, none⟩) 1 1 hR hv)
    clear hv e hrow hTk hR hr hT
    go_enter Tryd.func11, Tryd.ntmps11
    go_wp2_with fail
    refine HC.out.mono ?_
    rintro e w1 ⟨rfl, b1⟩
    go_wp2
    go_ret2
    exact ⟨none, 0, rfl, ownS_nil _ _ _ _, HL.out.trans (b1.mono (by first | exact Nat.le_refl _ | (simp; done) | (simp; omega) | omega))⟩
  · rw [e]
    have HC := Lib.hid (impl_ptsOut ((w.alloc (.cells #[.int .i64 W, .int .i64 H, .slice A n c] 26)).alloc (.cells #[.int .i64 s] 2)) W H A n c f (some ⟨w.heap.size + 1, 0, none⟩) 1 1 _ hR hrow (by omega) hTk.2.1 hv (by simp [List.range_succ, hk]))
    clear hv hk e hrow hTk hR hr hT
    go_enter Tryd.func11, Tryd.ntmps11
    go_wp2_with fail
    refine HC.out.mono ?_
    rintro e w1 ⟨rfl, b1⟩
    go_wp2
    go_ret2
    exact ⟨none, 0, rfl, ownS_nil _ _ _ _, HL.out.trans (b1.mono (by first | exact Nat.le_refl _ | (simp; done) | (simp; omega) | omega))⟩
  · rw [e, if_pos rfl]
    have hn : n ≤ 1000000 := by
      obtain ⟨hW, hH, hn, -⟩ := validB_yes hv
      have := inner_bd hW hH
      omega
    have HC := Lib.hid (impl_ptsIn ((w.alloc (.cells #[.int .i64 W, .int .i64 H, .slice A n c] 26)).alloc (.cells #[.int .i64 s] 2)) W H A n c f (some ⟨w.heap.size + 1, 0, none⟩) 1 1 _ hR hrow (by omega) hTk.2.1 hTk.2.2 hv (fun i hi => hk) (okP W H f s s) (fun k => by unfold okP; simp [List.range_succ]))
    clear hv hk e hrow hTk hR hr hT
    go_enter Tryd.func11, Tryd.ntmps11
    go_wp2_with fail
    refine HC.out.mono ?_
    rintro e w1 ⟨A2, c2, rfl, h2, b2⟩
    have HO2 := Lib.hid h2
    have HB2 := Lib.hid (HL.out.trans (b2.mono (by first | exact Nat.le_refl _ | (simp; done) | (simp; omega) | omega)))
    have hsz : w.heap.size ≤ ((w.alloc (.cells #[.int .i64 W, .int .i64 H, .slice A n c] 26)).alloc (.cells #[.int .i64 s] 2)).heap.size := (by first | exact Nat.le_refl _ | (simp; done) | (simp; omega) | omega)
    clear h2 b2 HC
    go_wp2
    go_ret2
    exact ⟨A2, c2, rfl, fl_own hn HO2.out hsz, HB2.out⟩
theorem impl_sharedPoints (w : World) (W H : Int) (A : Option Addr) (n c : Nat) (f : Nat → Int) (s t : Int) (ws : (Lit.int .i64 s).wf = true) (wt : (Lit.int .i64 t).wf = true) (hr : Row .i64 w A n c f) (hT : Tabs w) :
    Calls Tryd.prog 8 #[.agg #[.int .i64 W, .int .i64 H, .slice A n c], .int .i64 s, .int .i64 t] w (ListOut 1 (spN W H n f s t) (spF W H n f s t) (ccC W H n f s t) w.heap.size w) := by
  have bb := ((Below.refl w.heap.size w).alloc (Nat.le_refl _) (.cells #[.int .i64 W, .int .i64 H, .slice A n c] 26)).alloc (by simp) (.cells #[.int .i64 s, .int .i64 t] 2)
  have HL := Lib.hid bb
  have hrow := rowL2 (w.alloc (.cells #[.int .i64 W, .int .i64 H, .slice A n c] 26)) s t ws wt
  rw [World.size_alloc] at hrow
  have hTk := hT.below bb hT.1
  have hR := hr.below bb (Nat.le_refl _)
  clear bb
  unfold spN
  have hout : ∀ (hv : validB W H n f = true), (inB s 0 ((cnN W H f : Int) - 1) = false ∨ inB t 0 ((cnN W H f : Int) - 1) = false) → (List.range 2).any (fun i => !(inB (twoF s t i) 0 ((cnN W H f : Int) - 1))) = true := fun _ h => by
    rw [List.any_eq_true]
    rcases h with h | h
    · exact ⟨0, by simp, by show (!(inB s 0 _)) = true; rw [h]; rfl⟩
    · exact ⟨1, by simp, by show (!(inB t 0 _)) = true; rw [h]; rfl⟩
  rcases cu_cases W H n f s with ⟨hv, e⟩ | ⟨hv, hk, e⟩ | ⟨hv, hk, e⟩
  · have ec : ccC W H n f s t = 1 := by unfold ccC; rw [e]; rfl
    rw [ec]
    have HC := Lib.hid (impl_ptsBad ((w.alloc (.cells #[.int .i64 W, .int .i64 H, .slice A n c] 26)).alloc (.cells #[.int .i64 s, .int .i64 t] 2)) W H A n c f (some ⟨w.heap.size + 1, 0, none⟩) 2 2 hR hv)
    clear hv e hrow hTk hR hr hT hout ec
    go_enter Tryd.func8, Tryd.ntmps8
    go_wp2_with fail
    refine HC.out.mono ?_
    rintro e w1 ⟨rfl, b1⟩
    go_wp2
    go_ret2
    exact ⟨none, 0, rfl, ownS_nil _ _ _ _, HL.out.trans (b1.mono (by first | exact Nat.le_refl _ | (simp; done) | (simp; omega) | omega))⟩
  · have ec : ccC W H n f s t = 2 := by unfold ccC; rw [e]; rfl
    rw [ec]
    have HC := Lib.hid (impl_ptsOut ((w.alloc (.cells #[.int .i64 W, .int .i64 H, .slice A n c] 26)).alloc (.cells #[.int .i64 s, .int .i64 t] 2)) W H A n c f (some ⟨w.heap.size + 1, 0, none⟩) 2 2 _ hR hrow (by omega) hTk.2.1 hv (hout hv (.inl hk)))
    clear hv hk e hrow hTk hR hr hT hout ec
    go_enter Tryd.func8, Tryd.ntmps8
    go_wp2_with fail
    refine HC.out.mono ?_
    rintro e w1 ⟨rfl, b1⟩
    go_wp2
    go_ret2
    exact ⟨none, 0, rfl, ownS_nil _ _ _ _, HL.out.trans (b1.mono (by first | exact Nat.le_refl _ | (simp; done) | (simp; omega) | omega))⟩
  · rcases cu_cases W H n f t with ⟨hv2, e2⟩ | ⟨-, hk2, e2⟩ | ⟨-, hk2, e2⟩
    · rw [hv] at hv2; cases hv2
    · have ec : ccC W H n f s t = 2 := by unfold ccC; rw [e, e2]; rfl
      rw [ec]
      have HC := Lib.hid (impl_ptsOut ((w.alloc (.cells #[.int .i64 W, .int .i64 H, .slice A n c] 26)).alloc (.cells #[.int .i64 s, .int .i64 t] 2)) W H A n c f (some ⟨w.heap.size + 1, 0, none⟩) 2 2 _ hR hrow (by omega) hTk.2.1 hv (hout hv (.inr hk2)))
      clear hv hk hk2 e e2 hrow hTk hR hr hT hout ec
      go_enter Tryd.func8, Tryd.ntmps8
      go_wp2_with fail
      refine HC.out.mono ?_
      rintro e w1 ⟨rfl, b1⟩
      go_wp2
      go_ret2
      exact ⟨none, 0, rfl, ownS_nil _ _ _ _, HL.out.trans (b1.mono (by first | exact Nat.le_refl _ | (simp; done) | (simp; omega) | omega))⟩
    · have hn : n ≤ 1000000 := by
        obtain ⟨hW, hH, hn, -⟩ := validB_yes hv
        have := inner_bd hW hH
        omega
      have HC := Lib.hid (impl_ptsIn ((w.alloc (.cells #[.int .i64 W, .int .i64 H, .slice A n c] 26)).alloc (.cells #[.int .i64 s, .int .i64 t] 2)) W H A n c f (some ⟨w.heap.size + 1, 0, none⟩) 2 2 _ hR hrow (by omega) hTk.2.1 hTk.2.2 hv (fun i hi => by unfold twoF; split; exact hk; exact hk2) (okP W H f s t) (fun k => by unfold okP; simp [List.range_succ, twoF]))
      by_cases hst : s = t
      · have ec : ccC W H n f s t = 6 := by unfold ccC; rw [e, e2, if_pos rfl, if_pos rfl, if_pos hst]
        have hb : (s == t) = true := by simp [hst]
        rw [ec]
        clear hv hk hk2 e e2 hrow hTk hR hr hT hout ec hst
        go_enter Tryd.func8, Tryd.ntmps8
        go_wp2_with fail
        refine HC.out.mono ?_
        rintro e w1 ⟨A2, c2, rfl, h2, b2⟩
        have HB2 := Lib.hid (HL.out.trans (b2.mono (by first | exact Nat.le_refl _ | (simp; done) | (simp; omega) | omega)))
        clear h2 b2 HC
        go_wp2
        go_ret2
        exact ⟨none, 0, rfl, ownS_nil _ _ _ _, HB2.out⟩
      · have ec : ccC W H n f s t = 0 := by unfold ccC; rw [e, e2, if_pos rfl, if_pos rfl, if_neg hst]
        have hb : (s == t) = false := by simp [hst]
        rw [ec, if_pos rfl]
        clear hv hk hk2 e e2 hrow hTk hR hr hT hout ec hst
        go_enter Tryd.func8, Tryd.ntmps8
        go_wp2_with fail
        refine HC.out.mono ?_
        rintro e w1 ⟨A2, c2, rfl, h2, b2⟩
        have HO2 := Lib.hid h2
        have HB2 := Lib.hid (HL.out.trans (b2.mono (by first | exact Nat.le_refl _ | (simp; done) | (simp; omega) | omega)))
        have hsz : w.heap.size ≤ ((w.alloc (.cells #[.int .i64 W, .int .i64 H, .slice A n c] 26)).alloc (.cells #[.int .i64 s, .int .i64 t] 2)).heap.size := (by first | exact Nat.le_refl _ | (simp; done) | (simp; omega) | omega)
        clear h2 b2 HC
        go_wp2
        go_ret2
        exact ⟨A2, c2, rfl, fl_own hn HO2.out hsz, HB2.out⟩
end Go.Proofs.YtneknajeecgnoaaDoor.Base
