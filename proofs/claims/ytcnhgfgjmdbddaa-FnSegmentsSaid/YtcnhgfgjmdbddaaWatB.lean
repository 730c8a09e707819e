/-
  WalkerAt: spec's and the program's.
-/
import Derived.Test.YtcnhgfgjmdbddaaWat
namespace Go.Proofs.Ytcnhgfgjmdbddaa.Base
open Go.RowKit
set_option linter.unusedVariables false

theorem panel2 (w : World) (t : TypeId) (W H : Int) (A : Option Addr) (n c : Nat) (o : Obj) : Box ((w.alloc (.cells #[.int .i64 W, .int .i64 H, .slice A n c] t)).alloc o) w.heap.size W H A n c :=
  (Box.new w t W H A n c).below ((Below.refl _ _).alloc (Nat.le_refl _) _) (by simp)

set_option maxHeartbeats 1000000 in
theorem spec_walkerAt (w : World) (W H : Int) (A : Option Addr) (n c : Nat) (f : Nat → Int) (s : Int) (hr : Row .i64 w A n c f) :
    Calls Try.prog 30 #[.agg #[.int .i64 W, .int .i64 H, .slice A n c], .int .i64 s] w (Gives (.tuple #[.agg #[.int .i64 (wtV W H n f s (wtX H s)), .int .i64 (wtV W H n f s (wtY H s)), .int .i64 (wtV W H n f s 1), .int .i64 (wtV W H n f s (wtD H s))], .int .i64 (wtC W H n f s)]) w) := by
  have HL := Lib.hid (show Below w.heap.size w ((w.alloc (.cells #[.int .i64 W, .int .i64 H, .slice A n c] 28)).alloc (.cells #[.int .i64 0, .int .i64 0, .int .i64 0, .int .i64 0] 41)) from ((Below.refl _ _).alloc (Nat.le_refl _) _).alloc (by simp) _)
  have HR := Lib.hid hr
  clear hr
  cases hv : validB W H n f
  · obtain ⟨e1, e2⟩ := wt_bad (s := s) hv
    simp only [e1, e2]
    have HV := Lib.hid hv
    clear hv e1 e2
    go_enter Try.func30, Try.ntmps30
    go_wp2_with fail
    refine (specOk_is HV.out (panel2 w _ W H A n c _) (HR.out.below HL.out (Nat.le_refl _))).mono ?_
    rintro e w1 ⟨m, rfl, rfl⟩
    go_wp2
    refine bodyPost_ret ?_ rfl ⟨rfl, ((((below_drewN HL.out m).setCell (by first | (simp; done) | (simp; omega)) _).setCell (by first | (simp; done) | (simp; omega)) _).setCell (by first | (simp; done) | (simp; omega)) _).setCell (by first | (simp; done) | (simp; omega)) _⟩
    simp [results, Try.results30, go_sem]
  · obtain ⟨hW, hH, -, -⟩ := validB_yes hv
    obtain ⟨m0, m1⟩ := segs_bd hW hH
    obtain ⟨a1, a2⟩ := side_mk hW
    cases hk : inB s 0 (4 * W * H - 1)
    · obtain ⟨e1, e2⟩ := wt_out hv hk
      simp only [e1, e2]
      have HV := Lib.hid hv
      have HK := Lib.hid hk
      obtain ⟨b1, b2⟩ := side_mk hH
      clear hv hk e1 e2 hW hH
      go_enter Try.func30, Try.ntmps30
      go_wp2_with fail
      refine (specOk_is HV.out (panel2 w _ W H A n c _) (HR.out.below HL.out (Nat.le_refl _))).mono ?_
      rintro e w1 ⟨m, rfl, rfl⟩
      go_wp2_with fail
      refine (in_is HK.out _).mono ?_
      rintro e w1 ⟨rfl, rfl⟩
      go_wp2
      refine bodyPost_ret ?_ rfl ⟨rfl, ((((below_drewN HL.out m).setCell (by first | (simp; done) | (simp; omega)) _).setCell (by first | (simp; done) | (simp; omega)) _).setCell (by first | (simp; done) | (simp; omega)) _).setCell (by first | (simp; done) | (simp; omega)) _⟩
      simp [results, Try.results30, go_sem]
    · obtain ⟨e1, e2⟩ := wt_in hv hk
      simp only [e1, e2]
      obtain ⟨k1, k2⟩ := in_yes hk
      have HV := Lib.hid hv
      have HK := Lib.hid hk
      obtain ⟨b1, b2⟩ := side_mk hH
      clear hv hk e1 e2 hW
      go_enter Try.func30, Try.ntmps30
      go_wp2_with fail
      refine (specOk_is HV.out (panel2 w _ W H A n c _) (HR.out.below HL.out (Nat.le_refl _))).mono ?_
      rintro e w1 ⟨m, rfl, rfl⟩
      go_wp2_with fail
      refine (in_is HK.out _).mono ?_
      rintro e w1 ⟨rfl, rfl⟩
      go_wp2_with fail
      refine (specWalker _ w.heap.size W H A n c s ((panel2 w _ W H A n c _).below (below_of_drew rfl) (by first | (simp; done) | (simp; omega))) hH k1 (by omega)).mono ?_
      rintro e w1 ⟨rfl, b1⟩
      obtain ⟨hc1, hf1⟩ := bcell b1
      have HB := Lib.hid ((below_drewN HL.out m).trans (b1.mono (by first | (simp; done) | (simp; omega))))
      clear b1
      go_wp2
      refine bodyPost_ret ?_ rfl ⟨rfl, ((((HB.out).setCell (by first | (simp; done) | (simp; omega)) _).setCell (by first | (simp; done) | (simp; omega)) _).setCell (by first | (simp; done) | (simp; omega)) _).setCell (by first | (simp; done) | (simp; omega)) _⟩
      simp [results, Try.results30, go_sem, hc1]

set_option maxHeartbeats 1000000 in
theorem impl_walkerAt (w : World) (W H : Int) (A : Option Addr) (n c : Nat) (f : Nat → Int) (s : Int) (hr : Row .i64 w A n c f) :
    Calls Try.prog 31 #[.agg #[.int .i64 W, .int .i64 H, .slice A n c], .int .i64 s] w (Gives (.tuple #[.agg #[.int .i64 (wtV W H n f s (wtX H s)), .int .i64 (wtV W H n f s (wtY H s)), .int .i64 (wtV W H n f s 1), .int .i64 (wtV W H n f s (wtD H s))], .int .i64 (wtC W H n f s)]) w) := by
  have HL := Lib.hid (show Below w.heap.size w ((w.alloc (.cells #[.int .i64 W, .int .i64 H, .slice A n c] 28)).alloc (.cells #[.int .i64 0, .int .i64 0, .int .i64 0, .int .i64 0] 41)) from ((Below.refl _ _).alloc (Nat.le_refl _) _).alloc (by simp) _)
  have HR := Lib.hid hr
  clear hr
  cases hv : validB W H n f
  · obtain ⟨e1, e2⟩ := wt_bad (s := s) hv
    simp only [e1, e2]
    have HV := Lib.hid hv
    clear hv e1 e2
    go_enter Try.func31, Try.ntmps31
    go_wp2_with fail
    refine (implOk_is HV.out (HR.out.below HL.out (Nat.le_refl _))).mono ?_
    rintro e w1 ⟨rfl, b1⟩
    obtain ⟨hc1, hf1⟩ := bcell b1
    go_wp2
    refine bodyPost_ret ?_ rfl ⟨rfl, ((((HL.out.trans (b1.mono (by first | (simp; done) | (simp; omega)))).setCell (by first | (simp; done) | (simp; omega)) _).setCell (by first | (simp; done) | (simp; omega)) _).setCell (by first | (simp; done) | (simp; omega)) _).setCell (by first | (simp; done) | (simp; omega)) _⟩
    simp [results, Try.results31, go_sem, hc1]
  · obtain ⟨hW, hH, -, -⟩ := validB_yes hv
    obtain ⟨m0, m1⟩ := segs_bd hW hH
    cases hk : inB s 0 (4 * W * H - 1)
    · obtain ⟨e1, e2⟩ := wt_out hv hk
      simp only [e1, e2]
      have hk' := in_no hk
      have HV := Lib.hid hv
      by_cases k1 : s < 0
      · clear hv hk hk' e1 e2
        go_enter Try.func31, Try.ntmps31
        go_wp2_with fail
        refine (implOk_is HV.out (HR.out.below HL.out (Nat.le_refl _))).mono ?_
        rintro e w1 ⟨rfl, b1⟩
        obtain ⟨hc1, hf1⟩ := bcell b1
        go_wp2
        refine bodyPost_ret ?_ rfl ⟨rfl, ((((HL.out.trans (b1.mono (by first | (simp; done) | (simp; omega)))).setCell (by first | (simp; done) | (simp; omega)) _).setCell (by first | (simp; done) | (simp; omega)) _).setCell (by first | (simp; done) | (simp; omega)) _).setCell (by first | (simp; done) | (simp; omega)) _⟩
        simp [results, Try.results31, go_sem, hc1]
      · have k3 : 4 * W * H ≤ s := by omega
        clear hv hk hk' e1 e2
        go_enter Try.func31, Try.ntmps31
        go_wp2_with fail
        refine (implOk_is HV.out (HR.out.below HL.out (Nat.le_refl _))).mono ?_
        rintro e w1 ⟨rfl, b1⟩
        obtain ⟨hc1, hf1⟩ := bcell b1
        go_wp2_with fail
        refine (sizeOf_any _ W H A n c).mono ?_
        rintro e w2 ⟨rfl, b2⟩
        go_wp2_with fail
        refine (implSegs _ W H hW hH).mono ?_
        rintro e w3 ⟨rfl, b3⟩
        have b13 := (b1.trans (b2.mono b1.size)).trans (b3.mono (Nat.le_trans b1.size b2.size))
        clear hc1 hf1
        obtain ⟨hc1, hf1⟩ := bcell b13
        clear b1 b2 b3
        go_wp2
        refine bodyPost_ret ?_ rfl ⟨rfl, ((((HL.out.trans (b13.mono (by first | (simp; done) | (simp; omega)))).setCell (by first | (simp; done) | (simp; omega)) _).setCell (by first | (simp; done) | (simp; omega)) _).setCell (by first | (simp; done) | (simp; omega)) _).setCell (by first | (simp; done) | (simp; omega)) _⟩
        simp [results, Try.results31, go_sem, hc1]
    · obtain ⟨e1, e2⟩ := wt_in hv hk
      simp only [e1, e2]
      obtain ⟨k1, k2⟩ := in_yes hk
      have k3 : s < 4 * W * H := by omega
      have HV := Lib.hid hv
      clear hv hk e1 e2
      go_enter Try.func31, Try.ntmps31
      go_wp2_with fail
      refine (implOk_is HV.out (HR.out.below HL.out (Nat.le_refl _))).mono ?_
      rintro e w1 ⟨rfl, b1⟩
      obtain ⟨hc1, hf1⟩ := bcell b1
      go_wp2_with fail
      refine (sizeOf_any _ W H A n c).mono ?_
      rintro e w2 ⟨rfl, b2⟩
      go_wp2_with fail
      refine (implSegs _ W H hW hH).mono ?_
      rintro e w3 ⟨rfl, b3⟩
      have b13 := (b1.trans (b2.mono b1.size)).trans (b3.mono (Nat.le_trans b1.size b2.size))
      clear hc1 hf1
      obtain ⟨hc1, hf1⟩ := bcell b13
      clear b1 b2 b3
      go_wp2_with fail
      refine (sizeOf_any _ W H A n c).mono ?_
      rintro e w4 ⟨rfl, b4⟩
      go_wp2_with fail
      refine (implWalker _ W H s hH k1 (by omega)).mono ?_
      rintro e w5 ⟨rfl, b5⟩
      have b15 := (b13.trans (b4.mono b13.size)).trans (b5.mono (Nat.le_trans b13.size b4.size))
      clear hc1 hf1
      obtain ⟨hc1, hf1⟩ := bcell b15
      clear b13 b4 b5
      go_wp2
      refine bodyPost_ret ?_ rfl ⟨rfl, ((((HL.out.trans (b15.mono (by first | (simp; done) | (simp; omega)))).setCell (by first | (simp; done) | (simp; omega)) _).setCell (by first | (simp; done) | (simp; omega)) _).setCell (by first | (simp; done) | (simp; omega)) _).setCell (by first | (simp; done) | (simp; omega)) _⟩
      simp [results, Try.results31, go_sem, hc1]
end Go.Proofs.Ytcnhgfgjmdbddaa.Base
