/-
  Tracing: the curve of a segment, and the curves of all segments: spec's and the program's.
-/
import Derived.Test.YtajikegfladelaaDoorCtc
import Derived.Test.YtajikegfladelaaDoorWlk
namespace Go.Proofs.YtajikegfladelaaDoor.Base
open Go.RowKit
set_option linter.unusedVariables false
set_option linter.unusedSimpArgs false

theorem caV_0 {W H : Int} {n : Nat} {f : Nat → Int} {s : Int} (h : wtC W H n f s ≠ 0) : caV W H n f s = 0 := by simp [caV, h]
theorem caV_1 {W H : Int} {n : Nat} {f : Nat → Int} {s : Int} (h : wtC W H n f s = 0) : caV W H n f s = (trs W H f (4 * W * H).toNat).of s.toNat := by simp [caV, h]
theorem impl_curveAt (w : World) (W H : Int) (A : Option Addr) (n c : Nat) (f : Nat → Int) (s : Int) (hr : Row .i64 w A n c f) (hT : Cel w 0 [.int .i64 1, .int .i64 1, .int .i64 (-1), .int .i64 1, .int .i64 1, .int .i64 (-1)]) :
    Calls Tryd.prog 44 #[.agg #[.int .i64 W, .int .i64 H, .slice A n c], .int .i64 s] w (Gives (.tuple #[.int .i64 (caV W H n f s), .int .i64 (wtC W H n f s)]) w) := by
  have HL := Lib.hid (show Below w.heap.size w (w.alloc (.cells #[.int .i64 W, .int .i64 H, .slice A n c] 35)) from (Below.refl _ _).alloc (Nat.le_refl _) _)
  have HR := Lib.hid hr
  have HT := Lib.hid hT
  clear hr hT
  cases hv : validB W H n f
  · have e1 := (wt_bad (s := s) hv).1
    rw [caV_0 (by omega), e1]
    have HV := Lib.hid hv
    clear hv e1
    go_enter Tryd.func44, Tryd.ntmps44
    go_wp2_with fail
    refine (impl_tracedBad _ (HR.out.below HL.out (Nat.le_refl _)) HV.out).mono ?_
    rintro e w1 ⟨rfl, b1⟩
    go_wp2
    go_ret2
    exact ⟨rfl, (HL.out.trans (b1.mono (by first | exact Nat.le_refl _ | (simp; done) | (simp; omega) | omega))).alloc (Nat.le_trans HL.out.size b1.size) _⟩
  · obtain ⟨hW, hH, -, -⟩ := validB_yes hv
    obtain ⟨m0, m1⟩ := segs_bd hW hH
    have hE : 4 * W * H = ((4 * W * H).toNat : Int) := by omega
    obtain ⟨M, hM⟩ : ∃ M : Nat, (4 * W * H).toNat = M := ⟨_, rfl⟩
    rw [hM] at hE
    have hM1 : M ≤ 256 := by omega
    have HM := Lib.hid hM
    have HE := Lib.hid hE
    have HV := Lib.hid hv
    cases hk : inB s 0 (4 * W * H - 1)
    · have e1 := (wt_out hv hk).1
      rw [caV_0 (by omega), e1]
      have hk' := in_no hk
      clear hv hk e1 hM hE
      by_cases k1 : s < 0
      · clear hk'
        go_enter Tryd.func44, Tryd.ntmps44
        go_wp2_with fail
        refine (impl_tracedOk _ W H A n c f (HR.out.below HL.out (Nat.le_refl _)) (HT.out.below HL.out HT.out.1) HV.out).mono ?_
        rintro e w1 ⟨Au, cu, cv, rfl, h1, h2, h3, b1⟩
        have HB := Lib.hid (HL.out.trans (b1.mono (by first | exact Nat.le_refl _ | (simp; done) | (simp; omega) | omega)))
        clear b1 h1 h2 h3
        go_wp2
        go_ret2
        exact ⟨rfl, HB.out.alloc HB.out.size _⟩
      · have k3 : 4 * W * H ≤ s := by omega
        clear hk'
        go_enter Tryd.func44, Tryd.ntmps44
        go_wp2_with fail
        refine (impl_tracedOk _ W H A n c f (HR.out.below HL.out (Nat.le_refl _)) (HT.out.below HL.out HT.out.1) HV.out).mono ?_
        rintro e w1 ⟨Au, cu, cv, rfl, h1, h2, h3, b1⟩
        have HP := Lib.hid ((Cel.new w [.int .i64 W, .int .i64 H, .slice A n c] 35).below b1 (by simp))
        have HB := Lib.hid (HL.out.trans (b1.mono (by first | exact Nat.le_refl _ | (simp; done) | (simp; omega) | omega)))
        clear b1 h1 h2 h3
        have k0 := HP.out.2 0 _ rfl
        have k1' := HP.out.2 1 _ rfl
        have k2 := HP.out.2 2 _ rfl
        have lz := HP.out.1
        go_wp2_with fail
        refine (sizeOf_any _ W H A n c).mono ?_
        rintro e w2 ⟨rfl, b2⟩
        go_wp2_with fail
        refine (implSegs _ W H hW hH).mono ?_
        rintro e w3 ⟨rfl, b3⟩
        go_wp2
        go_ret2
        have q1 := HB.out.size
        have q2 := b2.size
        simp at q2
        exact ⟨rfl, ((HB.out.alloc q1 _).trans (b2.mono (by simp; omega))).trans (b3.mono (by omega))⟩
    · have e1 := (wt_in hv hk).1
      rw [caV_1 e1, e1]
      obtain ⟨s0, s1⟩ := in_yes hk
      have hs1 : s < 4 * W * H := by omega
      have hs2 : s.toNat < M := by omega
      rw [hM]
      obtain ⟨z, hz⟩ : ∃ z, (trs W H f M).of s.toNat = z := ⟨_, rfl⟩
      rw [hz]
      have HZ := Lib.hid hz
      clear hv hk e1 hM hE hz
      go_enter Tryd.func44, Tryd.ntmps44
      go_wp2_with fail
      refine (impl_tracedOk _ W H A n c f (HR.out.below HL.out (Nat.le_refl _)) (HT.out.below HL.out HT.out.1) HV.out).mono ?_
      rintro e w1 ⟨Au, cu, cv, rfl, h1, h2, h3, b1⟩
      rw [HM.out] at h1 h2 ⊢
      have HP := Lib.hid ((Cel.new w [.int .i64 W, .int .i64 H, .slice A n c] 35).below b1 (by simp))
      have HB := Lib.hid (HL.out.trans (b1.mono (by first | exact Nat.le_refl _ | (simp; done) | (simp; omega) | omega)))
      have HC := Lib.hid h2
      clear b1 h1 h2 h3
      have k0 := HP.out.2 0 _ rfl
      have k1' := HP.out.2 1 _ rfl
      have k2 := HP.out.2 2 _ rfl
      have lz := HP.out.1
      go_wp2_with fail
      refine (sizeOf_any _ W H A n c).mono ?_
      rintro e w2 ⟨rfl, b2⟩
      have TB := Lib.hid ((At.new w1 #[.int .i64 W, .int .i64 H, .slice A n c, .slice Au (trs W H f M).cnt cu, .slice (some ⟨cv, 0, none⟩) M M] 114).below b2 (by simp))
      have HC2 := Lib.hid (rowIs_below (HC.out.alloc _) b2 (HC.out.alloc _).lt)
      have HB2 := Lib.hid ((HB.out.alloc HB.out.size _).trans (b2.mono (Nat.le_trans HB.out.size (by simp))))
      clear b2 k0 k1' k2 lz
      go_wp2_with fail
      refine (implSegs _ W H hW hH).mono ?_
      rintro e w3 ⟨rfl, b3⟩
      have HC3 := rowIs_below HC2.out b3 HC2.out.lt
      have TB3 := TB.out.below b3 TB.out.lt
      have HB3 := Lib.hid (HB2.out.trans (b3.mono HB2.out.size))
      clear b3
      have t4 : w3.cell? ⟨w1.heap.size, 4, none⟩ = some (.slice (some ⟨cv, 0, none⟩) M M) := TB3.cellv (i := 4) rfl
      have tl := TB3.lt
      have c4 := HC3.cell hs2
      have cl := HC3.lt
      rw [HZ.out] at c4
      clear HC3 TB3
      go_wp2
      go_ret2
      exact ⟨rfl, HB3.out⟩
end Go.Proofs.YtajikegfladelaaDoor.Base
