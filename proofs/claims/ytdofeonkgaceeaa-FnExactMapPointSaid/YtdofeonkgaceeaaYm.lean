/-
  Points and panels moved by a symmetry: the specification's.
-/
import Derived.Test.YtdofeonkgaceeaaSym
import Derived.Test.YtdofeonkgaceeaaCms
import Derived.Test.YtdofeonkgaceeaaShape
import Derived.Test.YtdofeonkgaceeaaNew
namespace Go.Proofs.Ytdofeonkgaceeaa.Base
open Go Go.RowKit
set_option linter.unusedVariables false
set_option linter.unusedSimpArgs false

theorem spec_pt (w : World) (W H x y s : Int) (hW : sideB W = true) (hH : sideB H = true) (x1 : 0 ≤ x) (x2 : x ≤ 16) (y1 : 0 ≤ y) (y2 : y ≤ 16) (hs : inB s 0 7 = true) :
    Calls Try.prog 29 #[.int .i64 W, .int .i64 H, .agg #[.int .i64 x, .int .i64 y], .int .i64 s] w (Gives (.agg #[.int .i64 (mvX W H s x y), .int .i64 (mvY W H s x y)]) w) := by
  obtain ⟨a1, a2⟩ := side_mk hW
  obtain ⟨b1, b2⟩ := side_mk hH
  clear hW hH
  rcases eight hs with rfl | rfl | rfl | rfl | rfl | rfl | rfl | rfl
  all_goals
    clear hs
    go_enter Try.func29, Try.ntmps29
    go_wp2
    refine bodyPost_ret ?_ rfl ⟨rfl, by go_grown⟩
    simp [results, Try.results29, go_sem, mvX, mvY, mvW, mvH, swB, acB, dnB]
theorem spec_code6 {w : World} {p : Nat} {W H : Int} {A : Option Addr} {n c : Nat} {f : Nat → Int} (s : Int) (hb : Box w p W H A n c) (hr : Row .i64 w A n c f) :
    Calls Try.prog 27 #[.pointer (some ⟨p, 0, none⟩), .int .i64 s] w (Drew (.int .i64 (mpC W H n f s)) w) := by
  cases hv : validB W H n f
  · rw [mpC_1 hv]
    have HV := Lib.hid hv
    clear hv
    go_enter Try.func27, Try.ntmps27
    go_wp2_with fail
    refine (specOk_is HV.out hb hr).mono ?_
    rintro e w1 ⟨m, rfl, rfl⟩
    go_wp2
    go_ret
    exact ⟨m, rfl, rfl⟩
  · have HV := Lib.hid hv
    cases hs : inB s 0 7
    · rw [mpC_2 hv hs]
      clear hv
      go_enter Try.func27, Try.ntmps27
      go_wp2_with fail
      refine (specOk_is HV.out hb hr).mono ?_
      rintro e w1 ⟨m, rfl, rfl⟩
      go_wp2_with fail
      refine (spec_sym hs _).mono ?_
      rintro e w1 ⟨rfl, rfl⟩
      go_wp2
      go_ret
      exact ⟨m, rfl, rfl⟩
    · rw [mpC_0 hv hs]
      clear hv
      go_enter Try.func27, Try.ntmps27
      go_wp2_with fail
      refine (specOk_is HV.out hb hr).mono ?_
      rintro e w1 ⟨m, rfl, rfl⟩
      go_wp2_with fail
      refine (spec_sym hs _).mono ?_
      rintro e w1 ⟨rfl, rfl⟩
      go_wp2
      go_ret
      exact ⟨m, rfl, rfl⟩
end Go.Proofs.Ytdofeonkgaceeaa.Base
