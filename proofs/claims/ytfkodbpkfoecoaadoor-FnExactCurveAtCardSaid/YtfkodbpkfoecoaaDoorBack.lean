/-
  The walker that goes back: spec's and the program's.
-/
import Derived.Test.YtfkodbpkfoecoaaDoorWlkB
import Derived.IntWalk
namespace Go.Proofs.YtfkodbpkfoecoaaDoor.Base
open Go.RowKit
set_option linter.unusedVariables false

set_option maxHeartbeats 1000000 in
theorem specBack (w : World) (x y dx dy : Int) (x1 : 0 ≤ x) (x2 : x ≤ 16) (y1 : 0 ≤ y) (y2 : y ≤ 16) (hx : signB dx = true) (hy : signB dy = true) :
    Calls Tryd.prog 65 #[.agg #[.int .i64 x, .int .i64 y, .int .i64 dx, .int .i64 dy]] w (Gives (.agg #[.int .i64 (x + dx), .int .i64 (y + dy), .int .i64 (-dx), .int .i64 (-dy)]) w) := by
  obtain ⟨a1, a2⟩ := sign_bd hx
  obtain ⟨b1, b2⟩ := sign_bd hy
  have n1 : IntKind.i64.wrap (-dx) = -dx := IntWalk.i64_in _ (by omega)
  have n2 : IntKind.i64.wrap (-dy) = -dy := IntWalk.i64_in _ (by omega)
  go_enter Tryd.func65, Tryd.ntmps65
  go_wp2
  have OL := Lib.hid (Old.mk_ (show Below (w.alloc (.cells #[.int .i64 x, .int .i64 y, .int .i64 dx, .int .i64 dy] 30)).heap.size (w.alloc (.cells #[.int .i64 x, .int .i64 y, .int .i64 dx, .int .i64 dy] 30)) ((w.alloc (.cells #[.int .i64 x, .int .i64 y, .int .i64 dx, .int .i64 dy] 30)).alloc (.cells #[.int .i64 0, .int .i64 0, .int .i64 0, .int .i64 0] 30)).drew from ((Below.refl _ _).alloc (Nat.le_refl _) _).drew))
  go_region_held3 (fun w' => (∀ b o, b < (w.alloc (.cells #[.int .i64 x, .int .i64 y, .int .i64 dx, .int .i64 dy] 30)).heap.size → w'.cell? ⟨b, o, none⟩ = (w.alloc (.cells #[.int .i64 x, .int .i64 y, .int .i64 dx, .int .i64 dy] 30)).cell? ⟨b, o, none⟩) ∧ Below (w.alloc (.cells #[.int .i64 x, .int .i64 y, .int .i64 dx, .int .i64 dy] 30)).heap.size (w.alloc (.cells #[.int .i64 x, .int .i64 y, .int .i64 dx, .int .i64 dy] 30)) w')
    (first | (with_reducible assumption) | exact OL.out | exact Old.trans (by assumption) (by assumption) | exact Old.set (Old.set (Old.set (Old.set (by assumption) (by simp)) (by simp)) (by simp)) (by simp))
    (first | (go_at_call 116; refine (specNext _ x y dx dy x1 x2 y1 y2 hx hy).mono ?_; rintro e wa ⟨rfl, ba⟩; obtain ⟨hca, hfa⟩ := bcell ba))
  all_goals
    have p0 : wa.cell? ⟨w.heap.size + 1, 0, none⟩ = some (.int .i64 0) := by rw [hca _ _ (by simp)]; simp [go_sem]
    have p1 : wa.cell? ⟨w.heap.size + 1, 1, none⟩ = some (.int .i64 0) := by rw [hca _ _ (by simp)]; simp [go_sem]
    have p2 : wa.cell? ⟨w.heap.size + 1, 2, none⟩ = some (.int .i64 0) := by rw [hca _ _ (by simp)]; simp [go_sem]
    have p3 : wa.cell? ⟨w.heap.size + 1, 3, none⟩ = some (.int .i64 0) := by rw [hca _ _ (by simp)]; simp [go_sem]
    rename_i hS
    have hB := hS.2
    clear hS hca hfa
    go_wp2
    refine bodyPost_ret ?_ rfl ⟨rfl, Below.trans ((Below.refl _ _).alloc (Nat.le_refl _) _) (hB.mono (by simp))⟩
    simp [results, Tryd.results65, go_sem, p0, p1, p2, p3]

set_option maxHeartbeats 1000000 in
theorem implBack (w : World) (x y dx dy : Int) (x1 : 0 ≤ x) (x2 : x ≤ 16) (y1 : 0 ≤ y) (y2 : y ≤ 16) (hx : signB dx = true) (hy : signB dy = true) :
    Calls Tryd.prog 68 #[.agg #[.int .i64 x, .int .i64 y, .int .i64 dx, .int .i64 dy]] w (Gives (.agg #[.int .i64 (x + dx), .int .i64 (y + dy), .int .i64 (-dx), .int .i64 (-dy)]) w) := by
  obtain ⟨a1, a2⟩ := sign_bd hx
  obtain ⟨b1, b2⟩ := sign_bd hy
  have n1 : IntKind.i64.wrap (-dx) = -dx := IntWalk.i64_in _ (by omega)
  have n2 : IntKind.i64.wrap (-dy) = -dy := IntWalk.i64_in _ (by omega)
  go_enter Tryd.func68, Tryd.ntmps68
  go_wp2
  have OL := Lib.hid (Old.mk_ (show Below (w.alloc (.cells #[.int .i64 x, .int .i64 y, .int .i64 dx, .int .i64 dy] 30)).heap.size (w.alloc (.cells #[.int .i64 x, .int .i64 y, .int .i64 dx, .int .i64 dy] 30)) ((w.alloc (.cells #[.int .i64 x, .int .i64 y, .int .i64 dx, .int .i64 dy] 30)).alloc (.cells #[.int .i64 0, .int .i64 0, .int .i64 0, .int .i64 0] 30)).drew from ((Below.refl _ _).alloc (Nat.le_refl _) _).drew))
  go_region_held3 (fun w' => (∀ b o, b < (w.alloc (.cells #[.int .i64 x, .int .i64 y, .int .i64 dx, .int .i64 dy] 30)).heap.size → w'.cell? ⟨b, o, none⟩ = (w.alloc (.cells #[.int .i64 x, .int .i64 y, .int .i64 dx, .int .i64 dy] 30)).cell? ⟨b, o, none⟩) ∧ Below (w.alloc (.cells #[.int .i64 x, .int .i64 y, .int .i64 dx, .int .i64 dy] 30)).heap.size (w.alloc (.cells #[.int .i64 x, .int .i64 y, .int .i64 dx, .int .i64 dy] 30)) w')
    (first | (with_reducible assumption) | exact OL.out | exact Old.trans (by assumption) (by assumption) | exact Old.set (Old.set (Old.set (Old.set (by assumption) (by simp)) (by simp)) (by simp)) (by simp))
    (first | (go_at_call 70; refine (implNext _ x y dx dy x1 x2 y1 y2 hx hy).mono ?_; rintro e wa ⟨rfl, ba⟩; obtain ⟨hca, hfa⟩ := bcell ba))
  all_goals
    have p0 : wa.cell? ⟨w.heap.size + 1, 0, none⟩ = some (.int .i64 0) := by rw [hca _ _ (by simp)]; simp [go_sem]
    have p1 : wa.cell? ⟨w.heap.size + 1, 1, none⟩ = some (.int .i64 0) := by rw [hca _ _ (by simp)]; simp [go_sem]
    have p2 : wa.cell? ⟨w.heap.size + 1, 2, none⟩ = some (.int .i64 0) := by rw [hca _ _ (by simp)]; simp [go_sem]
    have p3 : wa.cell? ⟨w.heap.size + 1, 3, none⟩ = some (.int .i64 0) := by rw [hca _ _ (by simp)]; simp [go_sem]
    rename_i hS
    have hB := hS.2
    clear hS hca hfa
    go_wp2
    refine bodyPost_ret ?_ rfl ⟨rfl, Below.trans ((Below.refl _ _).alloc (Nat.le_refl _) _) (hB.mono (by simp))⟩
    simp [results, Tryd.results68, go_sem, p0, p1, p2, p3]

theorem wkC_no {W H : Int} {n : Nat} {f : Nat → Int} {x y dx dy : Int} (h : wkB W H n f x y dx dy = false) : wkC W H n f x y dx dy = 1 := by simp [wkC, h]
theorem wkC_yes {W H : Int} {n : Nat} {f : Nat → Int} {x y dx dy : Int} (h : wkB W H n f x y dx dy = true) : wkC W H n f x y dx dy = 0 := by simp [wkC, h]
theorem wk_valid {W H : Int} {n : Nat} {f : Nat → Int} {x y dx dy : Int} (h : wkB W H n f x y dx dy = true) : validB W H n f = true ∧ goB W H x y dx dy = true := by simpa [wkB] using h

/-- the code of a panel and a walker -/
theorem spec_wcode (w : World) (p : Nat) (W H : Int) (A : Option Addr) (n c : Nat) (f : Nat → Int) (x y dx dy : Int) (hb : Box w p W H A n c) (hr : Row .i64 w A n c f) :
    Calls Tryd.prog 81 #[.pointer (some ⟨p, 0, none⟩), .agg #[.int .i64 x, .int .i64 y, .int .i64 dx, .int .i64 dy]] w (Gives (.int .i64 (wkC W H n f x y dx dy)) w) := by
  have HL := Lib.hid (show Below w.heap.size w (w.alloc (.cells #[.int .i64 x, .int .i64 y, .int .i64 dx, .int .i64 dy] 30)) from (Below.refl _ _).alloc (Nat.le_refl _) _)
  have HR := Lib.hid hr
  have HB := Lib.hid (hb.below HL.out hb.1)
  clear hr hb
  cases hv : validB W H n f
  · rw [wkC_no (wk_no hv)]
    have HV := Lib.hid hv
    clear hv
    go_enter Tryd.func81, Tryd.ntmps81
    go_wp2_with fail
    refine (specOk_is HV.out HB.out (HR.out.below HL.out (Nat.le_refl _))).mono ?_
    rintro e w1 ⟨m, rfl, rfl⟩
    go_wp2
    go_ret
    exact ⟨rfl, below_drewN HL.out m⟩
  · obtain ⟨hW, hH, -, -⟩ := validB_yes hv
    have HV := Lib.hid hv
    have he : wkB W H n f x y dx dy = goB W H x y dx dy := wk_is hv
    cases hg : goB W H x y dx dy
    · rw [wkC_no (he.trans hg)]
      clear hv he
      go_enter Tryd.func81, Tryd.ntmps81
      go_wp2_with fail
      refine (specOk_is HV.out HB.out (HR.out.below HL.out (Nat.le_refl _))).mono ?_
      rintro e w1 ⟨m, rfl, rfl⟩
      go_wp2_with fail
      refine (specGo _ p W H A n c x y dx dy (HB.out.below (below_of_drew rfl) HB.out.1) hW hH).mono ?_
      rintro e w2 ⟨rfl, b2⟩
      go_wp2
      go_ret
      exact ⟨rfl, Below.trans (below_drewN HL.out m) (b2.mono (by simp))⟩
    · rw [wkC_yes (he.trans hg)]
      clear hv he
      go_enter Tryd.func81, Tryd.ntmps81
      go_wp2_with fail
      refine (specOk_is HV.out HB.out (HR.out.below HL.out (Nat.le_refl _))).mono ?_
      rintro e w1 ⟨m, rfl, rfl⟩
      go_wp2_with fail
      refine (specGo _ p W H A n c x y dx dy (HB.out.below (below_of_drew rfl) HB.out.1) hW hH).mono ?_
      rintro e w2 ⟨rfl, b2⟩
      go_wp2
      go_ret
      exact ⟨rfl, Below.trans (below_drewN HL.out m) (b2.mono (by simp))⟩
end Go.Proofs.YtfkodbpkfoecoaaDoor.Base
