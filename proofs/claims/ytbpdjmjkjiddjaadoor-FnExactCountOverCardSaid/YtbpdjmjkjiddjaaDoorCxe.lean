/-
  Crossings: whether lines cross at a point; the model's helper at a point of the border.
-/
import Derived.Test.YtbpdjmjkjiddjaaDoorNum
import Derived.Test.YtbpdjmjkjiddjaaDoorTrn
import Derived.Test.YtbpdjmjkjiddjaaDoorShape
namespace Go.Proofs.YtbpdjmjkjiddjaaDoor.Base
open Go Go.RowKit
set_option linter.unusedVariables false
set_option linter.unusedSimpArgs false

def slV (x : Int) : Int := if x % 2 = 1 then 1 else -1
def isX (W H : Int) (f : Nat → Int) (x y : Int) : Bool := !edgeB W H x y && decide (f (numN W x y).toNat = 0)
def cxB (W H : Int) (n : Nat) (f : Nat → Int) (x y : Int) : Bool := validB W H n f && hasB W H x y && isX W H f x y
def cxC (W H : Int) (n : Nat) (f : Nat → Int) (x y : Int) : Int := if validB W H n f then (if hasB W H x y then (if isX W H f x y then 0 else 6) else 2) else 1
theorem cxC_is {W H : Int} {n : Nat} {f : Nat → Int} {x y : Int} : cxC W H n f x y = if codeP W H n f x y = 0 then (if brkP W H n f x y = 0 then 0 else 6) else codeP W H n f x y := by
  unfold cxC brkP codeP isX
  cases validB W H n f
  · simp
  · cases hasB W H x y
    · simp
    · cases edgeB W H x y <;> simp
theorem cxB_is {W H : Int} {n : Nat} {f : Nat → Int} {x y : Int} : cxB W H n f x y = decide (cxC W H n f x y = 0) := by
  unfold cxB cxC
  cases validB W H n f
  · simp
  · cases hasB W H x y
    · simp
    · cases isX W H f x y <;> simp
theorem cxC_zero {W H : Int} {n : Nat} {f : Nat → Int} {x y : Int} (h : cxC W H n f x y = 0) : validB W H n f = true ∧ hasB W H x y = true ∧ isX W H f x y = true := by
  unfold cxC at h
  cases h1 : validB W H n f
  · rw [h1] at h; simp at h
  · cases h2 : hasB W H x y
    · rw [h1, h2] at h; simp at h
    · cases h3 : isX W H f x y
      · rw [h1, h2, h3] at h; simp at h
      · exact ⟨rfl, rfl, rfl⟩
theorem isX_edge {W H : Int} {f : Nat → Int} {x y : Int} (h : isX W H f x y = true) : edgeB W H x y = false ∧ f (numN W x y).toNat = 0 := by
  unfold isX at h
  cases he : edgeB W H x y
  · rw [he] at h
    exact ⟨rfl, by simpa using h⟩
  · rw [he] at h
    simp at h
set_option maxHeartbeats 4000000 in
theorem spec_isXe (w : World) (p : Nat) (W H : Int) (A : Option Addr) (n c : Nat) (f : Nat → Int) (x y : Int) (hb : Box w p W H A n c) (hW : sideB W = true) (hH : sideB H = true) (he : edgeB W H x y = true) :
    Calls Tryd.prog 133 #[.pointer (some ⟨p, 0, none⟩), .agg #[.int .i64 x, .int .i64 y]] w (Gives (.bool (isX W H f x y)) w) := by
  have HL := Lib.hid (show Below w.heap.size w (w.alloc (.cells #[.int .i64 x, .int .i64 y] 61)) from (Below.refl _ _).alloc (Nat.le_refl _) _)
  have HX := Lib.hid (hb.below HL.out hb.1)
  have HD := Lib.hid (Cel.new w [.int .i64 x, .int .i64 y] 61)
  have hpw := hb.1
  clear hb
  have e : isX W H f x y = false := by unfold isX; rw [he]; rfl
  rw [e]
  have HE := Lib.hid he
  clear e he
  go_enter Tryd.func133, Tryd.ntmps133
  go_wp2
  obtain ⟨wb, hwb⟩ : ∃ wb, w.alloc (.cells #[.int .i64 x, .int .i64 y] 61) = wb := ⟨_, rfl⟩
  obtain ⟨ba, hba⟩ : ∃ ba, w.heap.size = ba := ⟨_, rfl⟩
  rw [hwb] at HL HX HD ⊢
  rw [hba] at HD hpw ⊢
  clear hwb
  have OL := Lib.hid (Old.mk_ (Below.refl wb.heap.size wb).drew)
  have dz := HD.out.1
  have d0 := HD.out.2 0 _ rfl
  have d1 := HD.out.2 1 _ rfl
  obtain ⟨pz, k0, k1, k2⟩ := id HX.out
  first | (go_region_with (go_at_call 170; refine (specEdge_is (A := A) (n := n) (c := c) HE.out (HX.out.below (Below.refl _ _).drew HX.out.1) hW hH).mono ?_; rintro e wa ⟨rfl, bq⟩)) | fail
  all_goals
    go_wp2
    go_ret
    exact ⟨rfl, HL.out.trans (((Below.refl _ _).drew.trans (bq.mono (by simp))).mono HL.out.size)⟩
end Go.Proofs.YtbpdjmjkjiddjaaDoor.Base
