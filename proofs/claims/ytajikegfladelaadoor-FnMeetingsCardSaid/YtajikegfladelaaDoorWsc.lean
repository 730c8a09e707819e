/-
  WalkSteps: the program's.
-/
import Derived.Test.YtajikegfladelaaDoorWsi
import Derived.Shelf.Abstract
namespace Go.Proofs.YtajikegfladelaaDoor.Base
open Go Go.RowKit Go.Shelf
set_option linter.unusedVariables false
set_option linter.unusedSimpArgs false
attribute [local go_sem] Oper.semAt_some

theorem impl_walkStepsBad (w : World) (W H : Int) (A : Option Addr) (n c : Nat) (f : Nat → Int) (x y dx dy s : Int) (hr : Row .i64 w A n c f) (hw : wkB W H n f x y dx dy = false) :
    Calls Tryd.prog 21 #[.agg #[.int .i64 W, .int .i64 H, .slice A n c], .agg #[.int .i64 x, .int .i64 y, .int .i64 dx, .int .i64 dy], .int .i64 s] w (Gives (.tuple #[.agg #[.int .i64 0, .int .i64 0, .int .i64 0, .int .i64 0], .int .i64 1]) w) := by
  have HL := Lib.hid (show Below w.heap.size w (((w.alloc (.cells #[.int .i64 W, .int .i64 H, .slice A n c] 35)).alloc (.cells #[.int .i64 x, .int .i64 y, .int .i64 dx, .int .i64 dy] 32)).alloc (.cells #[.int .i64 0, .int .i64 0, .int .i64 0, .int .i64 0] 32)) from (((Below.refl _ _).alloc (Nat.le_refl _) _).alloc (by simp) _).alloc (by simp; omega) _)
  have HR := Lib.hid hr
  have HC := Lib.hid hw
  clear hr hw
  go_enter Tryd.func21, Tryd.ntmps21
  go_wp2_with fail
  refine (implW_is HC.out (HR.out.below HL.out (Nat.le_refl _))).mono ?_
  rintro e w1 ⟨rfl, b1⟩
  obtain ⟨hc1, hf1⟩ := bcell b1
  go_wp2
  refine bodyPost_ret ?_ rfl ⟨rfl, ((((HL.out.trans (b1.mono (by first | exact Nat.le_refl _ | (simp; done) | (simp; omega) | omega))).setCell (by first | exact Nat.le_refl _ | (simp; done) | (simp; omega) | omega) _).setCell (by first | exact Nat.le_refl _ | (simp; done) | (simp; omega) | omega) _).setCell (by first | exact Nat.le_refl _ | (simp; done) | (simp; omega) | omega) _).setCell (by first | exact Nat.le_refl _ | (simp; done) | (simp; omega) | omega) _⟩
  simp [results, Tryd.results21, go_sem, hc1]

theorem impl_walkStepsOut (w : World) (W H : Int) (A : Option Addr) (n c : Nat) (f : Nat → Int) (x y dx dy s : Int) (hr : Row .i64 w A n c f) (hw : wkB W H n f x y dx dy = true) (hs : inB s 0 10000 = false) :
    Calls Tryd.prog 21 #[.agg #[.int .i64 W, .int .i64 H, .slice A n c], .agg #[.int .i64 x, .int .i64 y, .int .i64 dx, .int .i64 dy], .int .i64 s] w (Gives (.tuple #[.agg #[.int .i64 0, .int .i64 0, .int .i64 0, .int .i64 0], .int .i64 2]) w) := by
  have HL := Lib.hid (show Below w.heap.size w (((w.alloc (.cells #[.int .i64 W, .int .i64 H, .slice A n c] 35)).alloc (.cells #[.int .i64 x, .int .i64 y, .int .i64 dx, .int .i64 dy] 32)).alloc (.cells #[.int .i64 0, .int .i64 0, .int .i64 0, .int .i64 0] 32)) from (((Below.refl _ _).alloc (Nat.le_refl _) _).alloc (by simp) _).alloc (by simp; omega) _)
  have HR := Lib.hid hr
  have HC := Lib.hid hw
  have h' : s < 0 ∨ 10000 < s := by unfold inB at hs; simp at hs; omega
  clear hr hw hs
  rcases h' with h | h
  · go_enter Tryd.func21, Tryd.ntmps21
    go_wp2_with fail
    refine (implW_is HC.out (HR.out.below HL.out (Nat.le_refl _))).mono ?_
    rintro e w1 ⟨rfl, b1⟩
    obtain ⟨hc1, hf1⟩ := bcell b1
    go_wp2
    refine bodyPost_ret ?_ rfl ⟨rfl, ((((HL.out.trans (b1.mono (by first | exact Nat.le_refl _ | (simp; done) | (simp; omega) | omega))).setCell (by first | exact Nat.le_refl _ | (simp; done) | (simp; omega) | omega) _).setCell (by first | exact Nat.le_refl _ | (simp; done) | (simp; omega) | omega) _).setCell (by first | exact Nat.le_refl _ | (simp; done) | (simp; omega) | omega) _).setCell (by first | exact Nat.le_refl _ | (simp; done) | (simp; omega) | omega) _⟩
    simp [results, Tryd.results21, go_sem, hc1]
  · have h0 : ¬ s < 0 := by omega
    go_enter Tryd.func21, Tryd.ntmps21
    go_wp2_with fail
    refine (implW_is HC.out (HR.out.below HL.out (Nat.le_refl _))).mono ?_
    rintro e w1 ⟨rfl, b1⟩
    obtain ⟨hc1, hf1⟩ := bcell b1
    go_wp2
    refine bodyPost_ret ?_ rfl ⟨rfl, ((((HL.out.trans (b1.mono (by first | exact Nat.le_refl _ | (simp; done) | (simp; omega) | omega))).setCell (by first | exact Nat.le_refl _ | (simp; done) | (simp; omega) | omega) _).setCell (by first | exact Nat.le_refl _ | (simp; done) | (simp; omega) | omega) _).setCell (by first | exact Nat.le_refl _ | (simp; done) | (simp; omega) | omega) _).setCell (by first | exact Nat.le_refl _ | (simp; done) | (simp; omega) | omega) _⟩
    simp [results, Tryd.results21, go_sem, hc1]

/-- what impl.walk leaves: the three boxes that its function has captured -/
def WalkMade (W H : Int) (A : Option Addr) (n c : Nat) (x y dx dy s : Int) (w : World) (e : Ending) (w' : World) : Prop :=
  e = .returned (.func (.func 119) #[] #[.pointer (some ⟨w.heap.size + 1, 0, none⟩), .pointer (some ⟨w.heap.size + 1 + 1, 0, none⟩), .pointer (some ⟨w.heap.size, 0, none⟩)]) ∧
  At w' w.heap.size #[.func (.func 63) #[pagg W H A n c] #[]] 88 ∧ At w' (w.heap.size + 1) #[.int .i64 x, .int .i64 y, .int .i64 dx, .int .i64 dy] 32 ∧ At w' (w.heap.size + 1 + 1) #[.int .i64 s] 2 ∧
  Below w.heap.size w w' ∧ w'.heap.size = w.heap.size + 1 + 1 + 1

theorem impl_walk (w : World) (W H : Int) (A : Option Addr) (n c : Nat) (x y dx dy s : Int) :
    Calls Tryd.prog 66 #[.func (.func 63) #[.agg #[.int .i64 W, .int .i64 H, .slice A n c]] #[], .agg #[.int .i64 x, .int .i64 y, .int .i64 dx, .int .i64 dy], .int .i64 s] w (WalkMade W H A n c x y dx dy s w) := by
  go_enter Tryd.func66, Tryd.ntmps66
  go_wp2
  go_ret
  refine ⟨rfl, ?_, ?_, ?_, ?_, by simp⟩
  · exact ((At.new w _ _).below ((Below.refl _ _).alloc (Nat.le_refl _) _) (by simp)).below ((Below.refl _ _).alloc (Nat.le_refl _) _) (by simp; omega)
  · have h := (At.new (w.alloc (.cells #[.func (.func 63) #[pagg W H A n c] #[]] 88)) #[.int .i64 x, .int .i64 y, .int .i64 dx, .int .i64 dy] 32).below ((Below.refl _ _).alloc (Nat.le_refl _) (.cells #[.int .i64 s] 2)) (by simp)
    simpa [pagg] using h
  · have h := At.new ((w.alloc (.cells #[.func (.func 63) #[pagg W H A n c] #[]] 88)).alloc (.cells #[.int .i64 x, .int .i64 y, .int .i64 dx, .int .i64 dy] 32)) #[.int .i64 s] 2
    simpa [pagg] using h
  · exact (((Below.refl _ _).alloc (Nat.le_refl _) _).alloc (by simp) _).alloc (by simp; omega) _

/-- between two rounds: the box of the last walker, the box of the result, and what lay before -/
def IStp (W H : Int) (f : Nat → Int) (v : W4) (pL pZ : Nat) (w : World) (k : Nat) (X : World) : Prop :=
  At X pL (cs4 (stps W H f k v)).toArray 32 ∧ At X pZ #[.int .i64 0, .int .i64 0, .int .i64 0, .int .i64 0] 32 ∧ Below w.heap.size w X

theorem at_put {A : World} {p : Nat} {cs : Array Value} {T : TypeId} (h : At A p cs T) {l : Nat} {o' : Obj} (ho : ∃ o : Obj, A.heap[l]? = some o ∧ o.isCells = false) : At (A.putObj l o') p cs T := by
  refine h.of_block (World.putObj_heap_other ?_)
  rintro rfl
  obtain ⟨o, h1, h2⟩ := ho
  unfold At at h
  rw [h] at h1
  cases h1
  cases h2

theorem holds_istp {W H : Int} {f : Nat → Int} {v : W4} {pL pZ B V : Nat} {w : World} (hL : pL < B) (hZ : pZ < B) (hw : w.heap.size ≤ B) (hV : B ≤ V) : Holds B V (IStp W H f v pL pZ w) where
  below := fun k A A' h hb => ⟨h.1.below hb h.1.lt, h.2.1.below hb h.2.1.lt, h.2.2.trans (hb.mono h.2.2.size)⟩
  put := fun k A l o' h hl ho => ⟨at_put h.1 ho, at_put h.2.1 ho, h.2.2.grown (grownBy_putObj' _ _ _) h.2.2.size (fun j e => by cases e; omega)⟩
  box := fun k A i u h => ⟨h.1.setOther (a := ⟨V, i, none⟩) (show V ≠ pL by omega) u, h.2.1.setOther (a := ⟨V, i, none⟩) (show V ≠ pZ by omega) u, h.2.2.setCell (p := ⟨V, i, none⟩) (show w.heap.size ≤ V by omega) u⟩

theorem holds_false (B V : Nat) : Holds B V (fun _ _ => False) := ⟨fun _ _ _ h _ => h, fun _ _ _ _ h _ _ => h, fun _ _ _ _ h => h⟩

set_option maxHeartbeats 4000000 in
theorem impl_walkStepsOk (w : World) (W H : Int) (A : Option Addr) (n c : Nat) (f : Nat → Int) (x y dx dy s : Int) (hr : Row .i64 w A n c f) (hT : Cel w 0 [.int .i64 1, .int .i64 1, .int .i64 (-1), .int .i64 1, .int .i64 1, .int .i64 (-1)]) (hw : wkB W H n f x y dx dy = true) (hs : inB s 0 10000 = true) :
    Calls Tryd.prog 21 #[.agg #[.int .i64 W, .int .i64 H, .slice A n c], .agg #[.int .i64 x, .int .i64 y, .int .i64 dx, .int .i64 dy], .int .i64 s] w (Gives (.tuple #[.agg (cs4 (stps W H f s.toNat (x, y, dx, dy))).toArray, .int .i64 0]) w) := by
  have HL := Lib.hid (show Below w.heap.size w (((w.alloc (.cells #[.int .i64 W, .int .i64 H, .slice A n c] 35)).alloc (.cells #[.int .i64 x, .int .i64 y, .int .i64 dx, .int .i64 dy] 32)).alloc (.cells #[.int .i64 0, .int .i64 0, .int .i64 0, .int .i64 0] 32)) from (((Below.refl _ _).alloc (Nat.le_refl _) _).alloc (by simp) _).alloc (by simp; omega) _)
  have HR := Lib.hid hr
  have HT := Lib.hid hT
  have HC := Lib.hid hw
  have HS := Lib.hid hs
  obtain ⟨s0, s1⟩ := in_yes hs
  clear hr hw hs hT
  refine (callsIn_wide (n := 4)).1 ?_
  refine callsIn_of_wp_marks Tryd.func21 rfl trivial ?_ rfl
  simp only [Tryd.ntmps21, List.size_toArray, List.length_cons, List.length_nil, Nat.reduceAdd, Nat.reduceSub, Array.replicate_succ, Array.replicate_zero, List.push_toArray, List.append_toArray, List.nil_append, List.cons_append]
  gi_wp2_with fail
  refine ⟨trivial, (callsIn_wide.2 (implW_is HC.out (HR.out.below HL.out (Nat.le_refl _)))).mono ?_⟩
  rintro e w1 ⟨rfl, b1⟩
  obtain ⟨hc1, hf1⟩ := bcell b1
  have HB1 := Lib.hid (HL.out.trans (b1.mono (by first | exact Nat.le_refl _ | (simp; done) | (simp; omega) | omega)))
  have HZ1 := Lib.hid (at_below2 b1)
  have zz := b1.size
  clear b1
  have g1 : decide (s < 0) = false := by simp; omega
  have g2 : decide (10000 < s) = false := by simp; omega
  have hz2 : w.heap.size + 1 + 1 < w1.heap.size := by simp at zz; omega
  have hz1 : w.heap.size + 1 < w1.heap.size := by omega
  have hz0 : w.heap.size < w1.heap.size := by omega
  have k0 : w1.cell? ⟨w.heap.size, 0, none⟩ = some (.int .i64 W) := by rw [hc1 _ _ (by first | exact Nat.le_refl _ | (simp; done) | (simp; omega) | omega)]; simp [go_sem]
  have k1 : w1.cell? ⟨w.heap.size, 1, none⟩ = some (.int .i64 H) := by rw [hc1 _ _ (by first | exact Nat.le_refl _ | (simp; done) | (simp; omega) | omega)]; simp [go_sem]
  have k2 : w1.cell? ⟨w.heap.size, 2, none⟩ = some (.slice A n c) := by rw [hc1 _ _ (by first | exact Nat.le_refl _ | (simp; done) | (simp; omega) | omega)]; simp [go_sem]
  have m0 : w1.cell? ⟨w.heap.size + 1, 0, none⟩ = some (.int .i64 x) := by rw [hc1 _ _ (by first | exact Nat.le_refl _ | (simp; done) | (simp; omega) | omega)]; simp [go_sem]
  have m1 : w1.cell? ⟨w.heap.size + 1, 1, none⟩ = some (.int .i64 y) := by rw [hc1 _ _ (by first | exact Nat.le_refl _ | (simp; done) | (simp; omega) | omega)]; simp [go_sem]
  have m2 : w1.cell? ⟨w.heap.size + 1, 2, none⟩ = some (.int .i64 dx) := by rw [hc1 _ _ (by first | exact Nat.le_refl _ | (simp; done) | (simp; omega) | omega)]; simp [go_sem]
  have m3 : w1.cell? ⟨w.heap.size + 1, 3, none⟩ = some (.int .i64 dy) := by rw [hc1 _ _ (by first | exact Nat.le_refl _ | (simp; done) | (simp; omega) | omega)]; simp [go_sem]
  clear hc1 hf1 zz
  gi_wp2
  have HZ2 := Lib.hid (HZ1.out.below ((Below.refl w1.heap.size w1).alloc (Nat.le_refl _) (.cells #[.int .i64 x, .int .i64 y, .int .i64 dx, .int .i64 dy] 32)) HZ1.out.lt)
  have HL2 := Lib.hid (At.new w1 #[.int .i64 x, .int .i64 y, .int .i64 dx, .int .i64 dy] 32)
  have HB2 := Lib.hid (HB1.out.alloc HB1.out.size (.cells #[.int .i64 x, .int .i64 y, .int .i64 dx, .int .i64 dy] 32))
  have z2 : (w1.alloc (.cells #[.int .i64 x, .int .i64 y, .int .i64 dx, .int .i64 dy] 32)).heap.size = w1.heap.size + 1 := by simp
  clear k0 k1 k2 m0 m1 m2 m3
  generalize w1.alloc (.cells #[.int .i64 x, .int .i64 y, .int .i64 dx, .int .i64 dy] 32) = w2 at HZ2 HL2 HB2 z2 ⊢
  obtain ⟨pL, hpL⟩ : ∃ pL, w1.heap.size = pL := ⟨_, rfl⟩
  rw [hpL] at hz2 hz1 hz0 z2 HL2 ⊢
  clear HZ1 HB1 hpL
  have hpL2 : pL < w2.heap.size := by omega
  clear z2
  refine ⟨trivial, (callsIn_wide.2 (impl_walk w2 W H A n c x y dx dy s)).mono ?_⟩
  rintro e w3 ⟨rfl, h3, h4, h5, b3, z3⟩
  have HZ3 := Lib.hid (HZ2.out.below b3 HZ2.out.lt)
  have HL3 := Lib.hid (HL2.out.below b3 HL2.out.lt)
  have HB3 := Lib.hid (HB2.out.trans (b3.mono HB2.out.size))
  have H3 := Lib.hid h3
  have H4 := Lib.hid h4
  have H5 := Lib.hid h5
  have Z3 := Lib.hid z3
  have zz := b3.size
  clear b3 h3 h4 h5 z3 HZ2 HL2 HB2
  gi_wp2
  have HW := Lib.hid (show Below w.heap.size w w3 from HB3.out)
  have hle := HB3.out.size
  have hit := walk_iter 3 (by omega) w w3 W H A n c f x y dx dy s _ _ _ HR.out HT.out HC.out HS.out HB3.out H3.out H4.out H5.out
  have hz : w3.heap.size = w2.heap.size + 1 + 1 + 1 := Z3.out
  refine wpIn_rangeIt rfl (by omega) (gf := 119) (lb := #[.pointer (some ⟨w2.heap.size + 1, 0, none⟩), .pointer (some ⟨w2.heap.size + 1 + 1, 0, none⟩), .pointer (some ⟨w2.heap.size, 0, none⟩)]) rfl trivial (enters_of Tryd.func119 (by kernel_rfl) rfl) hit hle (by simp; omega) (Below.refl _ _) (fun _ => rfl)
    (IStp W H f (x, y, dx, dy) pL (w.heap.size + 1 + 1) w) (fun _ _ _ => False)
    (holds_istp (by omega) (by omega) hle (by omega)) (fun _ => holds_false _ _) ⟨HL3.out, HZ3.out, HB3.out⟩
    (fun k a' X => ∃ p9, a' = { tmps := #[.agg #[.int .i64 W, .int .i64 H, .slice A n c], .agg #[.int .i64 x, .int .i64 y, .int .i64 dx, .int .i64 dy], .int .i64 s, .pointer (some ⟨w.heap.size, 0, none⟩), .pointer (some ⟨w.heap.size + 1, 0, none⟩), undef, .pointer (some ⟨w.heap.size + 1 + 1, 0, none⟩), .int .i64 0,
        .pointer (some ⟨pL, 0, none⟩), .pointer (some ⟨p9, 0, none⟩), .agg #[.int .i64 W, .int .i64 H, .slice A n c], .agg #[.int .i64 x, .int .i64 y, .int .i64 dx, .int .i64 dy], .bool true, .bool false, undef, .int .i64 s, .bool false, .bool false, .int .i64 s, .bool false, .bool false, undef,
        .agg #[.int .i64 x, .int .i64 y, .int .i64 dx, .int .i64 dy], .agg #[.int .i64 W, .int .i64 H, .slice A n c], .func (.func 63) #[.agg #[.int .i64 W, .int .i64 H, .slice A n c]] #[], .agg #[.int .i64 x, .int .i64 y, .int .i64 dx, .int .i64 dy], .int .i64 s,
        .func (.func 119) #[] #[.pointer (some ⟨w2.heap.size + 1, 0, none⟩), .pointer (some ⟨w2.heap.size + 1 + 1, 0, none⟩), .pointer (some ⟨w2.heap.size, 0, none⟩)], wagg (stps W H f (k + 1) (x, y, dx, dy)), undef, undef], defers := [] } ∧
      At X p9 (cs4 (stps W H f (k + 1) (x, y, dx, dy))).toArray 32)
    (fun k a' X l o' h ho => by obtain ⟨p9, e, ha⟩ := h; exact ⟨p9, e, at_put ha ho⟩) ?assign ?body ?done ?stop
  case assign =>
    intro l k X K hk hX hi hK
    clear hit
    dsimp only [wagg]
    obtain ⟨v, hv⟩ : ∃ v, v = stps W H f (k + 1) (x, y, dx, dy) := ⟨_, rfl⟩
    rw [← hv] at hK ⊢
    have HV := Lib.hid hv
    clear hv
    gi_wp2
    exact hK _ _ ((Below.refl _ _).alloc (Nat.le_refl _) _) ⟨_, rfl, At.new _ _ _⟩
  case body =>
    rintro l k a' X hk hX ⟨i1, i2, i3⟩ ⟨p9, rfl, h9⟩
    clear hit
    have HI1 := Lib.hid i1
    have HI2 := Lib.hid i2
    have HI3 := Lib.hid i3
    have H9 := Lib.hid h9
    obtain ⟨v, hv⟩ : ∃ v, v = stps W H f (k + 1) (x, y, dx, dy) := ⟨_, rfl⟩
    rw [← hv] at H9 ⊢
    have HV := Lib.hid hv
    clear hv i1 i2 i3 h9
    have q0 : X.cell? ⟨p9, 0, none⟩ = some (.int .i64 v.1) := H9.out.cellv (i := 0) rfl
    have q1 : X.cell? ⟨p9, 1, none⟩ = some (.int .i64 v.2.1) := H9.out.cellv (i := 1) rfl
    have q2 : X.cell? ⟨p9, 2, none⟩ = some (.int .i64 v.2.2.1) := H9.out.cellv (i := 2) rfl
    have q3 : X.cell? ⟨p9, 3, none⟩ = some (.int .i64 v.2.2.2) := H9.out.cellv (i := 3) rfl
    have l0 : X.cell? ⟨pL, 0, none⟩ = some (.int .i64 (stps W H f k (x, y, dx, dy)).1) := HI1.out.cellv (i := 0) rfl
    have l1 : X.cell? ⟨pL, 1, none⟩ = some (.int .i64 (stps W H f k (x, y, dx, dy)).2.1) := HI1.out.cellv (i := 1) rfl
    have l2 : X.cell? ⟨pL, 2, none⟩ = some (.int .i64 (stps W H f k (x, y, dx, dy)).2.2.1) := HI1.out.cellv (i := 2) rfl
    have l3 : X.cell? ⟨pL, 3, none⟩ = some (.int .i64 (stps W H f k (x, y, dx, dy)).2.2.2) := HI1.out.cellv (i := 3) rfl
    have f0 := HI1.out.frozen 0
    have f1 := HI1.out.frozen 1
    have f2 := HI1.out.frozen 2
    have f3 := HI1.out.frozen 3
    have zL := HI1.out.lt
    gi_wp2
    refine ⟨⟨[pL], (((Ext.set _ _ _ (by simp)).trans (Ext.set _ _ _ (by simp))).trans (Ext.set _ _ _ (by simp))).trans (Ext.set _ _ _ (by simp)), fun b hb => ?_⟩, ?_, ?_, ?_⟩
    · simp at hb
      subst hb
      refine ⟨by omega, by simp; omega, fun o ho hB => by omega⟩
    · rw [← HV.out]
      exact at_set4 HI1.out rfl
    · exact (((HI2.out.setOther (a := ⟨pL, 0, none⟩) (show pL ≠ _ by omega) _).setOther (a := ⟨pL, 1, none⟩) (show pL ≠ _ by omega) _).setOther (a := ⟨pL, 2, none⟩) (show pL ≠ _ by omega) _).setOther (a := ⟨pL, 3, none⟩) (show pL ≠ _ by omega) _
    · exact (((HI3.out.setCell (p := ⟨pL, 0, none⟩) (show w.heap.size ≤ pL by omega) _).setCell (p := ⟨pL, 1, none⟩) (show w.heap.size ≤ pL by omega) _).setCell (p := ⟨pL, 2, none⟩) (show w.heap.size ≤ pL by omega) _).setCell (p := ⟨pL, 3, none⟩) (show w.heap.size ≤ pL by omega) _
  case done =>
    rintro D X hD ⟨i1, i2, i3⟩ hK
    clear hit
    have HI1 := Lib.hid i1
    have HI2 := Lib.hid i2
    have HI3 := Lib.hid i3
    have HKD := Lib.hid hK
    obtain ⟨v, hv⟩ : ∃ v, v = stps W H f s.toNat (x, y, dx, dy) := ⟨_, rfl⟩
    rw [← hv] at HI1 ⊢
    have HVD := Lib.hid hv
    clear hv i1 i2 i3 hK
    have q0 : X.cell? ⟨pL, 0, none⟩ = some (.int .i64 v.1) := HI1.out.cellv (i := 0) rfl
    have q1 : X.cell? ⟨pL, 1, none⟩ = some (.int .i64 v.2.1) := HI1.out.cellv (i := 1) rfl
    have q2 : X.cell? ⟨pL, 2, none⟩ = some (.int .i64 v.2.2.1) := HI1.out.cellv (i := 2) rfl
    have q3 : X.cell? ⟨pL, 3, none⟩ = some (.int .i64 v.2.2.2) := HI1.out.cellv (i := 3) rfl
    have l0 : X.cell? ⟨w.heap.size + 1 + 1, 0, none⟩ = some (.int .i64 0) := HI2.out.cellv (i := 0) rfl
    have l1 : X.cell? ⟨w.heap.size + 1 + 1, 1, none⟩ = some (.int .i64 0) := HI2.out.cellv (i := 1) rfl
    have l2 : X.cell? ⟨w.heap.size + 1 + 1, 2, none⟩ = some (.int .i64 0) := HI2.out.cellv (i := 2) rfl
    have l3 : X.cell? ⟨w.heap.size + 1 + 1, 3, none⟩ = some (.int .i64 0) := HI2.out.cellv (i := 3) rfl
    have f0 := HI2.out.frozen 0
    have f1 := HI2.out.frozen 1
    have f2 := HI2.out.frozen 2
    have f3 := HI2.out.frozen 3
    have zL := HI2.out.lt
    gi_wp2
    have HA := Lib.hid (at_set4 (a := .int .i64 v.1) (b := .int .i64 v.2.1) (c := .int .i64 v.2.2.1) (d := .int .i64 v.2.2.2) HI2.out rfl)
    have HBX := Lib.hid ((((HI3.out.setCell (p := ⟨w.heap.size + 1 + 1, 0, none⟩) (show w.heap.size ≤ w.heap.size + 1 + 1 by omega) (.int .i64 v.1)).setCell (p := ⟨w.heap.size + 1 + 1, 1, none⟩) (show w.heap.size ≤ w.heap.size + 1 + 1 by omega) (.int .i64 v.2.1)).setCell (p := ⟨w.heap.size + 1 + 1, 2, none⟩) (show w.heap.size ≤ w.heap.size + 1 + 1 by omega) (.int .i64 v.2.2.1)).setCell (p := ⟨w.heap.size + 1 + 1, 3, none⟩) (show w.heap.size ≤ w.heap.size + 1 + 1 by omega) (.int .i64 v.2.2.2))
    have hD2 : w.heap.size + 1 + 1 ≠ D := by omega
    have HKX := Lib.hid (show ((((X.setCell ⟨w.heap.size + 1 + 1, 0, none⟩ (.int .i64 v.1)).setCell ⟨w.heap.size + 1 + 1, 1, none⟩ (.int .i64 v.2.1)).setCell ⟨w.heap.size + 1 + 1, 2, none⟩ (.int .i64 v.2.2.1)).setCell ⟨w.heap.size + 1 + 1, 3, none⟩ (.int .i64 v.2.2.2)).heap[D]? = some (.deferred (some [])) from by
      rw [Below.heap_setCell _ _ _ _ (by simpa using fun e => hD2 e.symm), Below.heap_setCell _ _ _ _ (by simpa using fun e => hD2 e.symm), Below.heap_setCell _ _ _ _ (by simpa using fun e => hD2 e.symm), Below.heap_setCell _ _ _ _ (by simpa using fun e => hD2 e.symm)]; exact HKD.out)
    clear q0 q1 q2 q3 l0 l1 l2 l3 f0 f1 f2 f3
    generalize (((X.setCell ⟨w.heap.size + 1 + 1, 0, none⟩ (.int .i64 v.1)).setCell ⟨w.heap.size + 1 + 1, 1, none⟩ (.int .i64 v.2.1)).setCell ⟨w.heap.size + 1 + 1, 2, none⟩ (.int .i64 v.2.2.1)).setCell ⟨w.heap.size + 1 + 1, 3, none⟩ (.int .i64 v.2.2.2) = Y at HA HBX HKX ⊢
    refine ⟨by simp, .inl ⟨_, _, rfl, run_takeDeferred HKX.out, ?_⟩⟩
    have HA2 := Lib.hid (at_put (o' := .deferred none) HA.out ⟨_, HKX.out, rfl⟩)
    have HB2 := Lib.hid (HBX.out.grown (grownBy_putObj' Y D (.deferred none)) HBX.out.size (fun j e => by cases e; omega))
    clear HA HBX HKX
    generalize Y.putObj D (.deferred none) = Z at HA2 HB2 ⊢
    have q0 : Z.cell? ⟨w.heap.size + 1 + 1, 0, none⟩ = some (.int .i64 v.1) := HA2.out.cellv (i := 0) rfl
    have q1 : Z.cell? ⟨w.heap.size + 1 + 1, 1, none⟩ = some (.int .i64 v.2.1) := HA2.out.cellv (i := 1) rfl
    have q2 : Z.cell? ⟨w.heap.size + 1 + 1, 2, none⟩ = some (.int .i64 v.2.2.1) := HA2.out.cellv (i := 2) rfl
    have q3 : Z.cell? ⟨w.heap.size + 1 + 1, 3, none⟩ = some (.int .i64 v.2.2.2) := HA2.out.cellv (i := 3) rfl
    refine ⟨_, ?_, rfl, HB2.out⟩
    simp [results, Tryd.results21, go_sem, q0, q1, q2, q3, cs4]
    rw [← HVD.out]
    exact ⟨rfl, rfl, rfl, rfl⟩
  case stop =>
    rintro D t k X hD hk h _
    exact h.elim

/-! both, in one word -/
def wsR (W H : Int) (n : Nat) (f : Nat → Int) (x y dx dy s : Int) : W4 := if wkB W H n f x y dx dy = true ∧ inB s 0 10000 = true then stps W H f s.toNat (x, y, dx, dy) else (0, 0, 0, 0)
def wsC (W H : Int) (n : Nat) (f : Nat → Int) (x y dx dy s : Int) : Int := if wkB W H n f x y dx dy = true then if inB s 0 10000 = true then 0 else 2 else 1
section
variable (w : World) (W H : Int) (A : Option Addr) (n c : Nat) (f : Nat → Int) (x y dx dy s : Int)
theorem spec_walkSteps (hr : Row .i64 w A n c f) :
    Calls Tryd.prog 20 #[.agg #[.int .i64 W, .int .i64 H, .slice A n c], .agg #[.int .i64 x, .int .i64 y, .int .i64 dx, .int .i64 dy], .int .i64 s] w (Gives (.tuple #[.agg #[.int .i64 (wsR W H n f x y dx dy s).1, .int .i64 (wsR W H n f x y dx dy s).2.1, .int .i64 (wsR W H n f x y dx dy s).2.2.1, .int .i64 (wsR W H n f x y dx dy s).2.2.2], .int .i64 (wsC W H n f x y dx dy s)]) w) := by
  unfold wsR wsC
  cases hw : wkB W H n f x y dx dy
  · simp only [Bool.false_eq_true, false_and, if_false]
    exact spec_walkStepsBad w W H A n c f x y dx dy s hr hw
  · cases hs : inB s 0 10000
    · simp only [Bool.false_eq_true, and_false, if_false, if_true]
      exact spec_walkStepsOut w W H A n c f x y dx dy s hr hw hs
    · simp only [and_self, if_true]
      exact spec_walkStepsOk w W H A n c f x y dx dy s hr hw hs
theorem impl_walkSteps (hr : Row .i64 w A n c f) (hT : Cel w 0 [.int .i64 1, .int .i64 1, .int .i64 (-1), .int .i64 1, .int .i64 1, .int .i64 (-1)]) :
    Calls Tryd.prog 21 #[.agg #[.int .i64 W, .int .i64 H, .slice A n c], .agg #[.int .i64 x, .int .i64 y, .int .i64 dx, .int .i64 dy], .int .i64 s] w (Gives (.tuple #[.agg #[.int .i64 (wsR W H n f x y dx dy s).1, .int .i64 (wsR W H n f x y dx dy s).2.1, .int .i64 (wsR W H n f x y dx dy s).2.2.1, .int .i64 (wsR W H n f x y dx dy s).2.2.2], .int .i64 (wsC W H n f x y dx dy s)]) w) := by
  unfold wsR wsC
  cases hw : wkB W H n f x y dx dy
  · simp only [Bool.false_eq_true, false_and, if_false]
    exact impl_walkStepsBad w W H A n c f x y dx dy s hr hw
  · cases hs : inB s 0 10000
    · simp only [Bool.false_eq_true, and_false, if_false, if_true]
      exact impl_walkStepsOut w W H A n c f x y dx dy s hr hw hs
    · simp only [and_self, if_true]
      exact impl_walkStepsOk w W H A n c f x y dx dy s hr hT hw hs
end
end Go.Proofs.YtajikegfladelaaDoor.Base
