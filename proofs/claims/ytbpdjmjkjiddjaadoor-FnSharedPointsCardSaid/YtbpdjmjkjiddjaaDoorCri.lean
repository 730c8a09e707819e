/-
  Crossings of curves: the program's segments at a point, and the curves through it.
-/
import Derived.Test.YtbpdjmjkjiddjaaDoorCrs
import Derived.Test.YtbpdjmjkjiddjaaDoorStg
import Derived.Test.YtbpdjmjkjiddjaaDoorMps
import Derived.Test.YtbpdjmjkjiddjaaDoorTcj
import Derived.WalkMore
namespace Go.Proofs.YtbpdjmjkjiddjaaDoor.Base
open Go Go.RowKit
set_option linter.unusedVariables false
set_option linter.unusedSimpArgs false

theorem dir_at0 (w : World) : (Instr.index 235 (.agg #[.int .i64 (-1), .int .i64 (-1), .int .i64 1, .int .i64 (-1), .int .i64 (-1), .int .i64 1, .int .i64 1, .int .i64 1]) (.int .i64 0)).run Tryd.prog w = .ok (.agg #[.int .i64 (-1), .int .i64 (-1)]) w := by kernel_rfl
theorem dir_at1 (w : World) : (Instr.index 235 (.agg #[.int .i64 (-1), .int .i64 (-1), .int .i64 1, .int .i64 (-1), .int .i64 (-1), .int .i64 1, .int .i64 1, .int .i64 1]) (.int .i64 1)).run Tryd.prog w = .ok (.agg #[.int .i64 1, .int .i64 (-1)]) w := by kernel_rfl
theorem dir_at2 (w : World) : (Instr.index 235 (.agg #[.int .i64 (-1), .int .i64 (-1), .int .i64 1, .int .i64 (-1), .int .i64 (-1), .int .i64 1, .int .i64 1, .int .i64 1]) (.int .i64 2)).run Tryd.prog w = .ok (.agg #[.int .i64 (-1), .int .i64 1]) w := by kernel_rfl
theorem dir_at3 (w : World) : (Instr.index 235 (.agg #[.int .i64 (-1), .int .i64 (-1), .int .i64 1, .int .i64 (-1), .int .i64 (-1), .int .i64 1, .int .i64 1, .int .i64 1]) (.int .i64 3)).run Tryd.prog w = .ok (.agg #[.int .i64 1, .int .i64 1]) w := by kernel_rfl
theorem arr_at0 (w : World) (a b c d : Int) : (Instr.index 188 (.agg #[.int .i64 a, .int .i64 b, .int .i64 c, .int .i64 d]) (.int .i64 0)).run Tryd.prog w = .ok (.int .i64 a) w := by kernel_rfl
theorem arr_at1 (w : World) (a b c d : Int) : (Instr.index 188 (.agg #[.int .i64 a, .int .i64 b, .int .i64 c, .int .i64 d]) (.int .i64 1)).run Tryd.prog w = .ok (.int .i64 b) w := by kernel_rfl
theorem arr_at2 (w : World) (a b c d : Int) : (Instr.index 188 (.agg #[.int .i64 a, .int .i64 b, .int .i64 c, .int .i64 d]) (.int .i64 2)).run Tryd.prog w = .ok (.int .i64 c) w := by kernel_rfl
theorem arr_at3 (w : World) (a b c d : Int) : (Instr.index 188 (.agg #[.int .i64 a, .int .i64 b, .int .i64 c, .int .i64 d]) (.int .i64 3)).run Tryd.prog w = .ok (.int .i64 d) w := by kernel_rfl
/-- the array of the four segments while it is filled -/
def sqA (s0 s1 s2 s3 : Int) : Nat → Array Value
  | 0 => #[.int .i64 0, .int .i64 0, .int .i64 0, .int .i64 0]
  | 1 => #[.int .i64 s0, .int .i64 0, .int .i64 0, .int .i64 0]
  | 2 => #[.int .i64 s0, .int .i64 s1, .int .i64 0, .int .i64 0]
  | 3 => #[.int .i64 s0, .int .i64 s1, .int .i64 s2, .int .i64 0]
  | _ => #[.int .i64 s0, .int .i64 s1, .int .i64 s2, .int .i64 s3]
/-- the array of the segments at an inner point -/
def sq4 (H x y : Int) : Value := .agg #[.int .i64 (segOf H x y (-1) (-1)), .int .i64 (segOf H x y 1 (-1)), .int .i64 (segOf H x y (-1) 1), .int .i64 (segOf H x y 1 1)]
set_option maxHeartbeats 1000000 in
theorem leaving_0 (w : World) (x y : Int) (hT : Cel w 4 [.int .i64 (-1), .int .i64 (-1), .int .i64 1, .int .i64 (-1), .int .i64 (-1), .int .i64 1, .int .i64 1, .int .i64 1]) : Calls Tryd.prog 174 #[.agg #[.int .i64 x, .int .i64 y], .int .i64 0] w (Gives (.agg #[.int .i64 x, .int .i64 y, .int .i64 (-1), .int .i64 (-1)]) w) := by
  have gl := hT.1
  have gz : w.heap.size ≠ 0 := by omega
  have gz2 : 0 < w.heap.size := by omega
  have g0 : w.cell? ⟨4, 0, none⟩ = some (.int .i64 (-1)) := hT.2 0 _ rfl
  have g1 : w.cell? ⟨4, 1, none⟩ = some (.int .i64 (-1)) := hT.2 1 _ rfl
  clear hT
  go_enter Tryd.func174, Tryd.ntmps174
  go_wp2
  refine bodyPost_ret ?_ rfl ⟨rfl, ?_⟩
  · simp [results, Tryd.results174, go_sem]
  · go_grown
set_option maxHeartbeats 1000000 in
theorem leaving_1 (w : World) (x y : Int) (hT : Cel w 4 [.int .i64 (-1), .int .i64 (-1), .int .i64 1, .int .i64 (-1), .int .i64 (-1), .int .i64 1, .int .i64 1, .int .i64 1]) : Calls Tryd.prog 174 #[.agg #[.int .i64 x, .int .i64 y], .int .i64 1] w (Gives (.agg #[.int .i64 x, .int .i64 y, .int .i64 (1), .int .i64 (-1)]) w) := by
  have gl := hT.1
  have gz : w.heap.size ≠ 0 := by omega
  have gz2 : 0 < w.heap.size := by omega
  have g0 : w.cell? ⟨4, 2, none⟩ = some (.int .i64 (1)) := hT.2 2 _ rfl
  have g1 : w.cell? ⟨4, 3, none⟩ = some (.int .i64 (-1)) := hT.2 3 _ rfl
  clear hT
  go_enter Tryd.func174, Tryd.ntmps174
  go_wp2
  refine bodyPost_ret ?_ rfl ⟨rfl, ?_⟩
  · simp [results, Tryd.results174, go_sem]
  · go_grown
set_option maxHeartbeats 1000000 in
theorem leaving_2 (w : World) (x y : Int) (hT : Cel w 4 [.int .i64 (-1), .int .i64 (-1), .int .i64 1, .int .i64 (-1), .int .i64 (-1), .int .i64 1, .int .i64 1, .int .i64 1]) : Calls Tryd.prog 174 #[.agg #[.int .i64 x, .int .i64 y], .int .i64 2] w (Gives (.agg #[.int .i64 x, .int .i64 y, .int .i64 (-1), .int .i64 (1)]) w) := by
  have gl := hT.1
  have gz : w.heap.size ≠ 0 := by omega
  have gz2 : 0 < w.heap.size := by omega
  have g0 : w.cell? ⟨4, 4, none⟩ = some (.int .i64 (-1)) := hT.2 4 _ rfl
  have g1 : w.cell? ⟨4, 5, none⟩ = some (.int .i64 (1)) := hT.2 5 _ rfl
  clear hT
  go_enter Tryd.func174, Tryd.ntmps174
  go_wp2
  refine bodyPost_ret ?_ rfl ⟨rfl, ?_⟩
  · simp [results, Tryd.results174, go_sem]
  · go_grown
set_option maxHeartbeats 1000000 in
theorem leaving_3 (w : World) (x y : Int) (hT : Cel w 4 [.int .i64 (-1), .int .i64 (-1), .int .i64 1, .int .i64 (-1), .int .i64 (-1), .int .i64 1, .int .i64 1, .int .i64 1]) : Calls Tryd.prog 174 #[.agg #[.int .i64 x, .int .i64 y], .int .i64 3] w (Gives (.agg #[.int .i64 x, .int .i64 y, .int .i64 (1), .int .i64 (1)]) w) := by
  have gl := hT.1
  have gz : w.heap.size ≠ 0 := by omega
  have gz2 : 0 < w.heap.size := by omega
  have g0 : w.cell? ⟨4, 6, none⟩ = some (.int .i64 (1)) := hT.2 6 _ rfl
  have g1 : w.cell? ⟨4, 7, none⟩ = some (.int .i64 (1)) := hT.2 7 _ rfl
  clear hT
  go_enter Tryd.func174, Tryd.ntmps174
  go_wp2
  refine bodyPost_ret ?_ rfl ⟨rfl, ?_⟩
  · simp [results, Tryd.results174, go_sem]
  · go_grown
set_option maxRecDepth 100000 in
set_option maxHeartbeats 2000000 in
theorem impl_segmentsAt (w : World) (W H x y : Int) (M : Nat) (hT : Cel w 4 [.int .i64 (-1), .int .i64 (-1), .int .i64 1, .int .i64 (-1), .int .i64 (-1), .int .i64 1, .int .i64 1, .int .i64 1]) (hH : sideB H = true) (x1 : 1 ≤ x) (x2 : x ≤ 16) (y1 : 1 ≤ y) (y2 : y ≤ 16) (hs : SegsIn H M x y) (hM : M ≤ 256) :
    Calls Tryd.prog 147 #[.agg #[.int .i64 W, .int .i64 H], .agg #[.int .i64 x, .int .i64 y]] w (Gives (sq4 H x y) w) := by
  unfold sq4
  obtain ⟨s0, e0⟩ : ∃ s0, segOf H x y (-1) (-1) = s0 := ⟨_, rfl⟩
  obtain ⟨s1, e1⟩ : ∃ s1, segOf H x y 1 (-1) = s1 := ⟨_, rfl⟩
  obtain ⟨s2, e2⟩ : ∃ s2, segOf H x y (-1) 1 = s2 := ⟨_, rfl⟩
  obtain ⟨s3, e3⟩ : ∃ s3, segOf H x y 1 1 = s3 := ⟨_, rfl⟩
  obtain ⟨⟨r0, r0'⟩, ⟨r1, r1'⟩, ⟨r2, r2'⟩, ⟨r3, r3'⟩⟩ := hs
  rw [e0] at r0 r0'
  rw [e1] at r1 r1'
  rw [e2] at r2 r2'
  rw [e3] at r3 r3'
  rw [e0, e1, e2, e3]
  have HE0 := Lib.hid e0
  have HE1 := Lib.hid e1
  have HE2 := Lib.hid e2
  have HE3 := Lib.hid e3
  have HT := Lib.hid hT
  have gl := hT.1
  have gz : w.heap.size ≠ 0 := by omega
  have gz2 : 0 < w.heap.size := by omega
  clear hT e0 e1 e2 e3
  go_enter Tryd.func147, Tryd.ntmps147
  go_wp2
  have A1 := (Below.refl w.heap.size w).alloc (Nat.le_refl _) (.cells #[.int .i64 W, .int .i64 H] 99)
  have A2 := A1.alloc A1.size (.cells #[.int .i64 x, .int .i64 y] 61)
  have A3 := A2.alloc A2.size (.cells #[.int .i64 0, .int .i64 0, .int .i64 0, .int .i64 0] 188)
  have A4 := A3.alloc A3.size (.cells #[.int .i64 0, .int .i64 0, .int .i64 0, .int .i64 0] 188)
  have HB := Lib.hid A4
  have HS0 := Lib.hid ((((At.new w #[.int .i64 W, .int .i64 H] 99).below ((Below.refl _ _).alloc (Nat.le_refl _) (.cells #[.int .i64 x, .int .i64 y] 61)) (by simp)).below ((Below.refl _ _).alloc (Nat.le_refl _) (.cells #[.int .i64 0, .int .i64 0, .int .i64 0, .int .i64 0] 188)) (by first | exact Nat.le_refl _ | (simp; done) | (simp; omega) | omega)).below ((Below.refl _ _).alloc (Nat.le_refl _) (.cells #[.int .i64 0, .int .i64 0, .int .i64 0, .int .i64 0] 188)) (by first | exact Nat.le_refl _ | (simp; done) | (simp; omega) | omega))
  have HS1 := Lib.hid (((show At ((w.alloc (.cells #[.int .i64 W, .int .i64 H] 99)).alloc (.cells #[.int .i64 x, .int .i64 y] 61)) (w.heap.size + 1) #[.int .i64 x, .int .i64 y] 61 from At.newAt (by simp)).below ((Below.refl _ _).alloc (Nat.le_refl _) (.cells #[.int .i64 0, .int .i64 0, .int .i64 0, .int .i64 0] 188)) (by simp)).below ((Below.refl _ _).alloc (Nat.le_refl _) (.cells #[.int .i64 0, .int .i64 0, .int .i64 0, .int .i64 0] 188)) (by first | exact Nat.le_refl _ | (simp; done) | (simp; omega) | omega))
  have HS2 := Lib.hid ((show At (((w.alloc (.cells #[.int .i64 W, .int .i64 H] 99)).alloc (.cells #[.int .i64 x, .int .i64 y] 61)).alloc (.cells #[.int .i64 0, .int .i64 0, .int .i64 0, .int .i64 0] 188)) (w.heap.size + 2) #[.int .i64 0, .int .i64 0, .int .i64 0, .int .i64 0] 188 from At.newAt (by simp)).below ((Below.refl _ _).alloc (Nat.le_refl _) (.cells #[.int .i64 0, .int .i64 0, .int .i64 0, .int .i64 0] 188)) (by simp))
  have HS3 := Lib.hid (show At ((((w.alloc (.cells #[.int .i64 W, .int .i64 H] 99)).alloc (.cells #[.int .i64 x, .int .i64 y] 61)).alloc (.cells #[.int .i64 0, .int .i64 0, .int .i64 0, .int .i64 0] 188)).alloc (.cells #[.int .i64 0, .int .i64 0, .int .i64 0, .int .i64 0] 188)) (w.heap.size + 3) (sqA s0 s1 s2 s3 0) 188 from At.newAt (by simp))
  clear A1 A2 A3 A4
  generalize (((w.alloc (.cells #[.int .i64 W, .int .i64 H] 99)).alloc (.cells #[.int .i64 x, .int .i64 y] 61)).alloc (.cells #[.int .i64 0, .int .i64 0, .int .i64 0, .int .i64 0] 188)).alloc (.cells #[.int .i64 0, .int .i64 0, .int .i64 0, .int .i64 0] 188) = w4 at HB HS0 HS1 HS2 HS3 ⊢
  go_loopw [8] (fun kv wr => ∃ k : Nat, k ≤ 4 ∧ kv = .int .i64 k ∧ Hid (At wr w.heap.size #[.int .i64 W, .int .i64 H] 99) ∧ Hid (At wr (w.heap.size + 1) #[.int .i64 x, .int .i64 y] 61) ∧ Hid (At wr (w.heap.size + 2) #[.int .i64 0, .int .i64 0, .int .i64 0, .int .i64 0] 188) ∧ Hid (At wr (w.heap.size + 3) (sqA s0 s1 s2 s3 k) 188) ∧ Hid (Below w.heap.size w wr)) (fun kv _ => 9 - (intOf kv).toNat)
  case atStart => exact ⟨0, by omega, rfl, HS0, HS1, HS2, HS3, HB⟩
  case round =>
    clear HB HS0 HS1 HS2 HS3
    obtain ⟨k, hk, rfl, H0, H1, H2, H3, HB⟩ := hrel
    have l0 := H0.out.lt
    have l1 := H1.out.lt
    have l2 := H2.out.lt
    have l3 := H3.out.lt
    have p0 := H0.out.cellv (i := 0) rfl
    have p1 := H0.out.cellv (i := 1) rfl
    have q0 := H1.out.cellv (i := 0) rfl
    have q1 := H1.out.cellv (i := 1) rfl
    have HTr := Lib.hid (HT.out.below HB.out HT.out.1)
    have HTd : Hid (Cel wr.drew 4 [.int .i64 (-1), .int .i64 (-1), .int .i64 1, .int .i64 (-1), .int .i64 (-1), .int .i64 1, .int .i64 1, .int .i64 1]) := Lib.hid (HTr.out.below (Below.refl _ wr).drew HTr.out.1)
    rcases (show k = 0 ∨ k = 1 ∨ k = 2 ∨ k = 3 ∨ k = 4 by omega) with rfl | rfl | rfl | rfl | rfl
    · go_wp2_with fail
      go_region_with (first
        | (go_at_call 174; (first | refine (leaving_0 _ x y HTd.out).mono ?_ | refine (leaving_0 _ x y HTr.out).mono ?_); rintro e wa ⟨rfl, ba⟩; have H0a := Lib.hid (H0.out.of_block (ba.block _ l0)); have p0a : wa.cell? ⟨w.heap.size, 0, none⟩ = some (.int .i64 W) := H0a.out.cellv (i := 0) rfl; have p1a : wa.cell? ⟨w.heap.size, 1, none⟩ = some (.int .i64 H) := H0a.out.cellv (i := 1) rfl; have p2a := H0a.out.lt; have HBa := Lib.hid (show Below wr.heap.size wr wa from (Below.refl wr.heap.size wr).drew.trans ba); clear ba)
        | (go_at_call 139; refine (implSeg _ W H x y (-1) (-1) hH (by omega) x2 (by omega) y2 (by omega) (by omega) rfl rfl).mono ?_; rintro e wb ⟨rfl, bb⟩; have HX := Lib.hid (HBa.out.trans (bb.mono HBa.out.size)); have H3b := Lib.hid (H3.out.below HX.out l3); have l3b := H3b.out.lt; have f3 := H3b.out.frozen 0; have c3 : wb.cell? ⟨w.heap.size + 3, 0, none⟩ = some (.int .i64 0) := H3b.out.cellv (i := 0) rfl; clear bb))
      all_goals
        clear p0 p1 q0 q1 l3b f3 c3
        rw [HE0.out]
        have X5 := HX.out
        have H05 := Lib.hid (H0.out.below X5 l0)
        have H15 := Lib.hid (H1.out.below X5 l1)
        have H25 := Lib.hid (H2.out.below X5 l2)
        have HB5 := Lib.hid (HB.out.trans (X5.mono HB.out.size))
        clear X5
        go_wp2
        go_roundw
        case rel => exact ⟨1, by omega, by go_num, Lib.hid (H05.out.setOther (a := ⟨w.heap.size + 3, 0, none⟩) (by simp) _), Lib.hid (H15.out.setOther (a := ⟨w.heap.size + 3, 0, none⟩) (by simp) _), Lib.hid (H25.out.setOther (a := ⟨w.heap.size + 3, 0, none⟩) (by simp) _), Lib.hid (H3b.out.set 0 (.int .i64 s0)), Lib.hid (HB5.out.setCell (p := ⟨w.heap.size + 3, 0, none⟩) (by simp) _)⟩
        case measure => simp [intOf]
    · go_wp2_with fail
      go_region_with (first
        | (go_at_call 174; (first | refine (leaving_1 _ x y HTd.out).mono ?_ | refine (leaving_1 _ x y HTr.out).mono ?_); rintro e wa ⟨rfl, ba⟩; have H0a := Lib.hid (H0.out.of_block (ba.block _ l0)); have p0a : wa.cell? ⟨w.heap.size, 0, none⟩ = some (.int .i64 W) := H0a.out.cellv (i := 0) rfl; have p1a : wa.cell? ⟨w.heap.size, 1, none⟩ = some (.int .i64 H) := H0a.out.cellv (i := 1) rfl; have p2a := H0a.out.lt; have HBa := Lib.hid (show Below wr.heap.size wr wa from (Below.refl wr.heap.size wr).drew.trans ba); clear ba)
        | (go_at_call 139; refine (implSeg _ W H x y (1) (-1) hH (by omega) x2 (by omega) y2 (by omega) (by omega) rfl rfl).mono ?_; rintro e wb ⟨rfl, bb⟩; have HX := Lib.hid (HBa.out.trans (bb.mono HBa.out.size)); have H3b := Lib.hid (H3.out.below HX.out l3); have l3b := H3b.out.lt; have f3 := H3b.out.frozen 1; have c3 : wb.cell? ⟨w.heap.size + 3, 1, none⟩ = some (.int .i64 0) := H3b.out.cellv (i := 1) rfl; clear bb))
      all_goals
        clear p0 p1 q0 q1 l3b f3 c3
        rw [HE1.out]
        have X5 := HX.out
        have H05 := Lib.hid (H0.out.below X5 l0)
        have H15 := Lib.hid (H1.out.below X5 l1)
        have H25 := Lib.hid (H2.out.below X5 l2)
        have HB5 := Lib.hid (HB.out.trans (X5.mono HB.out.size))
        clear X5
        go_wp2
        go_roundw
        case rel => exact ⟨2, by omega, by go_num, Lib.hid (H05.out.setOther (a := ⟨w.heap.size + 3, 1, none⟩) (by simp) _), Lib.hid (H15.out.setOther (a := ⟨w.heap.size + 3, 1, none⟩) (by simp) _), Lib.hid (H25.out.setOther (a := ⟨w.heap.size + 3, 1, none⟩) (by simp) _), Lib.hid (H3b.out.set 1 (.int .i64 s1)), Lib.hid (HB5.out.setCell (p := ⟨w.heap.size + 3, 1, none⟩) (by simp) _)⟩
        case measure => simp [intOf]
    · go_wp2_with fail
      go_region_with (first
        | (go_at_call 174; (first | refine (leaving_2 _ x y HTd.out).mono ?_ | refine (leaving_2 _ x y HTr.out).mono ?_); rintro e wa ⟨rfl, ba⟩; have H0a := Lib.hid (H0.out.of_block (ba.block _ l0)); have p0a : wa.cell? ⟨w.heap.size, 0, none⟩ = some (.int .i64 W) := H0a.out.cellv (i := 0) rfl; have p1a : wa.cell? ⟨w.heap.size, 1, none⟩ = some (.int .i64 H) := H0a.out.cellv (i := 1) rfl; have p2a := H0a.out.lt; have HBa := Lib.hid (show Below wr.heap.size wr wa from (Below.refl wr.heap.size wr).drew.trans ba); clear ba)
        | (go_at_call 139; refine (implSeg _ W H x y (-1) (1) hH (by omega) x2 (by omega) y2 (by omega) (by omega) rfl rfl).mono ?_; rintro e wb ⟨rfl, bb⟩; have HX := Lib.hid (HBa.out.trans (bb.mono HBa.out.size)); have H3b := Lib.hid (H3.out.below HX.out l3); have l3b := H3b.out.lt; have f3 := H3b.out.frozen 2; have c3 : wb.cell? ⟨w.heap.size + 3, 2, none⟩ = some (.int .i64 0) := H3b.out.cellv (i := 2) rfl; clear bb))
      all_goals
        clear p0 p1 q0 q1 l3b f3 c3
        rw [HE2.out]
        have X5 := HX.out
        have H05 := Lib.hid (H0.out.below X5 l0)
        have H15 := Lib.hid (H1.out.below X5 l1)
        have H25 := Lib.hid (H2.out.below X5 l2)
        have HB5 := Lib.hid (HB.out.trans (X5.mono HB.out.size))
        clear X5
        go_wp2
        go_roundw
        case rel => exact ⟨3, by omega, by go_num, Lib.hid (H05.out.setOther (a := ⟨w.heap.size + 3, 2, none⟩) (by simp) _), Lib.hid (H15.out.setOther (a := ⟨w.heap.size + 3, 2, none⟩) (by simp) _), Lib.hid (H25.out.setOther (a := ⟨w.heap.size + 3, 2, none⟩) (by simp) _), Lib.hid (H3b.out.set 2 (.int .i64 s2)), Lib.hid (HB5.out.setCell (p := ⟨w.heap.size + 3, 2, none⟩) (by simp) _)⟩
        case measure => simp [intOf]
    · go_wp2_with fail
      go_region_with (first
        | (go_at_call 174; (first | refine (leaving_3 _ x y HTd.out).mono ?_ | refine (leaving_3 _ x y HTr.out).mono ?_); rintro e wa ⟨rfl, ba⟩; have H0a := Lib.hid (H0.out.of_block (ba.block _ l0)); have p0a : wa.cell? ⟨w.heap.size, 0, none⟩ = some (.int .i64 W) := H0a.out.cellv (i := 0) rfl; have p1a : wa.cell? ⟨w.heap.size, 1, none⟩ = some (.int .i64 H) := H0a.out.cellv (i := 1) rfl; have p2a := H0a.out.lt; have HBa := Lib.hid (show Below wr.heap.size wr wa from (Below.refl wr.heap.size wr).drew.trans ba); clear ba)
        | (go_at_call 139; refine (implSeg _ W H x y (1) (1) hH (by omega) x2 (by omega) y2 (by omega) (by omega) rfl rfl).mono ?_; rintro e wb ⟨rfl, bb⟩; have HX := Lib.hid (HBa.out.trans (bb.mono HBa.out.size)); have H3b := Lib.hid (H3.out.below HX.out l3); have l3b := H3b.out.lt; have f3 := H3b.out.frozen 3; have c3 : wb.cell? ⟨w.heap.size + 3, 3, none⟩ = some (.int .i64 0) := H3b.out.cellv (i := 3) rfl; clear bb))
      all_goals
        clear p0 p1 q0 q1 l3b f3 c3
        rw [HE3.out]
        have X5 := HX.out
        have H05 := Lib.hid (H0.out.below X5 l0)
        have H15 := Lib.hid (H1.out.below X5 l1)
        have H25 := Lib.hid (H2.out.below X5 l2)
        have HB5 := Lib.hid (HB.out.trans (X5.mono HB.out.size))
        clear X5
        go_wp2
        go_roundw
        case rel => exact ⟨4, by omega, by go_num, Lib.hid (H05.out.setOther (a := ⟨w.heap.size + 3, 3, none⟩) (by simp) _), Lib.hid (H15.out.setOther (a := ⟨w.heap.size + 3, 3, none⟩) (by simp) _), Lib.hid (H25.out.setOther (a := ⟨w.heap.size + 3, 3, none⟩) (by simp) _), Lib.hid (H3b.out.set 3 (.int .i64 s3)), Lib.hid (HB5.out.setCell (p := ⟨w.heap.size + 3, 3, none⟩) (by simp) _)⟩
        case measure => simp [intOf]
    · have z0 := H2.out.cellv (i := 0) rfl
      have z1 := H2.out.cellv (i := 1) rfl
      have z2 := H2.out.cellv (i := 2) rfl
      have z3 := H2.out.cellv (i := 3) rfl
      have f0 := H2.out.frozen 0
      have f1 := H2.out.frozen 1
      have f2 := H2.out.frozen 2
      have f3 := H2.out.frozen 3
      have c0 : wr.cell? ⟨w.heap.size + 3, 0, none⟩ = some (.int .i64 s0) := H3.out.cellv (i := 0) rfl
      have c1 : wr.cell? ⟨w.heap.size + 3, 1, none⟩ = some (.int .i64 s1) := H3.out.cellv (i := 1) rfl
      have c2 : wr.cell? ⟨w.heap.size + 3, 2, none⟩ = some (.int .i64 s2) := H3.out.cellv (i := 2) rfl
      have c3 : wr.cell? ⟨w.heap.size + 3, 3, none⟩ = some (.int .i64 s3) := H3.out.cellv (i := 3) rfl
      go_wp2
      refine bodyPost_ret ?_ rfl ⟨rfl, ((((HB.out.setCell (by first | exact Nat.le_refl _ | (simp; done) | (simp; omega) | omega) _).setCell (by first | exact Nat.le_refl _ | (simp; done) | (simp; omega) | omega) _).setCell (by first | exact Nat.le_refl _ | (simp; done) | (simp; omega) | omega) _).setCell (by first | exact Nat.le_refl _ | (simp; done) | (simp; omega) | omega) _)⟩
      simp [results, Tryd.results147, go_sem, z0, z1, z2, z3]

theorem rowIs_ext {w w' : World} {T : TypeId} {b n : Nat} {F : Nat → Value} {X : List Nat} (h : w.rowIs b T n F) (he : Ext X w w') (hx : b ∉ X) : w'.rowIs b T n F := h.of_block (he.block b h.lt hx)
/-- the set of the curves at a point while it is filled -/
def setK (z0 z1 z2 z3 : Nat) : Nat → Nat → Bool
  | 0 => fun _ => false
  | 1 => fun s => s == z0 || false
  | 2 => fun s => s == z1 || (s == z0 || false)
  | 3 => fun s => s == z2 || (s == z1 || (s == z0 || false))
  | _ => fun s => s == z3 || (s == z2 || (s == z1 || (s == z0 || false)))
/-- what through makes: a set of its own -/
def ThroughOut (z0 z1 z2 z3 : Nat) (w : World) (e : Ending) (w' : World) : Prop :=
  ∃ mb, e = .returned (.map (some mb)) ∧ w.heap.size ≤ mb ∧ SetIs w' mb 4 (setK z0 z1 z2 z3 4) ∧ Below w.heap.size w w'
set_option maxRecDepth 100000 in
set_option maxHeartbeats 4000000 in
theorem impl_through (w : World) (W H x y : Int) (A Au : Option Addr) (n c N cu cv M z0 z1 z2 z3 : Nat) (g : Nat → Int) (hT : Cel w 4 [.int .i64 (-1), .int .i64 (-1), .int .i64 1, .int .i64 (-1), .int .i64 (-1), .int .i64 1, .int .i64 1, .int .i64 1]) (ho : w.rowIs cv 2 M (fun s => .int .i64 (g s))) (hH : sideB H = true) (x1 : 1 ≤ x) (x2 : x ≤ 16) (y1 : 1 ≤ y) (y2 : y ≤ 16)
    (hs : SegsIn H M x y) (hM : M ≤ 256) (h0 : me0 H g x y = (z0 : Int)) (h1 : me1 H g x y = (z1 : Int)) (h2 : me2 H g x y = (z2 : Int)) (h3 : me3 H g x y = (z3 : Int)) (b0 : z0 ≤ 256) (b1 : z1 ≤ 256) (b2 : z2 ≤ 256) (b3 : z3 ≤ 256) :
    Calls Tryd.prog 105 #[.agg #[.int .i64 W, .int .i64 H, .slice A n c, .slice Au N cu, .slice (some ⟨cv, 0, none⟩) M M], .agg #[.int .i64 x, .int .i64 y]] w (ThroughOut z0 z1 z2 z3 w) := by
  have HTD := Lib.hid hT
  have HO := Lib.hid ho
  have HSI := Lib.hid hs
  have hvl := ho.lt
  obtain ⟨⟨r0, r0'⟩, ⟨r1, r1'⟩, ⟨r2, r2'⟩, ⟨r3, r3'⟩⟩ := hs
  obtain ⟨s0, e0⟩ : ∃ s0 : Nat, segOf H x y (-1) (-1) = s0 := ⟨(segOf H x y (-1) (-1)).toNat, by omega⟩
  obtain ⟨s1, e1⟩ : ∃ s1 : Nat, segOf H x y 1 (-1) = s1 := ⟨(segOf H x y 1 (-1)).toNat, by omega⟩
  obtain ⟨s2, e2⟩ : ∃ s2 : Nat, segOf H x y (-1) 1 = s2 := ⟨(segOf H x y (-1) 1).toNat, by omega⟩
  obtain ⟨s3, e3⟩ : ∃ s3 : Nat, segOf H x y 1 1 = s3 := ⟨(segOf H x y 1 1).toNat, by omega⟩
  have g0 : g s0 = (z0 : Int) := by rw [← h0]; unfold me0; rw [e0]; rfl
  have g1 : g s1 = (z1 : Int) := by rw [← h1]; unfold me1; rw [e1]; rfl
  have g2 : g s2 = (z2 : Int) := by rw [← h2]; unfold me2; rw [e2]; rfl
  have g3 : g s3 = (z3 : Int) := by rw [← h3]; unfold me3; rw [e3]; rfl
  have hsq : sq4 H x y = .agg #[.int .i64 s0, .int .i64 s1, .int .i64 s2, .int .i64 s3] := by unfold sq4; rw [e0, e1, e2, e3]
  rw [e0] at r0'
  rw [e1] at r1'
  rw [e2] at r2'
  rw [e3] at r3'
  have HG0 := Lib.hid g0
  have HG1 := Lib.hid g1
  have HG2 := Lib.hid g2
  have HG3 := Lib.hid g3
  have HSQ := Lib.hid hsq
  have k0 : s0 < M := by omega
  have k1 : s1 < M := by omega
  have k2 : s2 < M := by omega
  have k3 : s3 < M := by omega
  clear hT ho h0 h1 h2 h3 e0 e1 e2 e3 g0 g1 g2 g3 r0 r1 r2 r3 r0' r1' r2' r3' hsq
  have hmm := @run_makeMap Tryd.prog
  go_enter Tryd.func105, Tryd.ntmps105
  go_wp2
  clear hmm
  have A1 := (Below.refl w.heap.size w).alloc (Nat.le_refl _) (.cells #[.int .i64 W, .int .i64 H, .slice A n c, .slice Au N cu, .slice (some ⟨cv, 0, none⟩) M M] 84)
  have A2 := A1.alloc A1.size (.cells #[.int .i64 x, .int .i64 y] 61)
  have A3 := A2.alloc A2.size (.map #[] 0)
  have HB := Lib.hid A3
  have HS0 := Lib.hid (((At.new w #[.int .i64 W, .int .i64 H, .slice A n c, .slice Au N cu, .slice (some ⟨cv, 0, none⟩) M M] 84).below ((Below.refl _ _).alloc (Nat.le_refl _) (.cells #[.int .i64 x, .int .i64 y] 61)) (by simp)).below ((Below.refl _ _).alloc (Nat.le_refl _) (.map #[] 0)) (by first | exact Nat.le_refl _ | (simp; done) | (simp; omega) | omega))
  have HS1 := Lib.hid ((show At ((w.alloc (.cells #[.int .i64 W, .int .i64 H, .slice A n c, .slice Au N cu, .slice (some ⟨cv, 0, none⟩) M M] 84)).alloc (.cells #[.int .i64 x, .int .i64 y] 61)) (w.heap.size + 1) #[.int .i64 x, .int .i64 y] 61 from At.newAt (by simp)).below ((Below.refl _ _).alloc (Nat.le_refl _) (.map #[] 0)) (by simp))
  have HM0 := Lib.hid (SetIs.new ((w.alloc (.cells #[.int .i64 W, .int .i64 H, .slice A n c, .slice Au N cu, .slice (some ⟨cv, 0, none⟩) M M] 84)).alloc (.cells #[.int .i64 x, .int .i64 y] 61)))
  have hmz : ((w.alloc (.cells #[.int .i64 W, .int .i64 H, .slice A n c, .slice Au N cu, .slice (some ⟨cv, 0, none⟩) M M] 84)).alloc (.cells #[.int .i64 x, .int .i64 y] 61)).heap.size = w.heap.size + 1 + 1 := by simp
  have hwz : (((w.alloc (.cells #[.int .i64 W, .int .i64 H, .slice A n c, .slice Au N cu, .slice (some ⟨cv, 0, none⟩) M M] 84)).alloc (.cells #[.int .i64 x, .int .i64 y] 61)).alloc (.map #[] 0)).heap.size = w.heap.size + 1 + 1 + 1 := by simp
  rw [hmz] at HM0
  clear A1 A2 A3 hmz
  generalize ((w.alloc (.cells #[.int .i64 W, .int .i64 H, .slice A n c, .slice Au N cu, .slice (some ⟨cv, 0, none⟩) M M] 84)).alloc (.cells #[.int .i64 x, .int .i64 y] 61)).alloc (.map #[] 0) = w4 at HB HS0 HS1 HM0 hwz ⊢
  have c0 : w4.cell? ⟨w.heap.size, 0, none⟩ = some (.int .i64 W) := HS0.out.cellv (i := 0) rfl
  have c1 : w4.cell? ⟨w.heap.size, 1, none⟩ = some (.int .i64 H) := HS0.out.cellv (i := 1) rfl
  have c2 : w4.cell? ⟨w.heap.size, 2, none⟩ = some (.slice A n c) := HS0.out.cellv (i := 2) rfl
  have d0 : w4.cell? ⟨w.heap.size + 1, 0, none⟩ = some (.int .i64 x) := HS1.out.cellv (i := 0) rfl
  have d1 : w4.cell? ⟨w.heap.size + 1, 1, none⟩ = some (.int .i64 y) := HS1.out.cellv (i := 1) rfl
  have l0 := HS0.out.lt
  have l1 := HS1.out.lt
  refine wp_region_stab [some 9, some 10, some 11, some 12, some 13, some 14] [9, 10, 11, 12, 13, 14] [] []
    [(fun a lo hi u w' => u = .pointer (some ⟨w.heap.size, 0, none⟩)), (fun a lo hi u w' => u = .agg #[.int .i64 W, .int .i64 H, .slice A n c]), (fun a lo hi u w' => u = .agg #[.int .i64 W, .int .i64 H]),
      (fun a lo hi u w' => u = .agg #[.int .i64 x, .int .i64 y]), (fun a lo hi u w' => u = sq4 H x y), (fun a lo hi u w' => u = .int .i64 0)]
    [[], [0], [1], [], [2, 3], []] [[], [], [], [], [], []] (by kernel_rfl) (by kernel_rfl) (fun k hk => absurd hk List.not_mem_nil) ?gS ?gO ?gR
  case gS => exact ⟨fun _ _ _ _ _ _ h _ => h, fun _ _ _ _ _ _ h _ => h, fun _ _ _ _ _ _ h _ => h, fun _ _ _ _ _ _ h _ => h, fun _ _ _ _ _ _ h _ => h, fun _ _ _ _ _ _ h _ => h, trivial⟩
  case gO =>
    refine ⟨?o0, ?o1, ?o2, ?o3, ?o4, ?o5, trivial⟩
    case o0 =>
      intro vs iv wk hx hf
      have ezz : w.heap.size < wk.heap.size := Nat.lt_of_lt_of_le l0 hx.size
      intro K' hK
      simp only [setA, setT, List.setIfInBounds_toArray, List.set_cons_zero, List.set_cons_succ]
      go_simp
      refine hK.out _ (.pointer (some ⟨w.heap.size, 0, none⟩)) _ ?_ ?_
      · simp only [setA, setT, List.setIfInBounds_toArray, List.set_cons_zero, List.set_cons_succ, Act.put]
      · exact ⟨Ext.refl _ _, rfl⟩
    case o1 =>
      intro vs iv wk hx hf
      obtain ⟨⟨hq, -⟩, -⟩ := hf
      have hq : vs 9 = .pointer (some ⟨w.heap.size, 0, none⟩) := hq
      have ezz : w.heap.size < wk.heap.size := Nat.lt_of_lt_of_le l0 hx.size
      have e0 : wk.cell? ⟨w.heap.size, 0, none⟩ = some (.int .i64 W) := hx.cell c0 (by simp)
      have e1 : wk.cell? ⟨w.heap.size, 1, none⟩ = some (.int .i64 H) := hx.cell c1 (by simp)
      have e2 : wk.cell? ⟨w.heap.size, 2, none⟩ = some (.slice A n c) := hx.cell c2 (by simp)
      intro K' hK
      simp only [setA, setT, List.setIfInBounds_toArray, List.set_cons_zero, List.set_cons_succ]
      go_simp
      refine hK.out _ (.agg #[.int .i64 W, .int .i64 H, .slice A n c]) _ ?_ ?_
      · simp only [setA, setT, List.setIfInBounds_toArray, List.set_cons_zero, List.set_cons_succ, Act.put, hq]
      · exact ⟨Ext.refl _ _, rfl⟩
    case o2 =>
      intro vs iv wk hx hf
      obtain ⟨⟨hq, -⟩, -⟩ := hf
      have hq : vs 10 = .agg #[.int .i64 W, .int .i64 H, .slice A n c] := hq
      intro K' hK
      simp only [setA, setT, List.setIfInBounds_toArray, List.set_cons_zero, List.set_cons_succ]
      go_simp
      refine (sizeOf_any _ W H A n c).mono ?_
      rintro e w2 ⟨rfl, b2⟩
      dsimp only
      refine hK.out _ (.agg #[.int .i64 W, .int .i64 H]) _ ?_ ?_
      · simp only [setA, setT, List.setIfInBounds_toArray, List.set_cons_zero, List.set_cons_succ, Act.put, hq]
      · exact ⟨Ext.of_below b2, rfl⟩
    case o3 =>
      intro vs iv wk hx hf
      have ezz : w.heap.size + 1 < wk.heap.size := Nat.lt_of_lt_of_le l1 hx.size
      have e0 : wk.cell? ⟨w.heap.size + 1, 0, none⟩ = some (.int .i64 x) := hx.cell d0 (by simp)
      have e1 : wk.cell? ⟨w.heap.size + 1, 1, none⟩ = some (.int .i64 y) := hx.cell d1 (by simp)
      intro K' hK
      simp only [setA, setT, List.setIfInBounds_toArray, List.set_cons_zero, List.set_cons_succ]
      go_simp
      refine hK.out _ (.agg #[.int .i64 x, .int .i64 y]) _ ?_ ?_
      · simp only [setA, setT, List.setIfInBounds_toArray, List.set_cons_zero, List.set_cons_succ, Act.put]
      · exact ⟨Ext.refl _ _, rfl⟩
    case o4 =>
      intro vs iv wk hx hf
      obtain ⟨⟨hq1, -⟩, ⟨hq3, -⟩, -⟩ := hf
      have hq1 : vs 11 = .agg #[.int .i64 W, .int .i64 H] := hq1
      have hq3 : vs 12 = .agg #[.int .i64 x, .int .i64 y] := hq3
      have hTk : Cel wk 4 [.int .i64 (-1), .int .i64 (-1), .int .i64 1, .int .i64 (-1), .int .i64 (-1), .int .i64 1, .int .i64 1, .int .i64 1] := HTD.out.below (HB.out.trans ((((Ext.drew _).trans hx).nil).mono HB.out.size)) HTD.out.1
      intro K' hK
      simp only [setA, setT, List.setIfInBounds_toArray, List.set_cons_zero, List.set_cons_succ]
      go_simp
      refine (impl_segmentsAt _ W H x y M hTk hH x1 x2 y1 y2 HSI.out hM).mono ?_
      rintro e w2 ⟨rfl, b2⟩
      dsimp only
      refine hK.out _ (sq4 H x y) _ ?_ ?_
      · simp only [setA, setT, List.setIfInBounds_toArray, List.set_cons_zero, List.set_cons_succ, Act.put, hq1, hq3]
      · exact ⟨Ext.of_below b2, rfl⟩
    case o5 =>
      intro vs iv wk hx hf
      intro K' hK
      simp only [setA, setT, List.setIfInBounds_toArray, List.set_cons_zero, List.set_cons_succ]
      go_simp
      refine hK.out _ (.int .i64 0) _ ?_ ?_
      · simp only [setA, setT, List.setIfInBounds_toArray, List.set_cons_zero, List.set_cons_succ, Act.put]
      · exact ⟨Ext.refl _ _, rfl⟩
  case gR =>
    intro vs iv w5 hx hap hf
    obtain ⟨-, -, -, -, ⟨hv4, -⟩, ⟨hv5, -⟩, -⟩ := hf
    have hv4 : vs 13 = sq4 H x y := hv4
    have hv5 : vs 14 = .int .i64 0 := hv5
    rw [HSQ.out] at hv4
    have hx5 := ((Ext.drew (X := []) w4).trans hx).nil
    have HB5 := Lib.hid (HB.out.trans (hx5.mono HB.out.size))
    have HS5 := Lib.hid (HS0.out.below hx5 l0)
    have HM5 := Lib.hid (HM0.out.below hx5 (by omega))
    have HO5 := Lib.hid (rowIs_below HO.out HB5.out hvl)
    have hwz5 := hx5.size
    simp only [setA, setT, List.setIfInBounds_toArray, List.set_cons_zero, List.set_cons_succ, hv4, hv5]
    generalize vs 9 = u9
    generalize vs 10 = u10
    generalize vs 11 = u11
    generalize vs 12 = u12
    clear hx hap hv4 hv5 hx5 c0 c1 c2 d0 d1 HB HS0 HS1 HM0
    go_wp2
    go_loopw [14] (fun kv wr => ∃ k : Nat, k ≤ 4 ∧ kv = .int .i64 k ∧ Hid (SetIs wr (w.heap.size + 1 + 1) k (setK z0 z1 z2 z3 k)) ∧ Hid (Ext [w.heap.size + 1 + 1] w5 wr)) (fun kv _ => 9 - (intOf kv).toNat)
    case atStart => exact ⟨0, by omega, rfl, HM5, Lib.hid (Ext.refl _ _)⟩
    case round =>
      obtain ⟨k, hk, rfl, HS, HE⟩ := hrel
      have HX := Lib.hid (HS5.out.ext HE.out (by simp; omega))
      have HC := Lib.hid (rowIs_ext HO5.out HE.out (by simp; omega))
      have x4 : wr.cell? ⟨w.heap.size, 4, none⟩ = some (.slice (some ⟨cv, 0, none⟩) M M) := HX.out.cellv (i := 4) rfl
      have lx := HX.out.lt
      have lc := HC.out.lt
      rcases (show k = 0 ∨ k = 1 ∨ k = 2 ∨ k = 3 ∨ k = 4 by omega) with rfl | rfl | rfl | rfl | rfl
      · have hai := arr_at0
        have cc := HC.out.cell k0
        rw [HG0.out] at cc
        go_wp2_with fail
        refine (set_add wr (w.heap.size + 1 + 1) 0 _ HS.out z0 (WalkArith.wf_i64 (by omega)) (by unfold maxLen; omega)).mono ?_
        rintro e w6 ⟨⟨v', rfl⟩, hS2, hg2⟩
        have HS2 := Lib.hid hS2
        have HE2 := Lib.hid (HE.out.trans (ext_grown hg2 (by simp)))
        clear hS2 hg2 cc x4 hai
        go_wp2
        go_roundw
        case rel => exact ⟨1, by omega, by go_num, HS2, HE2⟩
        case measure => simp [intOf]
      · have hai := arr_at1
        have cc := HC.out.cell k1
        rw [HG1.out] at cc
        go_wp2_with fail
        refine (set_add wr (w.heap.size + 1 + 1) 1 _ HS.out z1 (WalkArith.wf_i64 (by omega)) (by unfold maxLen; omega)).mono ?_
        rintro e w6 ⟨⟨v', rfl⟩, hS2, hg2⟩
        have HS2 := Lib.hid hS2
        have HE2 := Lib.hid (HE.out.trans (ext_grown hg2 (by simp)))
        clear hS2 hg2 cc x4 hai
        go_wp2
        go_roundw
        case rel => exact ⟨2, by omega, by go_num, HS2, HE2⟩
        case measure => simp [intOf]
      · have hai := arr_at2
        have cc := HC.out.cell k2
        rw [HG2.out] at cc
        go_wp2_with fail
        refine (set_add wr (w.heap.size + 1 + 1) 2 _ HS.out z2 (WalkArith.wf_i64 (by omega)) (by unfold maxLen; omega)).mono ?_
        rintro e w6 ⟨⟨v', rfl⟩, hS2, hg2⟩
        have HS2 := Lib.hid hS2
        have HE2 := Lib.hid (HE.out.trans (ext_grown hg2 (by simp)))
        clear hS2 hg2 cc x4 hai
        go_wp2
        go_roundw
        case rel => exact ⟨3, by omega, by go_num, HS2, HE2⟩
        case measure => simp [intOf]
      · have hai := arr_at3
        have cc := HC.out.cell k3
        rw [HG3.out] at cc
        go_wp2_with fail
        refine (set_add wr (w.heap.size + 1 + 1) 3 _ HS.out z3 (WalkArith.wf_i64 (by omega)) (by unfold maxLen; omega)).mono ?_
        rintro e w6 ⟨⟨v', rfl⟩, hS2, hg2⟩
        have HS2 := Lib.hid hS2
        have HE2 := Lib.hid (HE.out.trans (ext_grown hg2 (by simp)))
        clear hS2 hg2 cc x4 hai
        go_wp2
        go_roundw
        case rel => exact ⟨4, by omega, by go_num, HS2, HE2⟩
        case measure => simp [intOf]
      · go_wp2
        go_ret
        exact ⟨_, rfl, by omega, HS.out, HB5.out.trans (HE.out.below (fun b hb => by simp at hb; omega) (by omega))⟩
end Go.Proofs.YtbpdjmjkjiddjaaDoor.Base

namespace Go.Proofs.YtbpdjmjkjiddjaaDoor.Base
open Go Go.RowKit
set_option linter.unusedVariables false
set_option linter.unusedSimpArgs false
attribute [local go_sem] Oper.semAt_some

/-- the numbers of the inner points without a break among the first k -/
def zl (f : Nat → Int) : Nat → List Nat
  | 0 => []
  | k + 1 => if f k = 0 then zl f k ++ [k] else zl f k
theorem zl_yes {f : Nat → Int} {k : Nat} (h : f k = 0) : zl f (k + 1) = zl f k ++ [k] := if_pos h
theorem zl_no {f : Nat → Int} {k : Nat} (h : f k ≠ 0) : zl f (k + 1) = zl f k := if_neg h
theorem zl_len (f : Nat → Int) : ∀ k, (zl f k).length ≤ k
  | 0 => Nat.le_refl _
  | k + 1 => by
    have := zl_len f k
    by_cases h : f k = 0
    · rw [zl_yes h, List.length_append]; show _ + 1 ≤ _; omega
    · rw [zl_no h]; omega
theorem zl_at {f : Nat → Int} {k : Nat} (h : f k = 0) : ∀ n, k < n → (zl f n)[(zl f k).length]? = some k ∧ (zl f k).length < (zl f n).length
  | 0, hn => absurd hn (by omega)
  | n + 1, hn => by
    rcases Nat.lt_or_ge k n with h' | h'
    · obtain ⟨i1, i2⟩ := zl_at h n h'
      by_cases h2 : f n = 0
      · rw [zl_yes h2, List.getElem?_append_left i2, List.length_append]
        exact ⟨i1, by omega⟩
      · rw [zl_no h2]; exact ⟨i1, i2⟩
    · have e : n = k := by omega
      subst e
      rw [zl_yes h, List.getElem?_append_right (Nat.le_refl _), Nat.sub_self, List.length_append]
      exact ⟨rfl, by show _ < _ + 1; omega⟩
/-- the j-th of these points -/
def zpt (W : Int) (f : Nat → Int) (n j : Nat) : Int × Int := (ptX W (((zl f n).getD j 0 : Nat) : Int), ptY W (((zl f n).getD j 0 : Nat) : Int))
def paggP (v : Int × Int) : Value := .agg #[.int .i64 v.1, .int .i64 v.2]
theorem zpt_at {W : Int} {f : Nat → Int} {n k : Nat} (h : f k = 0) (hk : k < n) : zpt W f n (zl f k).length = (ptX W (k : Int), ptY W (k : Int)) := by
  have e : (zl f n).getD (zl f k).length 0 = k := by rw [List.getD_eq_getElem?_getD, (zl_at h n hk).1]; rfl
  unfold zpt
  rw [e]
/-- of the first j of these points, at how many the curves a and b cross -/
def crJ (W H : Int) (f g : Nat → Int) (a b : Int) (l : List Nat) : Nat → Nat
  | 0 => 0
  | j + 1 => crJ W H f g a b l j + (if crT W H f g a b (l.getD j 0) then 1 else 0)
theorem crJ_app {W H : Int} {f g : Nat → Int} {a b : Int} {l : List Nat} {x : Nat} : ∀ j, j ≤ l.length → crJ W H f g a b (l ++ [x]) j = crJ W H f g a b l j
  | 0, _ => rfl
  | j + 1, h => by
    show crJ W H f g a b (l ++ [x]) j + _ = crJ W H f g a b l j + _
    rw [crJ_app j (by omega)]
    have e : (l ++ [x]).getD j 0 = l.getD j 0 := by rw [List.getD_eq_getElem?_getD, List.getD_eq_getElem?_getD, List.getElem?_append_left (by omega)]
    rw [e]
theorem crJ_all (W H : Int) (f g : Nat → Int) (a b : Int) : ∀ n, crJ W H f g a b (zl f n) (zl f n).length = crF W H f g a b n
  | 0 => rfl
  | n + 1 => by
    have ih := crJ_all W H f g a b n
    by_cases h : f n = 0
    · rw [zl_yes h, List.length_append]
      show crJ W H f g a b (zl f n ++ [n]) (zl f n).length + (if crT W H f g a b ((zl f n ++ [n]).getD (zl f n).length 0) then 1 else 0) = crF W H f g a b n + (if crT W H f g a b n then 1 else 0)
      have e : (zl f n ++ [n]).getD (zl f n).length 0 = n := by rw [List.getD_eq_getElem?_getD, List.getElem?_append_right (Nat.le_refl _), Nat.sub_self]; rfl
      rw [e, crJ_app _ (Nat.le_refl _), ih]
    · rw [zl_no h, crF_skip h, ih]
theorem crJ_le (W H : Int) (f g : Nat → Int) (a b : Int) (l : List Nat) : ∀ j, crJ W H f g a b l j ≤ j
  | 0 => Nat.le_refl _
  | j + 1 => by have := crJ_le W H f g a b l j; show _ + _ ≤ _; split <;> omega
/-- what there is to know of the j-th of these points -/
theorem zl_mem {f : Nat → Int} : ∀ {n j : Nat}, j < (zl f n).length → (zl f n).getD j 0 < n ∧ f ((zl f n).getD j 0) = 0
  | 0, j, h => absurd h (by show ¬ j < 0; omega)
  | n + 1, j, h => by
    by_cases h2 : f n = 0
    · rw [zl_yes h2, List.length_append] at h
      rw [zl_yes h2]
      rcases Nat.lt_or_ge j (zl f n).length with h' | h'
      · have e : (zl f n ++ [n]).getD j 0 = (zl f n).getD j 0 := by rw [List.getD_eq_getElem?_getD, List.getD_eq_getElem?_getD, List.getElem?_append_left h']
        rw [e]
        have := zl_mem h'
        exact ⟨by omega, this.2⟩
      · have ej : j = (zl f n).length := by have : j < (zl f n).length + 1 := h; omega
        have e : (zl f n ++ [n]).getD j 0 = n := by rw [ej, List.getD_eq_getElem?_getD, List.getElem?_append_right (Nat.le_refl _), Nat.sub_self]; rfl
        rw [e]
        exact ⟨by omega, h2⟩
    · rw [zl_no h2] at h ⊢
      have := zl_mem h
      exact ⟨by omega, this.2⟩

/-- what impl's crossings leaves: the box that its function has captured -/
def CrossMade (W H : Int) (A : Option Addr) (n c : Nat) (w : World) (e : Ending) (w' : World) : Prop :=
  e = .returned (.func (.func 117) #[] #[.pointer (some ⟨w.heap.size, 0, none⟩)]) ∧ At w' w.heap.size #[.int .i64 W, .int .i64 H, .slice A n c] 35 ∧ Below w.heap.size w w' ∧ w'.heap.size = w.heap.size + 1
theorem impl_crossings (w : World) (W H : Int) (A : Option Addr) (n c : Nat) :
    Calls Tryd.prog 74 #[.agg #[.int .i64 W, .int .i64 H, .slice A n c]] w (CrossMade W H A n c w) := by
  go_enter Tryd.func74, Tryd.ntmps74
  go_wp2
  go_ret
  exact ⟨rfl, At.new _ _ _, (Below.refl _ _).alloc (Nat.le_refl _) _, by simp⟩

set_option maxHeartbeats 4000000 in
theorem cross_iter (nF : Nat) (hn1 : 1 ≤ nF) (w0 w : World) (W H : Int) (A : Option Addr) (n c : Nat) (f : Nat → Int) (p1 : Nat) (hr : Row .i64 w0 A n c f) (hv : validB W H n f = true)
    (hb : Below w0.heap.size w0 w) (h1 : At w p1 #[.int .i64 W, .int .i64 H, .slice A n c] 35) :
    IterY Fence.wide nF Tryd.prog 117 #[.pointer (some ⟨p1, 0, none⟩)] (fun j => #[paggP (zpt W f n j)]) (zl f n).length w0.heap.size [p1] w := fun l J Jx Wa hba hnew hJ hJx hset hY h0 => by
  refine callsIn_of_wp Tryd.func117 rfl trivial ?_ rfl
  simp only [Tryd.ntmps117, List.size_toArray, List.length_cons, List.length_nil, Nat.reduceAdd, Nat.reduceSub, Array.replicate_succ, Array.replicate_zero, List.push_toArray, List.append_toArray, List.nil_append, List.cons_append]
  have HA := Lib.hid (h1.below hba h1.lt)
  obtain ⟨hW, hH, hn, -⟩ := validB_yes hv
  obtain ⟨i0, i1⟩ := inner_bd hW hH
  have hcm := hr.2.1
  have hnc := hr.1
  unfold maxLen at hcm
  have HR := Lib.hid hr
  have HJ0 := Lib.hid h0
  have HJs := Lib.hid hJ
  have HY := Lib.hid hY
  have HB := Lib.hid (hb.trans (hba.mono hb.size))
  clear h1 hr h0 hJ hnew hset hJx hY hb hv
  have k0 : Wa.cell? ⟨p1, 0, none⟩ = some (.int .i64 W) := HA.out.cellv (i := 0) rfl
  have k1 : Wa.cell? ⟨p1, 1, none⟩ = some (.int .i64 H) := HA.out.cellv (i := 1) rfl
  have k2 : Wa.cell? ⟨p1, 2, none⟩ = some (.slice A n c) := HA.out.cellv (i := 2) rfl
  have l1 := HA.out.lt
  gi_wp2
  clear k0 k1 k2 l1
  gi_loopg [8] n (fun g s8 wr => ∃ (k : Nat) (Y : List Nat), s8 = .int .i64 k ∧ k + g = n ∧ Hid (J Y (zl f k).length wr) ∧ Hid (Below w0.heap.size w0 wr) ∧ Hid (At wr p1 #[.int .i64 W, .int .i64 H, .slice A n c] 35))
  case atStart => exact ⟨0, [], rfl, by omega, HJ0, HB, HA⟩
  case round =>
    clear HA HJ0 HB
    obtain ⟨k, Y, rfl, hkg, HJk, HBk, HAk⟩ := hrel
    have k0 : wr.cell? ⟨p1, 0, none⟩ = some (.int .i64 W) := HAk.out.cellv (i := 0) rfl
    have k1 : wr.cell? ⟨p1, 1, none⟩ = some (.int .i64 H) := HAk.out.cellv (i := 1) rfl
    have k2 : wr.cell? ⟨p1, 2, none⟩ = some (.slice A n c) := HAk.out.cellv (i := 2) rfl
    have l1 := HAk.out.lt
    by_cases hlt : k < n
    · obtain ⟨-, -, -, hcell⟩ := HR.out.below HBk.out (Nat.le_refl _)
      obtain ⟨b0, o0, rfl, hbl, hc⟩ := hcell (by omega)
      have hck := hc k hlt
      clear hc hcell
      by_cases hf : f k = 0
      · have HZ := Lib.hid (zpt_at (W := W) hf hlt)
        have HZl := Lib.hid ((zl_at hf n hlt).2)
        have HZy := Lib.hid (show (zl f (k + 1)).length = (zl f k).length + 1 by rw [zl_yes hf, List.length_append]; rfl)
        gi_wp2_with fail
        refine ⟨trivial, (callsIn_wide.2 (sizeOf_any wr W H _ n c)).mono ?_⟩
        rintro e w2 ⟨rfl, b2⟩
        have HJ2 := Lib.hid (HJs.out _ _ _ _ HJk.out b2)
        have HB2 := Lib.hid (HBk.out.trans (b2.mono HBk.out.size))
        have HA2 := Lib.hid (HAk.out.below b2 HAk.out.lt)
        clear b2 HJk HBk HAk k0 k1 k2 l1 hck hbl
        gi_wp2_with fail
        refine ⟨trivial, (callsIn_wide.2 (pointAt_any w2 W H (k : Int) hW (by omega) (by omega))).mono ?_⟩
        rintro e w3 ⟨rfl, b3⟩
        have HJ3 := Lib.hid (HJs.out _ _ _ _ HJ2.out b3)
        have HB3 := Lib.hid (HB2.out.trans (b3.mono HB2.out.size))
        have HA3 := Lib.hid (HA2.out.below b3 HA2.out.lt)
        clear b3 HJ2 HB2 HA2
        obtain ⟨fn, tm, assign, body, hy, hR⟩ := HY.out Y (zl f k).length w3 HZl.out HJ3.out
        rw [HZ.out] at hy
        have hy' : (Instr.yield l #[.agg #[.int .i64 (ptX W (k : Int)), .int .i64 (ptY W (k : Int))]]).run Tryd.prog w3 = .ok (.round l fn tm assign body) w3 := hy
        clear hy
        gi_wp2_with fail
        refine hR.mono ?_
        clear hy' hR
        rintro e W5 (⟨rfl, hJ5, hk5⟩ | ⟨rfl, hJx5⟩)
        · have HA5 := Lib.hid (HA3.out.of_block (hk5.box p1 (by simp) HA3.out.lt))
          have HB5 := Lib.hid (HB3.out.trans hk5.below)
          have HJ5 := Lib.hid hJ5
          clear hJ5 hk5 HA3 HB3 HJ3
          gi_wp2
          gi_roundg (gk - 1)
          case measure => omega
          case rel => exact ⟨k + 1, Y, by go_num, by omega, by rw [HZy.out]; exact HJ5, HB5, HA5⟩
        · have HJ5 := Lib.hid hJx5
          clear hJx5
          gi_wp2
          refine bodyPost_ret (results_none rfl _ _ _) rfl ?_
          exact ⟨⟨_, rfl⟩, .inr ⟨(zl f k).length + 1, HZl.out, HJ5.out⟩⟩
      · have hfb : (f k == 0) = false := beq_eq_false_iff_ne.2 hf
        have HZn := Lib.hid (zl_no hf)
        clear hf
        gi_wp2_with fail
        refine ⟨trivial, ?_⟩
        gi_wp2_with fail
        refine ⟨trivial, ?_⟩
        gi_wp2_with fail
        refine ⟨fun _ _ => trivial, ?_⟩
        gi_wp2
        gi_roundg (gk - 1)
        case measure => omega
        case rel => exact ⟨k + 1, Y, by go_num, by omega, by rw [HZn.out]; exact HJk, HBk, HAk⟩
    · have ek : k = n := by omega
      subst ek
      gi_wp2
      go_end0
      exact ⟨⟨_, rfl⟩, .inl ⟨Y, HJk.out⟩⟩
end Go.Proofs.YtbpdjmjkjiddjaaDoor.Base

namespace Go.Proofs.YtbpdjmjkjiddjaaDoor.Base
open Go Go.RowKit
set_option linter.unusedVariables false
set_option linter.unusedSimpArgs false
attribute [local go_sem] Oper.semAt_some

/-- the two curves at an inner point without a break -/
theorem pt_curves {W H : Int} {n : Nat} {f : Nat → Int} {k : Nat} (hv : validB W H n f = true) (hk : k < n) (hf : f k = 0) :
    ∃ z0 z1 : Nat, me0 H (trE W H f).of (ptX W k) (ptY W k) = z0 ∧ me1 H (trE W H f).of (ptX W k) (ptY W k) = z1 ∧ me2 H (trE W H f).of (ptX W k) (ptY W k) = z1 ∧ me3 H (trE W H f).of (ptX W k) (ptY W k) = z0 ∧ z0 < cnN W H f ∧ z1 < cnN W H f := by
  obtain ⟨hW, hH, hn, -⟩ := validB_yes hv
  obtain ⟨m0, m1⟩ := segs_bd hW hH
  obtain ⟨p1, p2, p3, p4, p5⟩ := pt_in hW hH (k := (k : Int)) (by omega) (by omega)
  have hc : Closed W H n f (trE W H f).of := trs_closed hv (4 * W * H).toNat (by omega)
  obtain ⟨⟨r0, r0'⟩, ⟨r1, r1'⟩, -, -⟩ := segs_in hv p1 p2 p3 p4 p5
  have hp : hasB W H (ptX W k) (ptY W k) = true := has_mk (by omega) (by omega) (by omega) (by omega) p5
  have ht : tkOf W H f (ptX W k) (ptY W k) = 0 := by
    unfold tkOf
    rw [if_neg (by omega), if_neg (by omega), (pt_is hW hH (k := (k : Int)) (by omega) (by omega)).2.2]
    exact hf
  have q1 := meet hc (wk_mk hv (ex := -1) (ey := -1) rfl rfl hp (has_mk (by omega) (by omega) (by omega) (by omega) (by omega)))
  have q2 := meet hc (wk_mk hv (ex := 1) (ey := -1) rfl rfl hp (has_mk (by omega) (by omega) (by omega) (by omega) (by omega)))
  rw [ht] at q1 q2
  simp only [show ¬ ((0 : Int) = 1) by decide, show ¬ ((0 : Int) = 2) by decide, if_false, Int.neg_neg] at q1 q2
  have d0 := trs_done hv (4 * W * H).toNat (segOf H (ptX W k) (ptY W k) (-1) (-1)).toNat (by omega) (by omega)
  have d1 := trs_done hv (4 * W * H).toNat (segOf H (ptX W k) (ptY W k) 1 (-1)).toNat (by omega) (by omega)
  have f0 := (trs_of_ge W H f (4 * W * H).toNat (segOf H (ptX W k) (ptY W k) (-1) (-1)).toNat).2.1
  have f1 := (trs_of_ge W H f (4 * W * H).toNat (segOf H (ptX W k) (ptY W k) 1 (-1)).toNat).2.1
  have e0 : 0 ≤ me0 H (trE W H f).of (ptX W k) (ptY W k) ∧ me0 H (trE W H f).of (ptX W k) (ptY W k) < cnN W H f := ⟨d0, f0⟩
  have e1 : 0 ≤ me1 H (trE W H f).of (ptX W k) (ptY W k) ∧ me1 H (trE W H f).of (ptX W k) (ptY W k) < cnN W H f := ⟨d1, f1⟩
  have q1 : me0 H (trE W H f).of (ptX W k) (ptY W k) = me3 H (trE W H f).of (ptX W k) (ptY W k) := q1
  have q2 : me1 H (trE W H f).of (ptX W k) (ptY W k) = me2 H (trE W H f).of (ptX W k) (ptY W k) := q2
  exact ⟨(me0 H (trE W H f).of (ptX W k) (ptY W k)).toNat, (me1 H (trE W H f).of (ptX W k) (ptY W k)).toNat, by omega, by omega, by omega, by omega, by omega, by omega⟩
/-- a step of the count at such a point -/
theorem crJ_step {W H : Int} {n : Nat} {f g : Nat → Int} {a b : Int} {j z0 z1 : Nat} (hj : j < (zl f n).length) (h0 : me0 H g (zpt W f n j).1 (zpt W f n j).2 = z0) (h1 : me1 H g (zpt W f n j).1 (zpt W f n j).2 = z1) :
    crJ W H f g a b (zl f n) (j + 1) = crJ W H f g a b (zl f n) j + (if crB z0 z1 a b then 1 else 0) := by
  obtain ⟨k1, k2⟩ := zl_mem hj
  show crJ W H f g a b (zl f n) j + (if crT W H f g a b ((zl f n).getD j 0) then 1 else 0) = _
  have hcr : crT W H f g a b ((zl f n).getD j 0) ↔ crB z0 z1 a b = true := by
    unfold crT crB
    unfold me0 zpt at h0
    unfold me1 zpt at h1
    simp only at h0 h1
    rw [h0, h1]
    simp only [k2, true_and, Bool.or_eq_true, Bool.and_eq_true, beq_iff_eq]
  simp only [hcr]

theorem crB_set {z0 z1 i j : Nat} (h : (i : Int) ≠ (j : Int)) : crB z0 z1 i j = (setK z0 z1 z1 z0 4 i && setK z0 z1 z1 z0 4 j) := by
  rw [Bool.eq_iff_iff]
  simp only [crB, setK, Bool.or_eq_true, Bool.and_eq_true, beq_iff_eq, Bool.false_eq_true, or_false]
  omega
section
variable (w : World) (W H : Int) (A : Option Addr) (n c : Nat) (f : Nat → Int) (s t : Int)
end
end Go.Proofs.YtbpdjmjkjiddjaaDoor.Base

namespace Go.Proofs.YtbpdjmjkjiddjaaDoor.Base
open Go Go.RowKit
set_option linter.unusedVariables false
set_option linter.unusedSimpArgs false
attribute [local go_sem] Oper.semAt_some
section
variable (w : World) (W H : Int) (A : Option Addr) (n c : Nat) (f : Nat → Int) (s : Int)
end
end Go.Proofs.YtbpdjmjkjiddjaaDoor.Base
