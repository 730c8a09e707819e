/-
  Crossings of curves: the program's segments at a point, and the curves through it.
-/
import Derived.Test.YtajikegfladelaaDoorCrs
import Derived.Test.YtajikegfladelaaDoorStg
import Derived.Test.YtajikegfladelaaDoorMps
import Derived.Test.YtajikegfladelaaDoorTcj
import Derived.WalkMore
namespace Go.Proofs.YtajikegfladelaaDoor.Base
open Go Go.RowKit
set_option linter.unusedVariables false
set_option linter.unusedSimpArgs false

theorem dir_at0 (w : World) : (Instr.index 193 (.agg #[.int .i64 (-1), .int .i64 (-1), .int .i64 1, .int .i64 (-1), .int .i64 (-1), .int .i64 1, .int .i64 1, .int .i64 1]) (.int .i64 0)).run Tryd.prog w = .ok (.agg #[.int .i64 (-1), .int .i64 (-1)]) w := by kernel_rfl
theorem dir_at1 (w : World) : (Instr.index 193 (.agg #[.int .i64 (-1), .int .i64 (-1), .int .i64 1, .int .i64 (-1), .int .i64 (-1), .int .i64 1, .int .i64 1, .int .i64 1]) (.int .i64 1)).run Tryd.prog w = .ok (.agg #[.int .i64 1, .int .i64 (-1)]) w := by kernel_rfl
theorem dir_at2 (w : World) : (Instr.index 193 (.agg #[.int .i64 (-1), .int .i64 (-1), .int .i64 1, .int .i64 (-1), .int .i64 (-1), .int .i64 1, .int .i64 1, .int .i64 1]) (.int .i64 2)).run Tryd.prog w = .ok (.agg #[.int .i64 (-1), .int .i64 1]) w := by kernel_rfl
theorem dir_at3 (w : World) : (Instr.index 193 (.agg #[.int .i64 (-1), .int .i64 (-1), .int .i64 1, .int .i64 (-1), .int .i64 (-1), .int .i64 1, .int .i64 1, .int .i64 1]) (.int .i64 3)).run Tryd.prog w = .ok (.agg #[.int .i64 1, .int .i64 1]) w := by kernel_rfl
theorem arr_at0 (w : World) (a b c d : Int) : (Instr.index 127 (.agg #[.int .i64 a, .int .i64 b, .int .i64 c, .int .i64 d]) (.int .i64 0)).run Tryd.prog w = .ok (.int .i64 a) w := by kernel_rfl
theorem arr_at1 (w : World) (a b c d : Int) : (Instr.index 127 (.agg #[.int .i64 a, .int .i64 b, .int .i64 c, .int .i64 d]) (.int .i64 1)).run Tryd.prog w = .ok (.int .i64 b) w := by kernel_rfl
theorem arr_at2 (w : World) (a b c d : Int) : (Instr.index 127 (.agg #[.int .i64 a, .int .i64 b, .int .i64 c, .int .i64 d]) (.int .i64 2)).run Tryd.prog w = .ok (.int .i64 c) w := by kernel_rfl
theorem arr_at3 (w : World) (a b c d : Int) : (Instr.index 127 (.agg #[.int .i64 a, .int .i64 b, .int .i64 c, .int .i64 d]) (.int .i64 3)).run Tryd.prog w = .ok (.int .i64 d) w := by kernel_rfl
/-- the array of the four segments while it is filled -/
def sqA (s0 s1 s2 s3 : Int) : Nat → Array Value
  | 0 => #[.int .i64 0, .int .i64 0, .int .i64 0, .int .i64 0]
  | 1 => #[.int .i64 s0, .int .i64 0, .int .i64 0, .int .i64 0]
  | 2 => #[.int .i64 s0, .int .i64 s1, .int .i64 0, .int .i64 0]
  | 3 => #[.int .i64 s0, .int .i64 s1, .int .i64 s2, .int .i64 0]
  | _ => #[.int .i64 s0, .int .i64 s1, .int .i64 s2, .int .i64 s3]
/-- the array of the segments at an inner point -/
def sq4 (H x y : Int) : Value := .agg #[.int .i64 (segOf H x y (-1) (-1)), .int .i64 (segOf H x y 1 (-1)), .int .i64 (segOf H x y (-1) 1), .int .i64 (segOf H x y 1 1)]
set_option maxHeartbeats 1000000 in
theorem leaving_0 (w : World) (x y : Int) (hT : Cel w 2 [.int .i64 (-1), .int .i64 (-1), .int .i64 1, .int .i64 (-1), .int .i64 (-1), .int .i64 1, .int .i64 1, .int .i64 1]) : Calls Tryd.prog 139 #[.agg #[.int .i64 x, .int .i64 y], .int .i64 0] w (Gives (.agg #[.int .i64 x, .int .i64 y, .int .i64 (-1), .int .i64 (-1)]) w) := by
  have gl := hT.1
  have gz : w.heap.size ≠ 0 := by omega
  have gz2 : 0 < w.heap.size := by omega
  have g0 : w.cell? ⟨2, 0, none⟩ = some (.int .i64 (-1)) := hT.2 0 _ rfl
  have g1 : w.cell? ⟨2, 1, none⟩ = some (.int .i64 (-1)) := hT.2 1 _ rfl
  clear hT
  go_enter Tryd.func139, Tryd.ntmps139
  go_wp2
  refine bodyPost_ret ?_ rfl ⟨rfl, ?_⟩
  · simp [results, Tryd.results139, go_sem]
  · go_grown
set_option maxHeartbeats 1000000 in
theorem leaving_1 (w : World) (x y : Int) (hT : Cel w 2 [.int .i64 (-1), .int .i64 (-1), .int .i64 1, .int .i64 (-1), .int .i64 (-1), .int .i64 1, .int .i64 1, .int .i64 1]) : Calls Tryd.prog 139 #[.agg #[.int .i64 x, .int .i64 y], .int .i64 1] w (Gives (.agg #[.int .i64 x, .int .i64 y, .int .i64 (1), .int .i64 (-1)]) w) := by
  have gl := hT.1
  have gz : w.heap.size ≠ 0 := by omega
  have gz2 : 0 < w.heap.size := by omega
  have g0 : w.cell? ⟨2, 2, none⟩ = some (.int .i64 (1)) := hT.2 2 _ rfl
  have g1 : w.cell? ⟨2, 3, none⟩ = some (.int .i64 (-1)) := hT.2 3 _ rfl
  clear hT
  go_enter Tryd.func139, Tryd.ntmps139
  go_wp2
  refine bodyPost_ret ?_ rfl ⟨rfl, ?_⟩
  · simp [results, Tryd.results139, go_sem]
  · go_grown
set_option maxHeartbeats 1000000 in
theorem leaving_2 (w : World) (x y : Int) (hT : Cel w 2 [.int .i64 (-1), .int .i64 (-1), .int .i64 1, .int .i64 (-1), .int .i64 (-1), .int .i64 1, .int .i64 1, .int .i64 1]) : Calls Tryd.prog 139 #[.agg #[.int .i64 x, .int .i64 y], .int .i64 2] w (Gives (.agg #[.int .i64 x, .int .i64 y, .int .i64 (-1), .int .i64 (1)]) w) := by
  have gl := hT.1
  have gz : w.heap.size ≠ 0 := by omega
  have gz2 : 0 < w.heap.size := by omega
  have g0 : w.cell? ⟨2, 4, none⟩ = some (.int .i64 (-1)) := hT.2 4 _ rfl
  have g1 : w.cell? ⟨2, 5, none⟩ = some (.int .i64 (1)) := hT.2 5 _ rfl
  clear hT
  go_enter Tryd.func139, Tryd.ntmps139
  go_wp2
  refine bodyPost_ret ?_ rfl ⟨rfl, ?_⟩
  · simp [results, Tryd.results139, go_sem]
  · go_grown
set_option maxHeartbeats 1000000 in
theorem leaving_3 (w : World) (x y : Int) (hT : Cel w 2 [.int .i64 (-1), .int .i64 (-1), .int .i64 1, .int .i64 (-1), .int .i64 (-1), .int .i64 1, .int .i64 1, .int .i64 1]) : Calls Tryd.prog 139 #[.agg #[.int .i64 x, .int .i64 y], .int .i64 3] w (Gives (.agg #[.int .i64 x, .int .i64 y, .int .i64 (1), .int .i64 (1)]) w) := by
  have gl := hT.1
  have gz : w.heap.size ≠ 0 := by omega
  have gz2 : 0 < w.heap.size := by omega
  have g0 : w.cell? ⟨2, 6, none⟩ = some (.int .i64 (1)) := hT.2 6 _ rfl
  have g1 : w.cell? ⟨2, 7, none⟩ = some (.int .i64 (1)) := hT.2 7 _ rfl
  clear hT
  go_enter Tryd.func139, Tryd.ntmps139
  go_wp2
  refine bodyPost_ret ?_ rfl ⟨rfl, ?_⟩
  · simp [results, Tryd.results139, go_sem]
  · go_grown
set_option maxRecDepth 100000 in
set_option maxHeartbeats 2000000 in
theorem impl_segmentsAt (w : World) (W H x y : Int) (M : Nat) (hT : Cel w 2 [.int .i64 (-1), .int .i64 (-1), .int .i64 1, .int .i64 (-1), .int .i64 (-1), .int .i64 1, .int .i64 1, .int .i64 1]) (hH : sideB H = true) (x1 : 1 ≤ x) (x2 : x ≤ 16) (y1 : 1 ≤ y) (y2 : y ≤ 16) (hs : SegsIn H M x y) (hM : M ≤ 256) :
    Calls Tryd.prog 92 #[.agg #[.int .i64 W, .int .i64 H], .agg #[.int .i64 x, .int .i64 y]] w (Gives (sq4 H x y) w) := by
  unfold sq4
  obtain ⟨s0, e0⟩ : ∃ s0, segOf H x y (-1) (-1) = s0 := ⟨_, rfl⟩
  obtain ⟨s1, e1⟩ : ∃ s1, segOf H x y 1 (-1) = s1 := ⟨_, rfl⟩
  obtain ⟨s2, e2⟩ : ∃ s2, segOf H x y (-1) 1 = s2 := ⟨_, rfl⟩
  obtain ⟨s3, e3⟩ : ∃ s3, segOf H x y 1 1 = s3 := ⟨_, rfl⟩
  obtain ⟨⟨r0, r0'⟩, ⟨r1, r1'⟩, ⟨r2, r2'⟩, ⟨r3, r3'⟩⟩ := hs
  rw [e0] at r0 r0'
  rw [e1] at r1 r1'
  rw [e2] at r2 r2'
  rw [e3] at r3 r3'
  rw [e0, e1, e2, e3]
  have HE0 := Lib.hid e0
  have HE1 := Lib.hid e1
  have HE2 := Lib.hid e2
  have HE3 := Lib.hid e3
  have HT := Lib.hid hT
  have gl := hT.1
  have gz : w.heap.size ≠ 0 := by omega
  have gz2 : 0 < w.heap.size := by omega
  clear hT e0 e1 e2 e3
  go_enter Tryd.func92, Tryd.ntmps92
  go_wp2
  have A1 := (Below.refl w.heap.size w).alloc (Nat.le_refl _) (.cells #[.int .i64 W, .int .i64 H] 129)
  have A2 := A1.alloc A1.size (.cells #[.int .i64 x, .int .i64 y] 30)
  have A3 := A2.alloc A2.size (.cells #[.int .i64 0, .int .i64 0, .int .i64 0, .int .i64 0] 127)
  have A4 := A3.alloc A3.size (.cells #[.int .i64 0, .int .i64 0, .int .i64 0, .int .i64 0] 127)
  have HB := Lib.hid A4
  have HS0 := Lib.hid ((((At.new w #[.int .i64 W, .int .i64 H] 129).below ((Below.refl _ _).alloc (Nat.le_refl _) (.cells #[.int .i64 x, .int .i64 y] 30)) (by simp)).below ((Below.refl _ _).alloc (Nat.le_refl _) (.cells #[.int .i64 0, .int .i64 0, .int .i64 0, .int .i64 0] 127)) (by first | exact Nat.le_refl _ | (simp; done) | (simp; omega) | omega)).below ((Below.refl _ _).alloc (Nat.le_refl _) (.cells #[.int .i64 0, .int .i64 0, .int .i64 0, .int .i64 0] 127)) (by first | exact Nat.le_refl _ | (simp; done) | (simp; omega) | omega))
  have HS1 := Lib.hid (((show At ((w.alloc (.cells #[.int .i64 W, .int .i64 H] 129)).alloc (.cells #[.int .i64 x, .int .i64 y] 30)) (w.heap.size + 1) #[.int .i64 x, .int .i64 y] 30 from At.newAt (by simp)).below ((Below.refl _ _).alloc (Nat.le_refl _) (.cells #[.int .i64 0, .int .i64 0, .int .i64 0, .int .i64 0] 127)) (by simp)).below ((Below.refl _ _).alloc (Nat.le_refl _) (.cells #[.int .i64 0, .int .i64 0, .int .i64 0, .int .i64 0] 127)) (by first | exact Nat.le_refl _ | (simp; done) | (simp; omega) | omega))
  have HS2 := Lib.hid ((show At (((w.alloc (.cells #[.int .i64 W, .int .i64 H] 129)).alloc (.cells #[.int .i64 x, .int .i64 y] 30)).alloc (.cells #[.int .i64 0, .int .i64 0, .int .i64 0, .int .i64 0] 127)) (w.heap.size + 2) #[.int .i64 0, .int .i64 0, .int .i64 0, .int .i64 0] 127 from At.newAt (by simp)).below ((Below.refl _ _).alloc (Nat.le_refl _) (.cells #[.int .i64 0, .int .i64 0, .int .i64 0, .int .i64 0] 127)) (by simp))
  have HS3 := Lib.hid (show At ((((w.alloc (.cells #[.int .i64 W, .int .i64 H] 129)).alloc (.cells #[.int .i64 x, .int .i64 y] 30)).alloc (.cells #[.int .i64 0, .int .i64 0, .int .i64 0, .int .i64 0] 127)).alloc (.cells #[.int .i64 0, .int .i64 0, .int .i64 0, .int .i64 0] 127)) (w.heap.size + 3) (sqA s0 s1 s2 s3 0) 127 from At.newAt (by simp))
  clear A1 A2 A3 A4
  generalize (((w.alloc (.cells #[.int .i64 W, .int .i64 H] 129)).alloc (.cells #[.int .i64 x, .int .i64 y] 30)).alloc (.cells #[.int .i64 0, .int .i64 0, .int .i64 0, .int .i64 0] 127)).alloc (.cells #[.int .i64 0, .int .i64 0, .int .i64 0, .int .i64 0] 127) = w4 at HB HS0 HS1 HS2 HS3 ⊢
  go_loopw [8] (fun kv wr => ∃ k : Nat, k ≤ 4 ∧ kv = .int .i64 k ∧ Hid (At wr w.heap.size #[.int .i64 W, .int .i64 H] 129) ∧ Hid (At wr (w.heap.size + 1) #[.int .i64 x, .int .i64 y] 30) ∧ Hid (At wr (w.heap.size + 2) #[.int .i64 0, .int .i64 0, .int .i64 0, .int .i64 0] 127) ∧ Hid (At wr (w.heap.size + 3) (sqA s0 s1 s2 s3 k) 127) ∧ Hid (Below w.heap.size w wr)) (fun kv _ => 9 - (intOf kv).toNat)
  case atStart => exact ⟨0, by omega, rfl, HS0, HS1, HS2, HS3, HB⟩
  case round =>
    clear HB HS0 HS1 HS2 HS3
    obtain ⟨k, hk, rfl, H0, H1, H2, H3, HB⟩ := hrel
    have l0 := H0.out.lt
    have l1 := H1.out.lt
    have l2 := H2.out.lt
    have l3 := H3.out.lt
    have p0 := H0.out.cellv (i := 0) rfl
    have p1 := H0.out.cellv (i := 1) rfl
    have q0 := H1.out.cellv (i := 0) rfl
    have q1 := H1.out.cellv (i := 1) rfl
    have HTr := Lib.hid (HT.out.below HB.out HT.out.1)
    have HTd : Hid (Cel wr.drew 2 [.int .i64 (-1), .int .i64 (-1), .int .i64 1, .int .i64 (-1), .int .i64 (-1), .int .i64 1, .int .i64 1, .int .i64 1]) := Lib.hid (HTr.out.below (Below.refl _ wr).drew HTr.out.1)
    rcases (show k = 0 ∨ k = 1 ∨ k = 2 ∨ k = 3 ∨ k = 4 by omega) with rfl | rfl | rfl | rfl | rfl
    · go_wp2_with fail
      go_region_with (first
        | (go_at_call 139; (first | refine (leaving_0 _ x y HTd.out).mono ?_ | refine (leaving_0 _ x y HTr.out).mono ?_); rintro e wa ⟨rfl, ba⟩; have H0a := Lib.hid (H0.out.of_block (ba.block _ l0)); have p0a : wa.cell? ⟨w.heap.size, 0, none⟩ = some (.int .i64 W) := H0a.out.cellv (i := 0) rfl; have p1a : wa.cell? ⟨w.heap.size, 1, none⟩ = some (.int .i64 H) := H0a.out.cellv (i := 1) rfl; have p2a := H0a.out.lt; have HBa := Lib.hid (show Below wr.heap.size wr wa from (Below.refl wr.heap.size wr).drew.trans ba); clear ba)
        | (go_at_call 132; refine (implSeg _ W H x y (-1) (-1) hH (by omega) x2 (by omega) y2 (by omega) (by omega) rfl rfl).mono ?_; rintro e wb ⟨rfl, bb⟩; have HX := Lib.hid (HBa.out.trans (bb.mono HBa.out.size)); have H3b := Lib.hid (H3.out.below HX.out l3); have l3b := H3b.out.lt; have f3 := H3b.out.frozen 0; have c3 : wb.cell? ⟨w.heap.size + 3, 0, none⟩ = some (.int .i64 0) := H3b.out.cellv (i := 0) rfl; clear bb))
      all_goals
        clear p0 p1 q0 q1 l3b f3 c3
        rw [HE0.out]
        have X5 := HX.out
        have H05 := Lib.hid (H0.out.below X5 l0)
        have H15 := Lib.hid (H1.out.below X5 l1)
        have H25 := Lib.hid (H2.out.below X5 l2)
        have HB5 := Lib.hid (HB.out.trans (X5.mono HB.out.size))
        clear X5
        go_wp2
        go_roundw
        case rel => exact ⟨1, by omega, by go_num, Lib.hid (H05.out.setOther (a := ⟨w.heap.size + 3, 0, none⟩) (by simp) _), Lib.hid (H15.out.setOther (a := ⟨w.heap.size + 3, 0, none⟩) (by simp) _), Lib.hid (H25.out.setOther (a := ⟨w.heap.size + 3, 0, none⟩) (by simp) _), Lib.hid (H3b.out.set 0 (.int .i64 s0)), Lib.hid (HB5.out.setCell (p := ⟨w.heap.size + 3, 0, none⟩) (by simp) _)⟩
        case measure => simp [intOf]
    · go_wp2_with fail
      go_region_with (first
        | (go_at_call 139; (first | refine (leaving_1 _ x y HTd.out).mono ?_ | refine (leaving_1 _ x y HTr.out).mono ?_); rintro e wa ⟨rfl, ba⟩; have H0a := Lib.hid (H0.out.of_block (ba.block _ l0)); have p0a : wa.cell? ⟨w.heap.size, 0, none⟩ = some (.int .i64 W) := H0a.out.cellv (i := 0) rfl; have p1a : wa.cell? ⟨w.heap.size, 1, none⟩ = some (.int .i64 H) := H0a.out.cellv (i := 1) rfl; have p2a := H0a.out.lt; have HBa := Lib.hid (show Below wr.heap.size wr wa from (Below.refl wr.heap.size wr).drew.trans ba); clear ba)
        | (go_at_call 132; refine (implSeg _ W H x y (1) (-1) hH (by omega) x2 (by omega) y2 (by omega) (by omega) rfl rfl).mono ?_; rintro e wb ⟨rfl, bb⟩; have HX := Lib.hid (HBa.out.trans (bb.mono HBa.out.size)); have H3b := Lib.hid (H3.out.below HX.out l3); have l3b := H3b.out.lt; have f3 := H3b.out.frozen 1; have c3 : wb.cell? ⟨w.heap.size + 3, 1, none⟩ = some (.int .i64 0) := H3b.out.cellv (i := 1) rfl; clear bb))
      all_goals
        clear p0 p1 q0 q1 l3b f3 c3
        rw [HE1.out]
        have X5 := HX.out
        have H05 := Lib.hid (H0.out.below X5 l0)
        have H15 := Lib.hid (H1.out.below X5 l1)
        have H25 := Lib.hid (H2.out.below X5 l2)
        have HB5 := Lib.hid (HB.out.trans (X5.mono HB.out.size))
        clear X5
        go_wp2
        go_roundw
        case rel => exact ⟨2, by omega, by go_num, Lib.hid (H05.out.setOther (a := ⟨w.heap.size + 3, 1, none⟩) (by simp) _), Lib.hid (H15.out.setOther (a := ⟨w.heap.size + 3, 1, none⟩) (by simp) _), Lib.hid (H25.out.setOther (a := ⟨w.heap.size + 3, 1, none⟩) (by simp) _), Lib.hid (H3b.out.set 1 (.int .i64 s1)), Lib.hid (HB5.out.setCell (p := ⟨w.heap.size + 3, 1, none⟩) (by simp) _)⟩
        case measure => simp [intOf]
    · go_wp2_with fail
      go_region_with (first
        | (go_at_call 139; (first | refine (leaving_2 _ x y HTd.out).mono ?_ | refine (leaving_2 _ x y HTr.out).mono ?_); rintro e wa ⟨rfl, ba⟩; have H0a := Lib.hid (H0.out.of_block (ba.block _ l0)); have p0a : wa.cell? ⟨w.heap.size, 0, none⟩ = some (.int .i64 W) := H0a.out.cellv (i := 0) rfl; have p1a : wa.cell? ⟨w.heap.size, 1, none⟩ = some (.int .i64 H) := H0a.out.cellv (i := 1) rfl; have p2a := H0a.out.lt; have HBa := Lib.hid (show Below wr.heap.size wr wa from (Below.refl wr.heap.size wr).drew.trans ba); clear ba)
        | (go_at_call 132; refine (implSeg _ W H x y (-1) (1) hH (by omega) x2 (by omega) y2 (by omega) (by omega) rfl rfl).mono ?_; rintro e wb ⟨rfl, bb⟩; have HX := Lib.hid (HBa.out.trans (bb.mono HBa.out.size)); have H3b := Lib.hid (H3.out.below HX.out l3); have l3b := H3b.out.lt; have f3 := H3b.out.frozen 2; have c3 : wb.cell? ⟨w.heap.size + 3, 2, none⟩ = some (.int .i64 0) := H3b.out.cellv (i := 2) rfl; clear bb))
      all_goals
        clear p0 p1 q0 q1 l3b f3 c3
        rw [HE2.out]
        have X5 := HX.out
        have H05 := Lib.hid (H0.out.below X5 l0)
        have H15 := Lib.hid (H1.out.below X5 l1)
        have H25 := Lib.hid (H2.out.below X5 l2)
        have HB5 := Lib.hid (HB.out.trans (X5.mono HB.out.size))
        clear X5
        go_wp2
        go_roundw
        case rel => exact ⟨3, by omega, by go_num, Lib.hid (H05.out.setOther (a := ⟨w.heap.size + 3, 2, none⟩) (by simp) _), Lib.hid (H15.out.setOther (a := ⟨w.heap.size + 3, 2, none⟩) (by simp) _), Lib.hid (H25.out.setOther (a := ⟨w.heap.size + 3, 2, none⟩) (by simp) _), Lib.hid (H3b.out.set 2 (.int .i64 s2)), Lib.hid (HB5.out.setCell (p := ⟨w.heap.size + 3, 2, none⟩) (by simp) _)⟩
        case measure => simp [intOf]
    · go_wp2_with fail
      go_region_with (first
        | (go_at_call 139; (first | refine (leaving_3 _ x y HTd.out).mono ?_ | refine (leaving_3 _ x y HTr.out).mono ?_); rintro e wa ⟨rfl, ba⟩; have H0a := Lib.hid (H0.out.of_block (ba.block _ l0)); have p0a : wa.cell? ⟨w.heap.size, 0, none⟩ = some (.int .i64 W) := H0a.out.cellv (i := 0) rfl; have p1a : wa.cell? ⟨w.heap.size, 1, none⟩ = some (.int .i64 H) := H0a.out.cellv (i := 1) rfl; have p2a := H0a.out.lt; have HBa := Lib.hid (show Below wr.heap.size wr wa from (Below.refl wr.heap.size wr).drew.trans ba); clear ba)
        | (go_at_call 132; refine (implSeg _ W H x y (1) (1) hH (by omega) x2 (by omega) y2 (by omega) (by omega) rfl rfl).mono ?_; rintro e wb ⟨rfl, bb⟩; have HX := Lib.hid (HBa.out.trans (bb.mono HBa.out.size)); have H3b := Lib.hid (H3.out.below HX.out l3); have l3b := H3b.out.lt; have f3 := H3b.out.frozen 3; have c3 : wb.cell? ⟨w.heap.size + 3, 3, none⟩ = some (.int .i64 0) := H3b.out.cellv (i := 3) rfl; clear bb))
      all_goals
        clear p0 p1 q0 q1 l3b f3 c3
        rw [HE3.out]
        have X5 := HX.out
        have H05 := Lib.hid (H0.out.below X5 l0)
        have H15 := Lib.hid (H1.out.below X5 l1)
        have H25 := Lib.hid (H2.out.below X5 l2)
        have HB5 := Lib.hid (HB.out.trans (X5.mono HB.out.size))
        clear X5
        go_wp2
        go_roundw
        case rel => exact ⟨4, by omega, by go_num, Lib.hid (H05.out.setOther (a := ⟨w.heap.size + 3, 3, none⟩) (by simp) _), Lib.hid (H15.out.setOther (a := ⟨w.heap.size + 3, 3, none⟩) (by simp) _), Lib.hid (H25.out.setOther (a := ⟨w.heap.size + 3, 3, none⟩) (by simp) _), Lib.hid (H3b.out.set 3 (.int .i64 s3)), Lib.hid (HB5.out.setCell (p := ⟨w.heap.size + 3, 3, none⟩) (by simp) _)⟩
        case measure => simp [intOf]
    · have z0 := H2.out.cellv (i := 0) rfl
      have z1 := H2.out.cellv (i := 1) rfl
      have z2 := H2.out.cellv (i := 2) rfl
      have z3 := H2.out.cellv (i := 3) rfl
      have f0 := H2.out.frozen 0
      have f1 := H2.out.frozen 1
      have f2 := H2.out.frozen 2
      have f3 := H2.out.frozen 3
      have c0 : wr.cell? ⟨w.heap.size + 3, 0, none⟩ = some (.int .i64 s0) := H3.out.cellv (i := 0) rfl
      have c1 : wr.cell? ⟨w.heap.size + 3, 1, none⟩ = some (.int .i64 s1) := H3.out.cellv (i := 1) rfl
      have c2 : wr.cell? ⟨w.heap.size + 3, 2, none⟩ = some (.int .i64 s2) := H3.out.cellv (i := 2) rfl
      have c3 : wr.cell? ⟨w.heap.size + 3, 3, none⟩ = some (.int .i64 s3) := H3.out.cellv (i := 3) rfl
      go_wp2
      refine bodyPost_ret ?_ rfl ⟨rfl, ((((HB.out.setCell (by first | exact Nat.le_refl _ | (simp; done) | (simp; omega) | omega) _).setCell (by first | exact Nat.le_refl _ | (simp; done) | (simp; omega) | omega) _).setCell (by first | exact Nat.le_refl _ | (simp; done) | (simp; omega) | omega) _).setCell (by first | exact Nat.le_refl _ | (simp; done) | (simp; omega) | omega) _)⟩
      simp [results, Tryd.results92, go_sem, z0, z1, z2, z3]

theorem rowIs_ext {w w' : World} {T : TypeId} {b n : Nat} {F : Nat → Value} {X : List Nat} (h : w.rowIs b T n F) (he : Ext X w w') (hx : b ∉ X) : w'.rowIs b T n F := h.of_block (he.block b h.lt hx)
/-- the set of the curves at a point while it is filled -/
def setK (z0 z1 z2 z3 : Nat) : Nat → Nat → Bool
  | 0 => fun _ => false
  | 1 => fun s => s == z0 || false
  | 2 => fun s => s == z1 || (s == z0 || false)
  | 3 => fun s => s == z2 || (s == z1 || (s == z0 || false))
  | _ => fun s => s == z3 || (s == z2 || (s == z1 || (s == z0 || false)))
/-- what through makes: a set of its own -/
def ThroughOut (z0 z1 z2 z3 : Nat) (w : World) (e : Ending) (w' : World) : Prop :=
  ∃ mb, e = .returned (.map (some mb)) ∧ w.heap.size ≤ mb ∧ SetIs w' mb 4 (setK z0 z1 z2 z3 4) ∧ Below w.heap.size w w'
set_option maxRecDepth 100000 in
set_option maxHeartbeats 4000000 in
theorem impl_through (w : World) (W H x y : Int) (A Au : Option Addr) (n c N cu cv M z0 z1 z2 z3 : Nat) (g : Nat → Int) (hT : Cel w 2 [.int .i64 (-1), .int .i64 (-1), .int .i64 1, .int .i64 (-1), .int .i64 (-1), .int .i64 1, .int .i64 1, .int .i64 1]) (ho : w.rowIs cv 2 M (fun s => .int .i64 (g s))) (hH : sideB H = true) (x1 : 1 ≤ x) (x2 : x ≤ 16) (y1 : 1 ≤ y) (y2 : y ≤ 16)
    (hs : SegsIn H M x y) (hM : M ≤ 256) (h0 : me0 H g x y = (z0 : Int)) (h1 : me1 H g x y = (z1 : Int)) (h2 : me2 H g x y = (z2 : Int)) (h3 : me3 H g x y = (z3 : Int)) (b0 : z0 ≤ 256) (b1 : z1 ≤ 256) (b2 : z2 ≤ 256) (b3 : z3 ≤ 256) :
    Calls Tryd.prog 85 #[.agg #[.int .i64 W, .int .i64 H, .slice A n c, .slice Au N cu, .slice (some ⟨cv, 0, none⟩) M M], .agg #[.int .i64 x, .int .i64 y]] w (ThroughOut z0 z1 z2 z3 w) := by
  have HTD := Lib.hid hT
  have HO := Lib.hid ho
  have HSI := Lib.hid hs
  have hvl := ho.lt
  obtain ⟨⟨r0, r0'⟩, ⟨r1, r1'⟩, ⟨r2, r2'⟩, ⟨r3, r3'⟩⟩ := hs
  obtain ⟨s0, e0⟩ : ∃ s0 : Nat, segOf H x y (-1) (-1) = s0 := ⟨(segOf H x y (-1) (-1)).toNat, by omega⟩
  obtain ⟨s1, e1⟩ : ∃ s1 : Nat, segOf H x y 1 (-1) = s1 := ⟨(segOf H x y 1 (-1)).toNat, by omega⟩
  obtain ⟨s2, e2⟩ : ∃ s2 : Nat, segOf H x y (-1) 1 = s2 := ⟨(segOf H x y (-1) 1).toNat, by omega⟩
  obtain ⟨s3, e3⟩ : ∃ s3 : Nat, segOf H x y 1 1 = s3 := ⟨(segOf H x y 1 1).toNat, by omega⟩
  have g0 : g s0 = (z0 : Int) := by rw [← h0]; unfold me0; rw [e0]; rfl
  have g1 : g s1 = (z1 : Int) := by rw [← h1]; unfold me1; rw [e1]; rfl
  have g2 : g s2 = (z2 : Int) := by rw [← h2]; unfold me2; rw [e2]; rfl
  have g3 : g s3 = (z3 : Int) := by rw [← h3]; unfold me3; rw [e3]; rfl
  have hsq : sq4 H x y = .agg #[.int .i64 s0, .int .i64 s1, .int .i64 s2, .int .i64 s3] := by unfold sq4; rw [e0, e1, e2, e3]
  rw [e0] at r0'
  rw [e1] at r1'
  rw [e2] at r2'
  rw [e3] at r3'
  have HG0 := Lib.hid g0
  have HG1 := Lib.hid g1
  have HG2 := Lib.hid g2
  have HG3 := Lib.hid g3
  have HSQ := Lib.hid hsq
  have k0 : s0 < M := by omega
  have k1 : s1 < M := by omega
  have k2 : s2 < M := by omega
  have k3 : s3 < M := by omega
  clear hT ho h0 h1 h2 h3 e0 e1 e2 e3 g0 g1 g2 g3 r0 r1 r2 r3 r0' r1' r2' r3' hsq
  have hmm := @run_makeMap Tryd.prog
  go_enter Tryd.func85, Tryd.ntmps85
  go_wp2
  clear hmm
  have A1 := (Below.refl w.heap.size w).alloc (Nat.le_refl _) (.cells #[.int .i64 W, .int .i64 H, .slice A n c, .slice Au N cu, .slice (some ⟨cv, 0, none⟩) M M] 114)
  have A2 := A1.alloc A1.size (.cells #[.int .i64 x, .int .i64 y] 30)
  have A3 := A2.alloc A2.size (.map #[] 0)
  have HB := Lib.hid A3
  have HS0 := Lib.hid (((At.new w #[.int .i64 W, .int .i64 H, .slice A n c, .slice Au N cu, .slice (some ⟨cv, 0, none⟩) M M] 114).below ((Below.refl _ _).alloc (Nat.le_refl _) (.cells #[.int .i64 x, .int .i64 y] 30)) (by simp)).below ((Below.refl _ _).alloc (Nat.le_refl _) (.map #[] 0)) (by first | exact Nat.le_refl _ | (simp; done) | (simp; omega) | omega))
  have HS1 := Lib.hid ((show At ((w.alloc (.cells #[.int .i64 W, .int .i64 H, .slice A n c, .slice Au N cu, .slice (some ⟨cv, 0, none⟩) M M] 114)).alloc (.cells #[.int .i64 x, .int .i64 y] 30)) (w.heap.size + 1) #[.int .i64 x, .int .i64 y] 30 from At.newAt (by simp)).below ((Below.refl _ _).alloc (Nat.le_refl _) (.map #[] 0)) (by simp))
  have HM0 := Lib.hid (SetIs.new ((w.alloc (.cells #[.int .i64 W, .int .i64 H, .slice A n c, .slice Au N cu, .slice (some ⟨cv, 0, none⟩) M M] 114)).alloc (.cells #[.int .i64 x, .int .i64 y] 30)))
  have hmz : ((w.alloc (.cells #[.int .i64 W, .int .i64 H, .slice A n c, .slice Au N cu, .slice (some ⟨cv, 0, none⟩) M M] 114)).alloc (.cells #[.int .i64 x, .int .i64 y] 30)).heap.size = w.heap.size + 1 + 1 := by simp
  have hwz : (((w.alloc (.cells #[.int .i64 W, .int .i64 H, .slice A n c, .slice Au N cu, .slice (some ⟨cv, 0, none⟩) M M] 114)).alloc (.cells #[.int .i64 x, .int .i64 y] 30)).alloc (.map #[] 0)).heap.size = w.heap.size + 1 + 1 + 1 := by simp
  rw [hmz] at HM0
  clear A1 A2 A3 hmz
  generalize ((w.alloc (.cells #[.int .i64 W, .int .i64 H, .slice A n c, .slice Au N cu, .slice (some ⟨cv, 0, none⟩) M M] 114)).alloc (.cells #[.int .i64 x, .int .i64 y] 30)).alloc (.map #[] 0) = w4 at HB HS0 HS1 HM0 hwz ⊢
  have c0 : w4.cell? ⟨w.heap.size, 0, none⟩ = some (.int .i64 W) := HS0.out.cellv (i := 0) rfl
  have c1 : w4.cell? ⟨w.heap.size, 1, none⟩ = some (.int .i64 H) := HS0.out.cellv (i := 1) rfl
  have c2 : w4.cell? ⟨w.heap.size, 2, none⟩ = some (.slice A n c) := HS0.out.cellv (i := 2) rfl
  have d0 : w4.cell? ⟨w.heap.size + 1, 0, none⟩ = some (.int .i64 x) := HS1.out.cellv (i := 0) rfl
  have d1 : w4.cell? ⟨w.heap.size + 1, 1, none⟩ = some (.int .i64 y) := HS1.out.cellv (i := 1) rfl
  have l0 := HS0.out.lt
  have l1 := HS1.out.lt
  refine wp_region_stab [some 9, some 10, some 11, some 12, some 13, some 14] [9, 10, 11, 12, 13, 14] [] []
    [(fun a lo hi u w' => u = .pointer (some ⟨w.heap.size, 0, none⟩)), (fun a lo hi u w' => u = .agg #[.int .i64 W, .int .i64 H, .slice A n c]), (fun a lo hi u w' => u = .agg #[.int .i64 W, .int .i64 H]),
      (fun a lo hi u w' => u = .agg #[.int .i64 x, .int .i64 y]), (fun a lo hi u w' => u = sq4 H x y), (fun a lo hi u w' => u = .int .i64 0)]
    [[], [0], [1], [], [2, 3], []] [[], [], [], [], [], []] (by kernel_rfl) (by kernel_rfl) (fun k hk => absurd hk List.not_mem_nil) ?gS ?gO ?gR
  case gS => exact ⟨fun _ _ _ _ _ _ h _ => h, fun _ _ _ _ _ _ h _ => h, fun _ _ _ _ _ _ h _ => h, fun _ _ _ _ _ _ h _ => h, fun _ _ _ _ _ _ h _ => h, fun _ _ _ _ _ _ h _ => h, trivial⟩
  case gO =>
    refine ⟨?o0, ?o1, ?o2, ?o3, ?o4, ?o5, trivial⟩
    case o0 =>
      intro vs iv wk hx hf
      have ezz : w.heap.size < wk.heap.size := Nat.lt_of_lt_of_le l0 hx.size
      intro K' hK
      simp only [setA, setT, List.setIfInBounds_toArray, List.set_cons_zero, List.set_cons_succ]
      go_simp
      refine hK.out _ (.pointer (some ⟨w.heap.size, 0, none⟩)) _ ?_ ?_
      · simp only [setA, setT, List.setIfInBounds_toArray, List.set_cons_zero, List.set_cons_succ, Act.put]
      · exact ⟨Ext.refl _ _, rfl⟩
    case o1 =>
      intro vs iv wk hx hf
      obtain ⟨⟨hq, -⟩, -⟩ := hf
      have hq : vs 9 = .pointer (some ⟨w.heap.size, 0, none⟩) := hq
      have ezz : w.heap.size < wk.heap.size := Nat.lt_of_lt_of_le l0 hx.size
      have e0 : wk.cell? ⟨w.heap.size, 0, none⟩ = some (.int .i64 W) := hx.cell c0 (by simp)
      have e1 : wk.cell? ⟨w.heap.size, 1, none⟩ = some (.int .i64 H) := hx.cell c1 (by simp)
      have e2 : wk.cell? ⟨w.heap.size, 2, none⟩ = some (.slice A n c) := hx.cell c2 (by simp)
      intro K' hK
      simp only [setA, setT, List.setIfInBounds_toArray, List.set_cons_zero, List.set_cons_succ]
      go_simp
      refine hK.out _ (.agg #[.int .i64 W, .int .i64 H, .slice A n c]) _ ?_ ?_
      · simp only [setA, setT, List.setIfInBounds_toArray, List.set_cons_zero, List.set_cons_succ, Act.put, hq]
      · exact ⟨Ext.refl _ _, rfl⟩
    case o2 =>
      intro vs iv wk hx hf
      obtain ⟨⟨hq, -⟩, -⟩ := hf
      have hq : vs 10 = .agg #[.int .i64 W, .int .i64 H, .slice A n c] := hq
      intro K' hK
      simp only [setA, setT, List.setIfInBounds_toArray, List.set_cons_zero, List.set_cons_succ]
      go_simp
      refine (sizeOf_any _ W H A n c).mono ?_
      rintro e w2 ⟨rfl, b2⟩
      dsimp only
      refine hK.out _ (.agg #[.int .i64 W, .int .i64 H]) _ ?_ ?_
      · simp only [setA, setT, List.setIfInBounds_toArray, List.set_cons_zero, List.set_cons_succ, Act.put, hq]
      · exact ⟨Ext.of_below b2, rfl⟩
    case o3 =>
      intro vs iv wk hx hf
      have ezz : w.heap.size + 1 < wk.heap.size := Nat.lt_of_lt_of_le l1 hx.size
      have e0 : wk.cell? ⟨w.heap.size + 1, 0, none⟩ = some (.int .i64 x) := hx.cell d0 (by simp)
      have e1 : wk.cell? ⟨w.heap.size + 1, 1, none⟩ = some (.int .i64 y) := hx.cell d1 (by simp)
      intro K' hK
      simp only [setA, setT, List.setIfInBounds_toArray, List.set_cons_zero, List.set_cons_succ]
      go_simp
      refine hK.out _ (.agg #[.int .i64 x, .int .i64 y]) _ ?_ ?_
      · simp only [setA, setT, List.setIfInBounds_toArray, List.set_cons_zero, List.set_cons_succ, Act.put]
      · exact ⟨Ext.refl _ _, rfl⟩
    case o4 =>
      intro vs iv wk hx hf
      obtain ⟨⟨hq1, -⟩, ⟨hq3, -⟩, -⟩ := hf
      have hq1 : vs 11 = .agg #[.int .i64 W, .int .i64 H] := hq1
      have hq3 : vs 12 = .agg #[.int .i64 x, .int .i64 y] := hq3
      have hTk : Cel wk 2 [.int .i64 (-1), .int .i64 (-1), .int .i64 1, .int .i64 (-1), .int .i64 (-1), .int .i64 1, .int .i64 1, .int .i64 1] := HTD.out.below (HB.out.trans ((((Ext.drew _).trans hx).nil).mono HB.out.size)) HTD.out.1
      intro K' hK
      simp only [setA, setT, List.setIfInBounds_toArray, List.set_cons_zero, List.set_cons_succ]
      go_simp
      refine (impl_segmentsAt _ W H x y M hTk hH x1 x2 y1 y2 HSI.out hM).mono ?_
      rintro e w2 ⟨rfl, b2⟩
      dsimp only
      refine hK.out _ (sq4 H x y) _ ?_ ?_
      · simp only [setA, setT, List.setIfInBounds_toArray, List.set_cons_zero, List.set_cons_succ, Act.put, hq1, hq3]
      · exact ⟨Ext.of_below b2, rfl⟩
    case o5 =>
      intro vs iv wk hx hf
      intro K' hK
      simp only [setA, setT, List.setIfInBounds_toArray, List.set_cons_zero, List.set_cons_succ]
      go_simp
      refine hK.out _ (.int .i64 0) _ ?_ ?_
      · simp only [setA, setT, List.setIfInBounds_toArray, List.set_cons_zero, List.set_cons_succ, Act.put]
      · exact ⟨Ext.refl _ _, rfl⟩
  case gR =>
    intro vs iv w5 hx hap hf
    obtain ⟨-, -, -, -, ⟨hv4, -⟩, ⟨hv5, -⟩, -⟩ := hf
    have hv4 : vs 13 = sq4 H x y := hv4
    have hv5 : vs 14 = .int .i64 0 := hv5
    rw [HSQ.out] at hv4
    have hx5 := ((Ext.drew (X := []) w4).trans hx).nil
    have HB5 := Lib.hid (HB.out.trans (hx5.mono HB.out.size))
    have HS5 := Lib.hid (HS0.out.below hx5 l0)
    have HM5 := Lib.hid (HM0.out.below hx5 (by omega))
    have HO5 := Lib.hid (rowIs_below HO.out HB5.out hvl)
    have hwz5 := hx5.size
    simp only [setA, setT, List.setIfInBounds_toArray, List.set_cons_zero, List.set_cons_succ, hv4, hv5]
    generalize vs 9 = u9
    generalize vs 10 = u10
    generalize vs 11 = u11
    generalize vs 12 = u12
    clear hx hap hv4 hv5 hx5 c0 c1 c2 d0 d1 HB HS0 HS1 HM0
    go_wp2
    go_loopw [14] (fun kv wr => ∃ k : Nat, k ≤ 4 ∧ kv = .int .i64 k ∧ Hid (SetIs wr (w.heap.size + 1 + 1) k (setK z0 z1 z2 z3 k)) ∧ Hid (Ext [w.heap.size + 1 + 1] w5 wr)) (fun kv _ => 9 - (intOf kv).toNat)
    case atStart => exact ⟨0, by omega, rfl, HM5, Lib.hid (Ext.refl _ _)⟩
    case round =>
      obtain ⟨k, hk, rfl, HS, HE⟩ := hrel
      have HX := Lib.hid (HS5.out.ext HE.out (by simp; omega))
      have HC := Lib.hid (rowIs_ext HO5.out HE.out (by simp; omega))
      have x4 : wr.cell? ⟨w.heap.size, 4, none⟩ = some (.slice (some ⟨cv, 0, none⟩) M M) := HX.out.cellv (i := 4) rfl
      have lx := HX.out.lt
      have lc := HC.out.lt
      rcases (show k = 0 ∨ k = 1 ∨ k = 2 ∨ k = 3 ∨ k = 4 by omega) with rfl | rfl | rfl | rfl | rfl
      · have hai := arr_at0
        have cc := HC.out.cell k0
        rw [HG0.out] at cc
        go_wp2_with fail
        refine (set_add wr (w.heap.size + 1 + 1) 0 _ HS.out z0 (WalkArith.wf_i64 (by omega)) (by unfold maxLen; omega)).mono ?_
        rintro e w6 ⟨⟨v', rfl⟩, hS2, hg2⟩
        have HS2 := Lib.hid hS2
        have HE2 := Lib.hid (HE.out.trans (ext_grown hg2 (by simp)))
        clear hS2 hg2 cc x4 hai
        go_wp2
        go_roundw
        case rel => exact ⟨1, by omega, by go_num, HS2, HE2⟩
        case measure => simp [intOf]
      · have hai := arr_at1
        have cc := HC.out.cell k1
        rw [HG1.out] at cc
        go_wp2_with fail
        refine (set_add wr (w.heap.size + 1 + 1) 1 _ HS.out z1 (WalkArith.wf_i64 (by omega)) (by unfold maxLen; omega)).mono ?_
        rintro e w6 ⟨⟨v', rfl⟩, hS2, hg2⟩
        have HS2 := Lib.hid hS2
        have HE2 := Lib.hid (HE.out.trans (ext_grown hg2 (by simp)))
        clear hS2 hg2 cc x4 hai
        go_wp2
        go_roundw
        case rel => exact ⟨2, by omega, by go_num, HS2, HE2⟩
        case measure => simp [intOf]
      · have hai := arr_at2
        have cc := HC.out.cell k2
        rw [HG2.out] at cc
        go_wp2_with fail
        refine (set_add wr (w.heap.size + 1 + 1) 2 _ HS.out z2 (WalkArith.wf_i64 (by omega)) (by unfold maxLen; omega)).mono ?_
        rintro e w6 ⟨⟨v', rfl⟩, hS2, hg2⟩
        have HS2 := Lib.hid hS2
        have HE2 := Lib.hid (HE.out.trans (ext_grown hg2 (by simp)))
        clear hS2 hg2 cc x4 hai
        go_wp2
        go_roundw
        case rel => exact ⟨3, by omega, by go_num, HS2, HE2⟩
        case measure => simp [intOf]
      · have hai := arr_at3
        have cc := HC.out.cell k3
        rw [HG3.out] at cc
        go_wp2_with fail
        refine (set_add wr (w.heap.size + 1 + 1) 3 _ HS.out z3 (WalkArith.wf_i64 (by omega)) (by unfold maxLen; omega)).mono ?_
        rintro e w6 ⟨⟨v', rfl⟩, hS2, hg2⟩
        have HS2 := Lib.hid hS2
        have HE2 := Lib.hid (HE.out.trans (ext_grown hg2 (by simp)))
        clear hS2 hg2 cc x4 hai
        go_wp2
        go_roundw
        case rel => exact ⟨4, by omega, by go_num, HS2, HE2⟩
        case measure => simp [intOf]
      · go_wp2
        go_ret
        exact ⟨_, rfl, by omega, HS.out, HB5.out.trans (HE.out.below (fun b hb => by simp at hb; omega) (by omega))⟩
end Go.Proofs.YtajikegfladelaaDoor.Base

namespace Go.Proofs.YtajikegfladelaaDoor.Base
open Go Go.RowKit
set_option linter.unusedVariables false
set_option linter.unusedSimpArgs false
attribute [local go_sem] Oper.semAt_some

/-- the numbers of the inner points without a break among the first k -/
def zl (f : Nat → Int) : Nat → List Nat
  | 0 => []
  | k + 1 => if f k = 0 then zl f k ++ [k] else zl f k
theorem zl_yes {f : Nat → Int} {k : Nat} (h : f k = 0) : zl f (k + 1) = zl f k ++ [k] := if_pos h
theorem zl_no {f : Nat → Int} {k : Nat} (h : f k ≠ 0) : zl f (k + 1) = zl f k := if_neg h
theorem zl_len (f : Nat → Int) : ∀ k, (zl f k).length ≤ k
  | 0 => Nat.le_refl _
  | k + 1 => by
    have := zl_len f k
    by_cases h : f k = 0
    · rw [zl_yes h, List.length_append]; show _ + 1 ≤ _; omega
    · rw [zl_no h]; omega
theorem zl_at {f : Nat → Int} {k : Nat} (h : f k = 0) : ∀ n, k < n → (zl f n)[(zl f k).length]? = some k ∧ (zl f k).length < (zl f n).length
  | 0, hn => absurd hn (by omega)
  | n + 1, hn => by
    rcases Nat.lt_or_ge k n with h' | h'
    · obtain ⟨i1, i2⟩ := zl_at h n h'
      by_cases h2 : f n = 0
      · rw [zl_yes h2, List.getElem?_append_left i2, List.length_append]
        exact ⟨i1, by omega⟩
      · rw [zl_no h2]; exact ⟨i1, i2⟩
    · have e : n = k := by omega
      subst e
      rw [zl_yes h, List.getElem?_append_right (Nat.le_refl _), Nat.sub_self, List.length_append]
      exact ⟨rfl, by show _ < _ + 1; omega⟩
/-- the j-th of these points -/
def zpt (W : Int) (f : Nat → Int) (n j : Nat) : Int × Int := (ptX W (((zl f n).getD j 0 : Nat) : Int), ptY W (((zl f n).getD j 0 : Nat) : Int))
def paggP (v : Int × Int) : Value := .agg #[.int .i64 v.1, .int .i64 v.2]
theorem zpt_at {W : Int} {f : Nat → Int} {n k : Nat} (h : f k = 0) (hk : k < n) : zpt W f n (zl f k).length = (ptX W (k : Int), ptY W (k : Int)) := by
  have e : (zl f n).getD (zl f k).length 0 = k := by rw [List.getD_eq_getElem?_getD, (zl_at h n hk).1]; rfl
  unfold zpt
  rw [e]
/-- of the first j of these points, at how many the curves a and b cross -/
def crJ (W H : Int) (f g : Nat → Int) (a b : Int) (l : List Nat) : Nat → Nat
  | 0 => 0
  | j + 1 => crJ W H f g a b l j + (if crT W H f g a b (l.getD j 0) then 1 else 0)
theorem crJ_app {W H : Int} {f g : Nat → Int} {a b : Int} {l : List Nat} {x : Nat} : ∀ j, j ≤ l.length → crJ W H f g a b (l ++ [x]) j = crJ W H f g a b l j
  | 0, _ => rfl
  | j + 1, h => by
    show crJ W H f g a b (l ++ [x]) j + _ = crJ W H f g a b l j + _
    rw [crJ_app j (by omega)]
    have e : (l ++ [x]).getD j 0 = l.getD j 0 := by rw [List.getD_eq_getElem?_getD, List.getD_eq_getElem?_getD, List.getElem?_append_left (by omega)]
    rw [e]
theorem crJ_all (W H : Int) (f g : Nat → Int) (a b : Int) : ∀ n, crJ W H f g a b (zl f n) (zl f n).length = crF W H f g a b n
  | 0 => rfl
  | n + 1 => by
    have ih := crJ_all W H f g a b n
    by_cases h : f n = 0
    · rw [zl_yes h, List.length_append]
      show crJ W H f g a b (zl f n ++ [n]) (zl f n).length + (if crT W H f g a b ((zl f n ++ [n]).getD (zl f n).length 0) then 1 else 0) = crF W H f g a b n + (if crT W H f g a b n then 1 else 0)
      have e : (zl f n ++ [n]).getD (zl f n).length 0 = n := by rw [List.getD_eq_getElem?_getD, List.getElem?_append_right (Nat.le_refl _), Nat.sub_self]; rfl
      rw [e, crJ_app _ (Nat.le_refl _), ih]
    · rw [zl_no h, crF_skip h, ih]
theorem crJ_le (W H : Int) (f g : Nat → Int) (a b : Int) (l : List Nat) : ∀ j, crJ W H f g a b l j ≤ j
  | 0 => Nat.le_refl _
  | j + 1 => by have := crJ_le W H f g a b l j; show _ + _ ≤ _; split <;> omega
/-- what there is to know of the j-th of these points -/
theorem zl_mem {f : Nat → Int} : ∀ {n j : Nat}, j < (zl f n).length → (zl f n).getD j 0 < n ∧ f ((zl f n).getD j 0) = 0
  | 0, j, h => absurd h (by show ¬ j < 0; omega)
  | n + 1, j, h => by
    by_cases h2 : f n = 0
    · rw [zl_yes h2, List.length_append] at h
      rw [zl_yes h2]
      rcases Nat.lt_or_ge j (zl f n).length with h' | h'
      · have e : (zl f n ++ [n]).getD j 0 = (zl f n).getD j 0 := by rw [List.getD_eq_getElem?_getD, List.getD_eq_getElem?_getD, List.getElem?_append_left h']
        rw [e]
        have := zl_mem h'
        exact ⟨by omega, this.2⟩
      · have ej : j = (zl f n).length := by have : j < (zl f n).length + 1 := h; omega
        have e : (zl f n ++ [n]).getD j 0 = n := by rw [ej, List.getD_eq_getElem?_getD, List.getElem?_append_right (Nat.le_refl _), Nat.sub_self]; rfl
        rw [e]
        exact ⟨by omega, h2⟩
    · rw [zl_no h2] at h ⊢
      have := zl_mem h
      exact ⟨by omega, this.2⟩

/-- what impl's crossings leaves: the box that its function has captured -/
def CrossMade (W H : Int) (A : Option Addr) (n c : Nat) (w : World) (e : Ending) (w' : World) : Prop :=
  e = .returned (.func (.func 137) #[] #[.pointer (some ⟨w.heap.size, 0, none⟩)]) ∧ At w' w.heap.size #[.int .i64 W, .int .i64 H, .slice A n c] 35 ∧ Below w.heap.size w w' ∧ w'.heap.size = w.heap.size + 1
theorem impl_crossings (w : World) (W H : Int) (A : Option Addr) (n c : Nat) :
    Calls Tryd.prog 90 #[.agg #[.int .i64 W, .int .i64 H, .slice A n c]] w (CrossMade W H A n c w) := by
  go_enter Tryd.func90, Tryd.ntmps90
  go_wp2
  go_ret
  exact ⟨rfl, At.new _ _ _, (Below.refl _ _).alloc (Nat.le_refl _) _, by simp⟩

set_option maxHeartbeats 4000000 in
theorem cross_iter (nF : Nat) (hn1 : 1 ≤ nF) (w0 w : World) (W H : Int) (A : Option Addr) (n c : Nat) (f : Nat → Int) (p1 : Nat) (hr : Row .i64 w0 A n c f) (hv : validB W H n f = true)
    (hb : Below w0.heap.size w0 w) (h1 : At w p1 #[.int .i64 W, .int .i64 H, .slice A n c] 35) :
    IterY Fence.wide nF Tryd.prog 137 #[.pointer (some ⟨p1, 0, none⟩)] (fun j => #[paggP (zpt W f n j)]) (zl f n).length w0.heap.size [p1] w := fun l J Jx Wa hba hnew hJ hJx hset hY h0 => by
  refine callsIn_of_wp Tryd.func137 rfl trivial ?_ rfl
  simp only [Tryd.ntmps137, List.size_toArray, List.length_cons, List.length_nil, Nat.reduceAdd, Nat.reduceSub, Array.replicate_succ, Array.replicate_zero, List.push_toArray, List.append_toArray, List.nil_append, List.cons_append]
  have HA := Lib.hid (h1.below hba h1.lt)
  obtain ⟨hW, hH, hn, -⟩ := validB_yes hv
  obtain ⟨i0, i1⟩ := inner_bd hW hH
  have hcm := hr.2.1
  have hnc := hr.1
  unfold maxLen at hcm
  have HR := Lib.hid hr
  have HJ0 := Lib.hid h0
  have HJs := Lib.hid hJ
  have HY := Lib.hid hY
  have HB := Lib.hid (hb.trans (hba.mono hb.size))
  clear h1 hr h0 hJ hnew hset hJx hY hb hv
  have k0 : Wa.cell? ⟨p1, 0, none⟩ = some (.int .i64 W) := HA.out.cellv (i := 0) rfl
  have k1 : Wa.cell? ⟨p1, 1, none⟩ = some (.int .i64 H) := HA.out.cellv (i := 1) rfl
  have k2 : Wa.cell? ⟨p1, 2, none⟩ = some (.slice A n c) := HA.out.cellv (i := 2) rfl
  have l1 := HA.out.lt
  gi_wp2
  clear k0 k1 k2 l1
  gi_loopg [8] n (fun g s8 wr => ∃ (k : Nat) (Y : List Nat), s8 = .int .i64 k ∧ k + g = n ∧ Hid (J Y (zl f k).length wr) ∧ Hid (Below w0.heap.size w0 wr) ∧ Hid (At wr p1 #[.int .i64 W, .int .i64 H, .slice A n c] 35))
  case atStart => exact ⟨0, [], rfl, by omega, HJ0, HB, HA⟩
  case round =>
    clear HA HJ0 HB
    obtain ⟨k, Y, rfl, hkg, HJk, HBk, HAk⟩ := hrel
    have k0 : wr.cell? ⟨p1, 0, none⟩ = some (.int .i64 W) := HAk.out.cellv (i := 0) rfl
    have k1 : wr.cell? ⟨p1, 1, none⟩ = some (.int .i64 H) := HAk.out.cellv (i := 1) rfl
    have k2 : wr.cell? ⟨p1, 2, none⟩ = some (.slice A n c) := HAk.out.cellv (i := 2) rfl
    have l1 := HAk.out.lt
    by_cases hlt : k < n
    · obtain ⟨-, -, -, hcell⟩ := HR.out.below HBk.out (Nat.le_refl _)
      obtain ⟨b0, o0, rfl, hbl, hc⟩ := hcell (by omega)
      have hck := hc k hlt
      clear hc hcell
      by_cases hf : f k = 0
      · have HZ := Lib.hid (zpt_at (W := W) hf hlt)
        have HZl := Lib.hid ((zl_at hf n hlt).2)
        have HZy := Lib.hid (show (zl f (k + 1)).length = (zl f k).length + 1 by rw [zl_yes hf, List.length_append]; rfl)
        gi_wp2_with fail
        refine ⟨trivial, (callsIn_wide.2 (sizeOf_any wr W H _ n c)).mono ?_⟩
        rintro e w2 ⟨rfl, b2⟩
        have HJ2 := Lib.hid (HJs.out _ _ _ _ HJk.out b2)
        have HB2 := Lib.hid (HBk.out.trans (b2.mono HBk.out.size))
        have HA2 := Lib.hid (HAk.out.below b2 HAk.out.lt)
        clear b2 HJk HBk HAk k0 k1 k2 l1 hck hbl
        gi_wp2_with fail
        refine ⟨trivial, (callsIn_wide.2 (pointAt_any w2 W H (k : Int) hW (by omega) (by omega))).mono ?_⟩
        rintro e w3 ⟨rfl, b3⟩
        have HJ3 := Lib.hid (HJs.out _ _ _ _ HJ2.out b3)
        have HB3 := Lib.hid (HB2.out.trans (b3.mono HB2.out.size))
        have HA3 := Lib.hid (HA2.out.below b3 HA2.out.lt)
        clear b3 HJ2 HB2 HA2
        obtain ⟨fn, tm, assign, body, hy, hR⟩ := HY.out Y (zl f k).length w3 HZl.out HJ3.out
        rw [HZ.out] at hy
        have hy' : (Instr.yield l #[.agg #[.int .i64 (ptX W (k : Int)), .int .i64 (ptY W (k : Int))]]).run Tryd.prog w3 = .ok (.round l fn tm assign body) w3 := hy
        clear hy
        gi_wp2_with fail
        refine hR.mono ?_
        clear hy' hR
        rintro e W5 (⟨rfl, hJ5, hk5⟩ | ⟨rfl, hJx5⟩)
        · have HA5 := Lib.hid (HA3.out.of_block (hk5.box p1 (by simp) HA3.out.lt))
          have HB5 := Lib.hid (HB3.out.trans hk5.below)
          have HJ5 := Lib.hid hJ5
          clear hJ5 hk5 HA3 HB3 HJ3
          gi_wp2
          gi_roundg (gk - 1)
          case measure => omega
          case rel => exact ⟨k + 1, Y, by go_num, by omega, by rw [HZy.out]; exact HJ5, HB5, HA5⟩
        · have HJ5 := Lib.hid hJx5
          clear hJx5
          gi_wp2
          refine bodyPost_ret (results_none rfl _ _ _) rfl ?_
          exact ⟨⟨_, rfl⟩, .inr ⟨(zl f k).length + 1, HZl.out, HJ5.out⟩⟩
      · have hfb : (f k == 0) = false := beq_eq_false_iff_ne.2 hf
        have HZn := Lib.hid (zl_no hf)
        clear hf
        gi_wp2_with fail
        refine ⟨trivial, ?_⟩
        gi_wp2_with fail
        refine ⟨trivial, ?_⟩
        gi_wp2_with fail
        refine ⟨fun _ _ => trivial, ?_⟩
        gi_wp2
        gi_roundg (gk - 1)
        case measure => omega
        case rel => exact ⟨k + 1, Y, by go_num, by omega, by rw [HZn.out]; exact HJk, HBk, HAk⟩
    · have ek : k = n := by omega
      subst ek
      gi_wp2
      go_end0
      exact ⟨⟨_, rfl⟩, .inl ⟨Y, HJk.out⟩⟩
end Go.Proofs.YtajikegfladelaaDoor.Base

namespace Go.Proofs.YtajikegfladelaaDoor.Base
open Go Go.RowKit
set_option linter.unusedVariables false
set_option linter.unusedSimpArgs false
attribute [local go_sem] Oper.semAt_some

/-- the two curves at an inner point without a break -/
theorem pt_curves {W H : Int} {n : Nat} {f : Nat → Int} {k : Nat} (hv : validB W H n f = true) (hk : k < n) (hf : f k = 0) :
    ∃ z0 z1 : Nat, me0 H (trE W H f).of (ptX W k) (ptY W k) = z0 ∧ me1 H (trE W H f).of (ptX W k) (ptY W k) = z1 ∧ me2 H (trE W H f).of (ptX W k) (ptY W k) = z1 ∧ me3 H (trE W H f).of (ptX W k) (ptY W k) = z0 ∧ z0 < cnN W H f ∧ z1 < cnN W H f := by
  obtain ⟨hW, hH, hn, -⟩ := validB_yes hv
  obtain ⟨m0, m1⟩ := segs_bd hW hH
  obtain ⟨p1, p2, p3, p4, p5⟩ := pt_in hW hH (k := (k : Int)) (by omega) (by omega)
  have hc : Closed W H n f (trE W H f).of := trs_closed hv (4 * W * H).toNat (by omega)
  obtain ⟨⟨r0, r0'⟩, ⟨r1, r1'⟩, -, -⟩ := segs_in hv p1 p2 p3 p4 p5
  have hp : hasB W H (ptX W k) (ptY W k) = true := has_mk (by omega) (by omega) (by omega) (by omega) p5
  have ht : tkOf W H f (ptX W k) (ptY W k) = 0 := by
    unfold tkOf
    rw [if_neg (by omega), if_neg (by omega), (pt_is hW hH (k := (k : Int)) (by omega) (by omega)).2.2]
    exact hf
  have q1 := meet hc (wk_mk hv (ex := -1) (ey := -1) rfl rfl hp (has_mk (by omega) (by omega) (by omega) (by omega) (by omega)))
  have q2 := meet hc (wk_mk hv (ex := 1) (ey := -1) rfl rfl hp (has_mk (by omega) (by omega) (by omega) (by omega) (by omega)))
  rw [ht] at q1 q2
  simp only [show ¬ ((0 : Int) = 1) by decide, show ¬ ((0 : Int) = 2) by decide, if_false, Int.neg_neg] at q1 q2
  have d0 := trs_done hv (4 * W * H).toNat (segOf H (ptX W k) (ptY W k) (-1) (-1)).toNat (by omega) (by omega)
  have d1 := trs_done hv (4 * W * H).toNat (segOf H (ptX W k) (ptY W k) 1 (-1)).toNat (by omega) (by omega)
  have f0 := (trs_of_ge W H f (4 * W * H).toNat (segOf H (ptX W k) (ptY W k) (-1) (-1)).toNat).2.1
  have f1 := (trs_of_ge W H f (4 * W * H).toNat (segOf H (ptX W k) (ptY W k) 1 (-1)).toNat).2.1
  have e0 : 0 ≤ me0 H (trE W H f).of (ptX W k) (ptY W k) ∧ me0 H (trE W H f).of (ptX W k) (ptY W k) < cnN W H f := ⟨d0, f0⟩
  have e1 : 0 ≤ me1 H (trE W H f).of (ptX W k) (ptY W k) ∧ me1 H (trE W H f).of (ptX W k) (ptY W k) < cnN W H f := ⟨d1, f1⟩
  have q1 : me0 H (trE W H f).of (ptX W k) (ptY W k) = me3 H (trE W H f).of (ptX W k) (ptY W k) := q1
  have q2 : me1 H (trE W H f).of (ptX W k) (ptY W k) = me2 H (trE W H f).of (ptX W k) (ptY W k) := q2
  exact ⟨(me0 H (trE W H f).of (ptX W k) (ptY W k)).toNat, (me1 H (trE W H f).of (ptX W k) (ptY W k)).toNat, by omega, by omega, by omega, by omega, by omega, by omega⟩
/-- a step of the count at such a point -/
theorem crJ_step {W H : Int} {n : Nat} {f g : Nat → Int} {a b : Int} {j z0 z1 : Nat} (hj : j < (zl f n).length) (h0 : me0 H g (zpt W f n j).1 (zpt W f n j).2 = z0) (h1 : me1 H g (zpt W f n j).1 (zpt W f n j).2 = z1) :
    crJ W H f g a b (zl f n) (j + 1) = crJ W H f g a b (zl f n) j + (if crB z0 z1 a b then 1 else 0) := by
  obtain ⟨k1, k2⟩ := zl_mem hj
  show crJ W H f g a b (zl f n) j + (if crT W H f g a b ((zl f n).getD j 0) then 1 else 0) = _
  have hcr : crT W H f g a b ((zl f n).getD j 0) ↔ crB z0 z1 a b = true := by
    unfold crT crB
    unfold me0 zpt at h0
    unfold me1 zpt at h1
    simp only at h0 h1
    rw [h0, h1]
    simp only [k2, true_and, Bool.or_eq_true, Bool.and_eq_true, beq_iff_eq]
  simp only [hcr]

theorem crB_set {z0 z1 i j : Nat} (h : (i : Int) ≠ (j : Int)) : crB z0 z1 i j = (setK z0 z1 z1 z0 4 i && setK z0 z1 z1 z0 4 j) := by
  rw [Bool.eq_iff_iff]
  simp only [crB, setK, Bool.or_eq_true, Bool.and_eq_true, beq_iff_eq, Bool.false_eq_true, or_false]
  omega
section
variable (w : World) (W H : Int) (A : Option Addr) (n c : Nat) (f : Nat → Int) (s t : Int)
theorem impl_commonBad (hr : Row .i64 w A n c f) (hv : validB W H n f = false) :
    Calls Tryd.prog 38 #[.agg #[.int .i64 W, .int .i64 H, .slice A n c], .int .i64 s, .int .i64 t] w (Gives (.tuple #[.int .i64 0, .int .i64 1]) w) := by
  have HL := Lib.hid (show Below w.heap.size w (((w.alloc (.cells #[.int .i64 W, .int .i64 H, .slice A n c] 35)).alloc (.cells #[.int .i64 s] 2)).alloc (.cells #[.int .i64 t] 2)) from (((Below.refl _ _).alloc (Nat.le_refl _) _).alloc (by simp) _).alloc (by simp; omega) _)
  have HR := Lib.hid hr
  have HV := Lib.hid hv
  clear hr hv
  go_enter Tryd.func38, Tryd.ntmps38
  go_wp2_with fail
  refine (impl_tcBad _ W H A n c f s (HR.out.below HL.out (Nat.le_refl _)) HV.out).mono ?_
  rintro e w1 ⟨rfl, b1⟩
  go_wp2
  go_ret2
  exact ⟨rfl, (HL.out.trans (b1.mono (by first | exact Nat.le_refl _ | (simp; done) | (simp; omega) | omega))).alloc (Nat.le_trans HL.out.size b1.size) _⟩
theorem impl_commonOut (hr : Row .i64 w A n c f) (hT : Cel w 0 [.int .i64 1, .int .i64 1, .int .i64 (-1), .int .i64 1, .int .i64 1, .int .i64 (-1)]) (hv : validB W H n f = true) (hk : inB s 0 ((cnN W H f : Int) - 1) = false) :
    Calls Tryd.prog 38 #[.agg #[.int .i64 W, .int .i64 H, .slice A n c], .int .i64 s, .int .i64 t] w (Gives (.tuple #[.int .i64 0, .int .i64 2]) w) := by
  have HL := Lib.hid (show Below w.heap.size w (((w.alloc (.cells #[.int .i64 W, .int .i64 H, .slice A n c] 35)).alloc (.cells #[.int .i64 s] 2)).alloc (.cells #[.int .i64 t] 2)) from (((Below.refl _ _).alloc (Nat.le_refl _) _).alloc (by simp) _).alloc (by simp; omega) _)
  have HR := Lib.hid hr
  have HV := Lib.hid hv
  have HT := Lib.hid hT
  have HK := Lib.hid hk
  clear hr hv hT hk
  go_enter Tryd.func38, Tryd.ntmps38
  go_wp2_with fail
  refine (impl_tcOut _ W H A n c f s (HR.out.below HL.out (Nat.le_refl _)) (HT.out.below HL.out HT.out.1) HV.out HK.out).mono ?_
  rintro e w1 ⟨rfl, b1⟩
  go_wp2
  go_ret2
  exact ⟨rfl, (HL.out.trans (b1.mono (by first | exact Nat.le_refl _ | (simp; done) | (simp; omega) | omega))).alloc (Nat.le_trans HL.out.size b1.size) _⟩
set_option maxHeartbeats 1000000 in
theorem impl_commonOut2 (hr : Row .i64 w A n c f) (hT : Cel w 0 [.int .i64 1, .int .i64 1, .int .i64 (-1), .int .i64 1, .int .i64 1, .int .i64 (-1)]) (hv : validB W H n f = true) (hk : inB s 0 ((cnN W H f : Int) - 1) = true) (hk2 : inB t 0 ((cnN W H f : Int) - 1) = false) :
    Calls Tryd.prog 38 #[.agg #[.int .i64 W, .int .i64 H, .slice A n c], .int .i64 s, .int .i64 t] w (Gives (.tuple #[.int .i64 0, .int .i64 2]) w) := by
  have HL := Lib.hid (show Below w.heap.size w (((w.alloc (.cells #[.int .i64 W, .int .i64 H, .slice A n c] 35)).alloc (.cells #[.int .i64 s] 2)).alloc (.cells #[.int .i64 t] 2)) from (((Below.refl _ _).alloc (Nat.le_refl _) _).alloc (by simp) _).alloc (by simp; omega) _)
  have hcn := cnN_le hv
  have HO := Lib.hid (impl_tcIn (((w.alloc (.cells #[.int .i64 W, .int .i64 H, .slice A n c] 35)).alloc (.cells #[.int .i64 s] 2)).alloc (.cells #[.int .i64 t] 2)) W H A n c f s (hr.below HL.out (Nat.le_refl _)) (hT.below HL.out hT.1) hv hk)
  have hcE : (trs W H f (4 * W * H).toNat).cnt = cnN W H f := rfl
  have hB : At (((w.alloc (.cells #[.int .i64 W, .int .i64 H, .slice A n c] 35)).alloc (.cells #[.int .i64 s] 2)).alloc (.cells #[.int .i64 t] 2)) (w.heap.size + 1 + 1) #[.int .i64 t] 2 := At.newAt (by simp)
  have hA : At (((w.alloc (.cells #[.int .i64 W, .int .i64 H, .slice A n c] 35)).alloc (.cells #[.int .i64 s] 2)).alloc (.cells #[.int .i64 t] 2)) (w.heap.size + 1) #[.int .i64 s] 2 := (show At ((w.alloc (.cells #[.int .i64 W, .int .i64 H, .slice A n c] 35)).alloc (.cells #[.int .i64 s] 2)) (w.heap.size + 1) #[.int .i64 s] 2 from At.newAt (by simp)).below ((Below.refl _ _).alloc (Nat.le_refl _) (.cells #[.int .i64 t] 2)) (by simp)
  have HA := Lib.hid hA
  have HB := Lib.hid hB
  have HC := Lib.hid hcE
  have HK2 := Lib.hid hk2
  clear hr hT hv hk hk2 hcE hA hB
  go_enter Tryd.func38, Tryd.ntmps38
  go_wp2_with fail
  refine HO.out.mono ?_
  rintro e w1 ⟨Au, cu, cv, rfl, h1, h2, h3, b1⟩
  rw [HC.out]
  have HA1 := Lib.hid (HA.out.below b1 HA.out.lt)
  have HB1 := Lib.hid (HB.out.below b1 HB.out.lt)
  have HL1 := Lib.hid (HL.out.trans (b1.mono (by first | exact Nat.le_refl _ | (simp; done) | (simp; omega) | omega)))
  clear b1 h1 h2 h3 HO
  have a0 : w1.cell? ⟨w.heap.size + 1, 0, none⟩ = some (.int .i64 s) := HA1.out.cellv (i := 0) rfl
  have b0 : w1.cell? ⟨w.heap.size + 1 + 1, 0, none⟩ = some (.int .i64 t) := HB1.out.cellv (i := 0) rfl
  have la := HA1.out.lt
  have lb := HB1.out.lt
  go_wp2_with fail
  have X2 := Lib.hid ((Below.refl w1.heap.size w1).alloc (Nat.le_refl _) (.cells #[.int .i64 W, .int .i64 H, .slice A n c, .slice Au (cnN W H f) cu, .slice (some ⟨cv, 0, none⟩) (4 * W * H).toNat (4 * W * H).toNat] 114))
  refine (hasCurve_is (n1 := cnN W H f) (by omega) HK2.out).mono ?_
  rintro e w2 ⟨rfl, b2⟩
  have HL2 := Lib.hid ((HL1.out.trans (X2.out.mono HL1.out.size)).trans (b2.mono (Nat.le_trans HL1.out.size X2.out.size)))
  clear b2
  go_wp2
  go_ret2
  exact ⟨rfl, HL2.out⟩
set_option maxHeartbeats 1000000 in
theorem impl_commonSame (hr : Row .i64 w A n c f) (hT : Cel w 0 [.int .i64 1, .int .i64 1, .int .i64 (-1), .int .i64 1, .int .i64 1, .int .i64 (-1)]) (hv : validB W H n f = true) (hk : inB s 0 ((cnN W H f : Int) - 1) = true) :
    Calls Tryd.prog 38 #[.agg #[.int .i64 W, .int .i64 H, .slice A n c], .int .i64 s, .int .i64 s] w (Gives (.tuple #[.int .i64 0, .int .i64 6]) w) := by
  have HL := Lib.hid (show Below w.heap.size w (((w.alloc (.cells #[.int .i64 W, .int .i64 H, .slice A n c] 35)).alloc (.cells #[.int .i64 s] 2)).alloc (.cells #[.int .i64 s] 2)) from (((Below.refl _ _).alloc (Nat.le_refl _) _).alloc (by simp) _).alloc (by simp; omega) _)
  have hcn := cnN_le hv
  have HO := Lib.hid (impl_tcIn (((w.alloc (.cells #[.int .i64 W, .int .i64 H, .slice A n c] 35)).alloc (.cells #[.int .i64 s] 2)).alloc (.cells #[.int .i64 s] 2)) W H A n c f s (hr.below HL.out (Nat.le_refl _)) (hT.below HL.out hT.1) hv hk)
  have hcE : (trs W H f (4 * W * H).toNat).cnt = cnN W H f := rfl
  have hB : At (((w.alloc (.cells #[.int .i64 W, .int .i64 H, .slice A n c] 35)).alloc (.cells #[.int .i64 s] 2)).alloc (.cells #[.int .i64 s] 2)) (w.heap.size + 1 + 1) #[.int .i64 s] 2 := At.newAt (by simp)
  have hA : At (((w.alloc (.cells #[.int .i64 W, .int .i64 H, .slice A n c] 35)).alloc (.cells #[.int .i64 s] 2)).alloc (.cells #[.int .i64 s] 2)) (w.heap.size + 1) #[.int .i64 s] 2 := (show At ((w.alloc (.cells #[.int .i64 W, .int .i64 H, .slice A n c] 35)).alloc (.cells #[.int .i64 s] 2)) (w.heap.size + 1) #[.int .i64 s] 2 from At.newAt (by simp)).below ((Below.refl _ _).alloc (Nat.le_refl _) (.cells #[.int .i64 s] 2)) (by simp)
  have HA := Lib.hid hA
  have HB := Lib.hid hB
  have HC := Lib.hid hcE
  have HK2 := Lib.hid hk
  clear hr hT hv hk hcE hA hB
  go_enter Tryd.func38, Tryd.ntmps38
  go_wp2_with fail
  refine HO.out.mono ?_
  rintro e w1 ⟨Au, cu, cv, rfl, h1, h2, h3, b1⟩
  rw [HC.out]
  have HA1 := Lib.hid (HA.out.below b1 HA.out.lt)
  have HB1 := Lib.hid (HB.out.below b1 HB.out.lt)
  have HL1 := Lib.hid (HL.out.trans (b1.mono (by first | exact Nat.le_refl _ | (simp; done) | (simp; omega) | omega)))
  clear b1 h1 h2 h3 HO
  have a0 : w1.cell? ⟨w.heap.size + 1, 0, none⟩ = some (.int .i64 s) := HA1.out.cellv (i := 0) rfl
  have b0 : w1.cell? ⟨w.heap.size + 1 + 1, 0, none⟩ = some (.int .i64 s) := HB1.out.cellv (i := 0) rfl
  have la := HA1.out.lt
  have lb := HB1.out.lt
  go_wp2_with fail
  have X2 := Lib.hid ((Below.refl w1.heap.size w1).alloc (Nat.le_refl _) (.cells #[.int .i64 W, .int .i64 H, .slice A n c, .slice Au (cnN W H f) cu, .slice (some ⟨cv, 0, none⟩) (4 * W * H).toNat (4 * W * H).toNat] 114))
  refine (hasCurve_is (n1 := cnN W H f) (by omega) HK2.out).mono ?_
  rintro e w2 ⟨rfl, b2⟩
  have HL2 := Lib.hid ((HL1.out.trans (X2.out.mono HL1.out.size)).trans (b2.mono (Nat.le_trans HL1.out.size X2.out.size)))
  have HA2 := Lib.hid ((HA1.out.below X2.out la).below b2 (Nat.lt_of_lt_of_le la X2.out.size))
  have HB2 := Lib.hid ((HB1.out.below X2.out lb).below b2 (Nat.lt_of_lt_of_le lb X2.out.size))
  clear b2 a0 b0 la lb
  have a0 : w2.cell? ⟨w.heap.size + 1, 0, none⟩ = some (.int .i64 s) := HA2.out.cellv (i := 0) rfl
  have b0 : w2.cell? ⟨w.heap.size + 1 + 1, 0, none⟩ = some (.int .i64 s) := HB2.out.cellv (i := 0) rfl
  have la := HA2.out.lt
  have lb := HB2.out.lt
  have hss : (s == s) = true := by simp
  go_wp2
  go_ret2
  exact ⟨rfl, HL2.out⟩
end
set_option maxHeartbeats 4000000 in
theorem impl_commonIn (w : World) (W H : Int) (A : Option Addr) (n c : Nat) (f : Nat → Int) (i0 j0 : Nat) (hr : Row .i64 w A n c f) (hT : Cel w 0 [.int .i64 1, .int .i64 1, .int .i64 (-1), .int .i64 1, .int .i64 1, .int .i64 (-1)]) (hD : Cel w 2 [.int .i64 (-1), .int .i64 (-1), .int .i64 1, .int .i64 (-1), .int .i64 (-1), .int .i64 1, .int .i64 1, .int .i64 1]) (hv : validB W H n f = true) (hk : inB (i0 : Int) 0 ((cnN W H f : Int) - 1) = true) (hk2 : inB (j0 : Int) 0 ((cnN W H f : Int) - 1) = true) (hij : i0 ≠ j0) :
    Calls Tryd.prog 38 #[.agg #[.int .i64 W, .int .i64 H, .slice A n c], .int .i64 (i0 : Int), .int .i64 (j0 : Int)] w (Gives (.tuple #[.int .i64 (crF W H f (trE W H f).of i0 j0 n : Int), .int .i64 0]) w) := by
  have HL := Lib.hid (show Below w.heap.size w (((w.alloc (.cells #[.int .i64 W, .int .i64 H, .slice A n c] 35)).alloc (.cells #[.int .i64 (i0 : Int)] 2)).alloc (.cells #[.int .i64 (j0 : Int)] 2)) from (((Below.refl _ _).alloc (Nat.le_refl _) _).alloc (by simp) _).alloc (by simp; omega) _)
  obtain ⟨hW, hH, hn, -⟩ := validB_yes hv
  obtain ⟨q0, q1⟩ := inner_bd hW hH
  obtain ⟨m0, m1⟩ := segs_bd hW hH
  obtain ⟨a1, a2⟩ := side_mk hW
  obtain ⟨b1, b2⟩ := side_mk hH
  have hn1 : n ≤ 112 := by omega
  have hcn := cnN_le hv
  have HO := impl_tcIn (((w.alloc (.cells #[.int .i64 W, .int .i64 H, .slice A n c] 35)).alloc (.cells #[.int .i64 (i0 : Int)] 2)).alloc (.cells #[.int .i64 (j0 : Int)] 2)) W H A n c f i0 (hr.below HL.out (Nat.le_refl _)) (hT.below HL.out hT.1) hv hk
  have HPT := Lib.hid (fun (j : Nat) (hj : j < (zl f n).length) => (show SegsIn H (4 * W * H).toNat (zpt W f n j).1 (zpt W f n j).2 ∧ 1 ≤ (zpt W f n j).1 ∧ (zpt W f n j).1 ≤ 16 ∧ 1 ≤ (zpt W f n j).2 ∧ (zpt W f n j).2 ≤ 16 ∧
      ∃ z0 z1 : Nat, me0 H (trE W H f).of (zpt W f n j).1 (zpt W f n j).2 = z0 ∧ me1 H (trE W H f).of (zpt W f n j).1 (zpt W f n j).2 = z1 ∧ me2 H (trE W H f).of (zpt W f n j).1 (zpt W f n j).2 = z1 ∧ me3 H (trE W H f).of (zpt W f n j).1 (zpt W f n j).2 = z0 ∧ z0 < cnN W H f ∧ z1 < cnN W H f by
    obtain ⟨k1, k2⟩ := zl_mem hj
    obtain ⟨p1, p2, p3, p4, p5⟩ := pt_in hW hH (k := (((zl f n).getD j 0 : Nat) : Int)) (by omega) (by omega)
    exact ⟨segs_in hv p1 p2 p3 p4 p5, p1, by show ptX W _ ≤ 16; omega, p3, by show ptY W _ ≤ 16; omega, pt_curves hv k1 k2⟩))
  have HCJ := Lib.hid (crJ_all W H f (trE W H f).of (i0 : Int) (j0 : Int) n)
  have hcE : (trs W H f (4 * W * H).toNat).cnt = cnN W H f := rfl
  have heE : trs W H f (4 * W * H).toNat = trE W H f := rfl
  obtain ⟨N, hN⟩ : ∃ N, cnN W H f = N := ⟨_, rfl⟩
  obtain ⟨M, hM⟩ : ∃ M, (4 * W * H).toNat = M := ⟨_, rfl⟩
  have hM1 : M ≤ 256 := by omega
  unfold TracedOut at HO
  rw [hcE, heE, hM] at HO
  rw [hN] at hcn hk hk2 HO HPT
  rw [hM] at HPT
  have HO := Lib.hid HO
  have HK2 := Lib.hid hk2
  have hzl := zl_len f n
  have hne : ((i0 : Int) == (j0 : Int)) = false := beq_eq_false_iff_ne.2 (by omega)
  have hi0 : i0 < N := by have := (in_yes hk).2; omega
  have hj0 : j0 < N := by have := (in_yes hk2).2; omega
  have hB : At (((w.alloc (.cells #[.int .i64 W, .int .i64 H, .slice A n c] 35)).alloc (.cells #[.int .i64 (i0 : Int)] 2)).alloc (.cells #[.int .i64 (j0 : Int)] 2)) (w.heap.size + 1 + 1) #[.int .i64 (j0 : Int)] 2 := At.newAt (by simp)
  have hA : At (((w.alloc (.cells #[.int .i64 W, .int .i64 H, .slice A n c] 35)).alloc (.cells #[.int .i64 (i0 : Int)] 2)).alloc (.cells #[.int .i64 (j0 : Int)] 2)) (w.heap.size + 1) #[.int .i64 (i0 : Int)] 2 := (show At ((w.alloc (.cells #[.int .i64 W, .int .i64 H, .slice A n c] 35)).alloc (.cells #[.int .i64 (i0 : Int)] 2)) (w.heap.size + 1) #[.int .i64 (i0 : Int)] 2 from At.newAt (by simp)).below ((Below.refl _ _).alloc (Nat.le_refl _) (.cells #[.int .i64 (j0 : Int)] 2)) (by simp)
  have hP : At (((w.alloc (.cells #[.int .i64 W, .int .i64 H, .slice A n c] 35)).alloc (.cells #[.int .i64 (i0 : Int)] 2)).alloc (.cells #[.int .i64 (j0 : Int)] 2)) w.heap.size #[.int .i64 W, .int .i64 H, .slice A n c] 35 := ((At.new w #[.int .i64 W, .int .i64 H, .slice A n c] 35).below ((Below.refl _ _).alloc (Nat.le_refl _) (.cells #[.int .i64 (i0 : Int)] 2)) (by simp)).below ((Below.refl _ _).alloc (Nat.le_refl _) (.cells #[.int .i64 (j0 : Int)] 2)) (by first | exact Nat.le_refl _ | (simp; done) | (simp; omega) | omega)
  have HA := Lib.hid hA
  have HBx := Lib.hid hB
  have HP := Lib.hid hP
  have HR := Lib.hid hr
  have HD := Lib.hid hD
  have HV := Lib.hid hv
  clear hr hT hD hv hk hk2 hcE heE hM hN hA hB hP hij
  refine (callsIn_wide (n := 6)).1 ?_
  refine callsIn_of_wp_marks Tryd.func38 rfl trivial ?_ rfl
  simp only [Tryd.ntmps38, List.size_toArray, List.length_cons, List.length_nil, Nat.reduceAdd, Nat.reduceSub, Array.replicate_succ, Array.replicate_zero, List.push_toArray, List.append_toArray, List.nil_append, List.cons_append]
  gi_wp2_with fail
  refine ⟨trivial, (callsIn_wide.2 HO.out).mono ?_⟩
  rintro e w1 ⟨Au, cu, cv, rfl, h1, h2, h3, c1⟩
  have HA1 := Lib.hid (HA.out.below c1 HA.out.lt)
  have HBx1 := Lib.hid (HBx.out.below c1 HBx.out.lt)
  have HP1 := Lib.hid (HP.out.below c1 HP.out.lt)
  have HL1 := Lib.hid (HL.out.trans (c1.mono (by first | exact Nat.le_refl _ | (simp; done) | (simp; omega) | omega)))
  have HC1 := Lib.hid h2
  have hcvw : w.heap.size + 1 + 1 < cv := by simp at h3; omega
  clear c1 h1 h2 h3 HO HA HBx HP HL
  have x0 : w1.cell? ⟨w.heap.size + 1, 0, none⟩ = some (.int .i64 (i0 : Int)) := HA1.out.cellv (i := 0) rfl
  have y0 : w1.cell? ⟨w.heap.size + 1 + 1, 0, none⟩ = some (.int .i64 (j0 : Int)) := HBx1.out.cellv (i := 0) rfl
  have la := HA1.out.lt
  have lb := HBx1.out.lt
  gi_wp2_with fail
  clear x0 y0
  have X2 := (Below.refl w1.heap.size w1).alloc (Nat.le_refl _) (.cells #[.int .i64 W, .int .i64 H, .slice A n c, .slice Au N cu, .slice (some ⟨cv, 0, none⟩) M M] 114)
  refine ⟨trivial, (callsIn_wide.2 (hasCurve_is (n1 := N) (by omega) HK2.out)).mono ?_⟩
  rintro e w2 ⟨rfl, c2⟩
  have X3 := X2.trans (c2.mono X2.size)
  have HT2 := Lib.hid ((At.new w1 #[.int .i64 W, .int .i64 H, .slice A n c, .slice Au N cu, .slice (some ⟨cv, 0, none⟩) M M] 114).below c2 (by simp))
  have HA2 := Lib.hid (HA1.out.below X3 la)
  have HBx2 := Lib.hid (HBx1.out.below X3 lb)
  have HP2 := Lib.hid (HP1.out.below X3 HP1.out.lt)
  have HC2 := Lib.hid (rowIs_below HC1.out X3 HC1.out.lt)
  have HL2 := Lib.hid (HL1.out.trans (X3.mono HL1.out.size))
  have hz2 := c2.size
  simp at hz2
  have hcvt := HC1.out.lt
  obtain ⟨pt, hpt⟩ : ∃ pt, w1.heap.size = pt := ⟨_, rfl⟩
  rw [hpt] at HT2 hz2 la lb hcvt ⊢
  clear X2 X3 c2 HA1 HBx1 HP1 HC1 HL1 hpt
  have x0 : w2.cell? ⟨w.heap.size + 1, 0, none⟩ = some (.int .i64 (i0 : Int)) := HA2.out.cellv (i := 0) rfl
  have y0 : w2.cell? ⟨w.heap.size + 1 + 1, 0, none⟩ = some (.int .i64 (j0 : Int)) := HBx2.out.cellv (i := 0) rfl
  have k0 : w2.cell? ⟨w.heap.size, 0, none⟩ = some (.int .i64 W) := HP2.out.cellv (i := 0) rfl
  have k1 : w2.cell? ⟨w.heap.size, 1, none⟩ = some (.int .i64 H) := HP2.out.cellv (i := 1) rfl
  have k2 : w2.cell? ⟨w.heap.size, 2, none⟩ = some (.slice A n c) := HP2.out.cellv (i := 2) rfl
  have la2 := HA2.out.lt
  have lb2 := HBx2.out.lt
  have l02 := HP2.out.lt
  gi_wp2_with fail
  clear x0 y0 k0 k1 k2
  have X4 := (Below.refl w2.heap.size w2).alloc (Nat.le_refl _) (.cells #[.int .i64 0] 2)
  have HN4 := Lib.hid (At.new w2 #[.int .i64 0] 2)
  have HT4 := Lib.hid (HT2.out.below X4 HT2.out.lt)
  have HA4 := Lib.hid (HA2.out.below X4 la2)
  have HBx4 := Lib.hid (HBx2.out.below X4 lb2)
  have HP4 := Lib.hid (HP2.out.below X4 l02)
  have HC4 := Lib.hid (rowIs_below HC2.out X4 HC2.out.lt)
  have HL4 := Lib.hid (HL2.out.trans (X4.mono HL2.out.size))
  have hz4 : (w2.alloc (.cells #[.int .i64 0] 2)).heap.size = w2.heap.size + 1 := by simp
  obtain ⟨pn, hpn⟩ : ∃ pn, w2.heap.size = pn := ⟨_, rfl⟩
  rw [hpn] at HN4 hz4 hz2 la2 lb2 l02 ⊢
  clear X4 hpn HT2 HA2 HBx2 HP2 HC2 HL2
  generalize w2.alloc (.cells #[.int .i64 0] 2) = w4 at HN4 HT4 HA4 HBx4 HP4 HC4 HL4 hz4 ⊢
  refine ⟨trivial, (callsIn_wide.2 (impl_crossings w4 W H A n c)).mono ?_⟩
  rintro e w5 ⟨rfl, hP5, c5, z5⟩
  have HQ5 := Lib.hid hP5
  have HN5 := Lib.hid (HN4.out.below c5 HN4.out.lt)
  have HT5 := Lib.hid (HT4.out.below c5 HT4.out.lt)
  have HA5 := Lib.hid (HA4.out.below c5 HA4.out.lt)
  have HBx5 := Lib.hid (HBx4.out.below c5 HBx4.out.lt)
  have HC5 := Lib.hid (rowIs_below HC4.out c5 HC4.out.lt)
  have HL5 := Lib.hid (HL4.out.trans (c5.mono HL4.out.size))
  rw [hz4] at HQ5 z5 ⊢
  have hcv5 := HC4.out.lt
  rw [hz4] at hcv5
  have hle : w.heap.size ≤ w5.heap.size := HL5.out.size
  have hcvn : cv < pn + 1 := hcv5
  clear c5 hP5 HN4 HT4 HA4 HBx4 HP4 HC4 HL4
  gi_wp2
  have hit : IterY Fence.wide 5 Tryd.prog 137 #[.pointer (some ⟨pn + 1, 0, none⟩)] (fun j => #[paggP (zpt W f n j)]) (zl f n).length w.heap.size [pn + 1] w5 :=
    cross_iter 5 (by omega) w w5 W H A n c f _ HR.out HV.out HL5.out HQ5.out
  refine wpIn_rangeY rfl (by omega) (gf := 137) (lb := #[.pointer (some ⟨pn + 1, 0, none⟩)]) rfl trivial (enters_of Tryd.func137 (by kernel_rfl) rfl) hit hle (by simp; omega) (Below.refl _ _) (fun _ => rfl)
    (fun X j A => X = [pn] ∧ TI w5 pn (crJ W H f (trE W H f).of (i0 : Int) (j0 : Int) (zl f n)) w j A) (fun _ _ _ => False) (holds_ti (by omega) hle) (fun _ => holds_no _) [pn] (by simp; omega)
    ⟨rfl, Nat.le_refl _, fun _ _ _ => rfl, HN5.out, HL5.out⟩
    (fun j a' X => ∃ p11, a' = { tmps := #[.agg #[.int .i64 W, .int .i64 H, .slice A n c], .int .i64 i0, .int .i64 j0, .pointer (some ⟨w.heap.size, 0, none⟩), .pointer (some ⟨w.heap.size + 1, 0, none⟩), .pointer (some ⟨w.heap.size + 1 + 1, 0, none⟩), .int .i64 0, .int .i64 0, .pointer (some ⟨pt, 0, none⟩), .int .i64 0, .pointer (some ⟨pn, 0, none⟩), .pointer (some ⟨p11, 0, none⟩), undef,
        .tuple #[.agg #[.int .i64 W, .int .i64 H, .slice A n c, .slice Au N cu, .slice (some ⟨cv, 0, none⟩) M M], .int .i64 0], .agg #[.int .i64 W, .int .i64 H, .slice A n c], .int .i64 i0, .tuple #[.agg #[.int .i64 W, .int .i64 H, .slice A n c, .slice Au N cu, .slice (some ⟨cv, 0, none⟩) M M], .int .i64 0], .agg #[.int .i64 W, .int .i64 H, .slice A n c, .slice Au N cu, .slice (some ⟨cv, 0, none⟩) M M], .int .i64 0, .int .i64 0, .bool false, undef, .agg #[.int .i64 W, .int .i64 H, .slice A n c, .slice Au N cu, .slice (some ⟨cv, 0, none⟩) M M], .int .i64 j0, .bool true, .bool false, .int .i64 i0, .int .i64 j0, .bool false,
        .agg #[.int .i64 W, .int .i64 H, .slice A n c], .func (.func 137) #[] #[.pointer (some ⟨pn + 1, 0, none⟩)], paggP (zpt W f n j), undef, undef, undef, undef, undef, undef, undef, undef, undef, undef, undef, undef, undef, undef], defers := [] } ∧ At X p11 #[.int .i64 (zpt W f n j).1, .int .i64 (zpt W f n j).2] 30)
    (fun k a' X l o' h ho => by obtain ⟨p11, e, ha⟩ := h; exact ⟨p11, e, at_put ha ho⟩) ?assign ?body ?done ?stop
  case assign =>
    intro l j X Aw J hj hX hi hJ
    clear hit
    dsimp only [paggP]
    obtain ⟨v, hv⟩ : ∃ v, v = zpt W f n j := ⟨_, rfl⟩
    rw [← hv] at hJ ⊢
    have HVv := Lib.hid hv
    clear hv
    gi_wp2
    exact hJ _ _ ((Below.refl _ _).alloc (Nat.le_refl _) _) ⟨_, rfl, At.new _ _ _⟩
  case body =>
    rintro l j X a' Aw hj hX hXb ⟨rfl, hI⟩ ⟨p11, rfl, h11⟩
    clear hit
    have HI := Lib.hid hI
    have H11 := Lib.hid h11
    obtain ⟨hsi, x1, x2, y1, y2, z0, z1, g0, g1, g2, g3, hz0, hz1⟩ := HPT.out j hj
    have HTS := Lib.hid (crJ_step (a := (i0 : Int)) (b := (j0 : Int)) hj g0 g1)
    have hlej := crJ_le W H f (trE W H f).of (i0 : Int) (j0 : Int) (zl f n) j
    obtain ⟨v, hv⟩ : ∃ v, v = zpt W f n j := ⟨_, rfl⟩
    rw [← hv] at H11 hsi x1 x2 y1 y2 g0 g1 g2 g3 ⊢
    have hcnt := hI.cnt
    obtain ⟨T, hT⟩ : ∃ T, crJ W H f (trE W H f).of (i0 : Int) (j0 : Int) (zl f n) j = T := ⟨_, rfl⟩
    rw [hT] at HTS hlej hcnt
    have HCN := Lib.hid hcnt
    have HSI := Lib.hid hsi
    have HG0 := Lib.hid g0
    have HG1 := Lib.hid g1
    have HG2 := Lib.hid g2
    have HG3 := Lib.hid g3
    clear hv hI h11 hT hcnt hsi g0 g1 g2 g3
    have hsz := HI.out.sz
    have HTa := Lib.hid (HT5.out.of_block (HI.out.old pt HT5.out.lt (by omega)))
    have HCa := Lib.hid (HC5.out.of_block (HI.out.old cv HC5.out.lt (by omega)))
    have HDa := Lib.hid (HD.out.below HI.out.bel HD.out.1)
    have HXa := Lib.hid (HA5.out.of_block (HI.out.old (w.heap.size + 1) HA5.out.lt (by omega)))
    have HYa := Lib.hid (HBx5.out.of_block (HI.out.old (w.heap.size + 1 + 1) HBx5.out.lt (by omega)))
    have q0 : Aw.cell? ⟨p11, 0, none⟩ = some (.int .i64 v.1) := H11.out.cellv (i := 0) rfl
    have q1 : Aw.cell? ⟨p11, 1, none⟩ = some (.int .i64 v.2) := H11.out.cellv (i := 1) rfl
    have lq := H11.out.lt
    have t0 : Aw.cell? ⟨pt, 0, none⟩ = some (.int .i64 W) := HTa.out.cellv (i := 0) rfl
    have t1 : Aw.cell? ⟨pt, 1, none⟩ = some (.int .i64 H) := HTa.out.cellv (i := 1) rfl
    have t2 : Aw.cell? ⟨pt, 2, none⟩ = some (.slice A n c) := HTa.out.cellv (i := 2) rfl
    have t3 : Aw.cell? ⟨pt, 3, none⟩ = some (.slice Au N cu) := HTa.out.cellv (i := 3) rfl
    have t4 : Aw.cell? ⟨pt, 4, none⟩ = some (.slice (some ⟨cv, 0, none⟩) M M) := HTa.out.cellv (i := 4) rfl
    have lt := HTa.out.lt
    gi_wp2_with fail
    refine ⟨trivial, (CallsIn.inRound l (callsIn_wide.2 (impl_through Aw W H v.1 v.2 A Au n c N cu cv M z0 z1 z1 z0 (trE W H f).of HDa.out HCa.out hH x1 x2 y1 y2 HSI.out hM1 HG0.out HG1.out HG2.out HG3.out (by omega) (by omega) (by omega) (by omega)))).mono ?_⟩
    rintro e A1 ⟨mb, rfl, hmb, hS, c1⟩
    have HI1 := Lib.hid (HI.out.b c1)
    have HE1 := Lib.hid (Ext.of_below (X := [pn]) c1)
    have HS1 := Lib.hid hS
    have HN1 := Lib.hid (HCN.out.below c1 HCN.out.lt)
    have HX1 := Lib.hid (HXa.out.below c1 HXa.out.lt)
    have HY1 := Lib.hid (HYa.out.below c1 HYa.out.lt)
    clear c1 hS HI HTa HCa HDa HXa HYa H11 q0 q1 lq t0 t1 t2 t3 t4 lt HCN
    have x0 : A1.cell? ⟨w.heap.size + 1, 0, none⟩ = some (.int .i64 (i0 : Int)) := HX1.out.cellv (i := 0) rfl
    have y0 : A1.cell? ⟨w.heap.size + 1 + 1, 0, none⟩ = some (.int .i64 (j0 : Int)) := HY1.out.cellv (i := 0) rfl
    have lx := HX1.out.lt
    have ly := HY1.out.lt
    have n0 : A1.cell? ⟨pn, 0, none⟩ = some (.int .i64 (T : Int)) := HN1.out.cellv (i := 0) rfl
    have fn0 := HN1.out.frozen 0
    have ln := HN1.out.lt
    have hs1 := set_has A1 mb 4 _ HS1.out i0 (WalkArith.wf_i64 (by omega))
    have hs2 := set_has A1 mb 4 _ HS1.out j0 (WalkArith.wf_i64 (by omega))
    have hsz1 := HI1.out.sz
    have hez1 := HE1.out.size
    have hbm : ∀ b' ∈ [pn], (b' ∈ [pn] ∨ Aw.heap.size ≤ b') ∧ b' < A1.heap.size := fun b' hb' => ⟨.inl hb', by simp at hb'; omega⟩
    have hij : (i0 : Int) ≠ (j0 : Int) := fun h => by rw [beq_eq_false_iff_ne] at hne; exact hne h
    have hcr : crB z0 z1 i0 j0 = (setK z0 z1 z1 z0 4 i0 && setK z0 z1 z1 z0 4 j0) := crB_set hij
    rw [hcr] at HTS
    cases hb1 : setK z0 z1 z1 z0 4 i0
    · rw [hb1] at hs1 HTS
      gi_wp2_with fail
      refine ⟨trivial, (CallsIn.inRound l (callsIn_wide.2 hs1)).mono ?_⟩
      rintro e A2 ⟨rfl, rfl⟩
      gi_wp2_with fail
      refine ⟨trivial, ?_⟩
      gi_wp2
      refine ⟨[pn], ⟨rfl, HI1.out.sz, HI1.out.old, ?_, HI1.out.bel⟩, HE1.out, hbm⟩
      rw [HTS.out]
      exact HN1.out
    · rw [hb1] at hs1 HTS
      cases hb2 : setK z0 z1 z1 z0 4 j0
      · rw [hb2] at hs2 HTS
        gi_wp2_with fail
        refine ⟨trivial, (CallsIn.inRound l (callsIn_wide.2 hs1)).mono ?_⟩
        rintro e A2 ⟨rfl, rfl⟩
        gi_wp2_with fail
        refine ⟨trivial, (CallsIn.inRound l (callsIn_wide.2 hs2)).mono ?_⟩
        rintro e A2 ⟨rfl, rfl⟩
        gi_wp2
        refine ⟨[pn], ⟨rfl, HI1.out.sz, HI1.out.old, ?_, HI1.out.bel⟩, HE1.out, hbm⟩
        rw [HTS.out]
        exact HN1.out
      · rw [hb2] at hs2 HTS
        gi_wp2_with fail
        refine ⟨trivial, (CallsIn.inRound l (callsIn_wide.2 hs1)).mono ?_⟩
        rintro e A2 ⟨rfl, rfl⟩
        gi_wp2_with fail
        refine ⟨trivial, (CallsIn.inRound l (callsIn_wide.2 hs2)).mono ?_⟩
        rintro e A2 ⟨rfl, rfl⟩
        gi_wp2
        refine ⟨[pn], ⟨rfl, by simpa [World.setCell] using HI1.out.sz, fun b' h1 h2 => (Below.heap_setCell _ _ _ _ (by simpa using h2)).trans (HI1.out.old b' h1 h2), ?_, HI1.out.bel.setCell (p := ⟨pn, 0, none⟩) (by simp; omega) _⟩, HE1.out.trans (Ext.set _ _ _ (by simp)), fun b' hb' => by have := hbm b' hb'; simpa [World.setCell] using this⟩
        have h := HN1.out.set 0 (.int .i64 ((T : Int) + 1))
        rw [HTS.out]
        simpa using h
  case done =>
    rintro D X WN hD hX ⟨rfl, hI⟩ hKD
    clear hit
    have HI := Lib.hid hI
    have HKD := Lib.hid hKD
    have hcnt := hI.cnt
    rw [HCJ.out] at hcnt
    have HCN := Lib.hid hcnt
    clear hI hKD hX hcnt
    have q0 : WN.cell? ⟨pn, 0, none⟩ = some (.int .i64 (crF W H f (trE W H f).of (i0 : Int) (j0 : Int) n : Int)) := HCN.out.cellv (i := 0) rfl
    have ln := HCN.out.lt
    gi_wp2
    refine ⟨by simp, .inl ⟨_, _, rfl, run_takeDeferred HKD.out, ?_⟩⟩
    refine ⟨_, ?_, rfl, HI.out.bel.grown (grownBy_putObj' WN D (.deferred none)) HI.out.bel.size (fun j e => by cases e; omega)⟩
    simp [results, Tryd.results38, go_sem]
  case stop =>
    rintro D t k X hD hk h _
    exact h.elim
theorem impl_commonCrossings (w : World) (W H : Int) (A : Option Addr) (n c : Nat) (f : Nat → Int) (s t : Int) (hr : Row .i64 w A n c f) (hT : Cel w 0 [.int .i64 1, .int .i64 1, .int .i64 (-1), .int .i64 1, .int .i64 1, .int .i64 (-1)]) (hD : Cel w 2 [.int .i64 (-1), .int .i64 (-1), .int .i64 1, .int .i64 (-1), .int .i64 (-1), .int .i64 1, .int .i64 1, .int .i64 1]) :
    Calls Tryd.prog 38 #[.agg #[.int .i64 W, .int .i64 H, .slice A n c], .int .i64 s, .int .i64 t] w (Gives (.tuple #[.int .i64 (ccV W H n f s t), .int .i64 (ccC W H n f s t)]) w) := by
  unfold ccV ccC
  rcases cu_cases W H n f s with ⟨hv, e⟩ | ⟨hv, hk, e⟩ | ⟨hv, hk, e⟩
  · rw [e]
    exact impl_commonBad w W H A n c f s t hr hv
  · rw [e]
    exact impl_commonOut w W H A n c f s t hr hT hv hk
  · rw [e]
    rcases cu_cases W H n f t with ⟨hv2, e2⟩ | ⟨-, hk2, e2⟩ | ⟨-, hk2, e2⟩
    · rw [hv] at hv2; cases hv2
    · rw [e2]
      exact impl_commonOut2 w W H A n c f s t hr hT hv hk hk2
    · rw [e2]
      by_cases hst : s = t
      · subst hst
        simp only [if_true]
        exact impl_commonSame w W H A n c f s hr hT hv hk
      · simp only [if_neg hst, if_true]
        obtain ⟨u0, u1⟩ := in_yes hk
        obtain ⟨v0, v1⟩ := in_yes hk2
        obtain ⟨i0, rfl⟩ : ∃ i0 : Nat, s = i0 := ⟨s.toNat, by omega⟩
        obtain ⟨j0, rfl⟩ : ∃ j0 : Nat, t = j0 := ⟨t.toNat, by omega⟩
        exact impl_commonIn w W H A n c f i0 j0 hr hT hD hv hk hk2 (fun h => hst (by rw [h]))
end Go.Proofs.YtajikegfladelaaDoor.Base

namespace Go.Proofs.YtajikegfladelaaDoor.Base
open Go Go.RowKit
set_option linter.unusedVariables false
set_option linter.unusedSimpArgs false
attribute [local go_sem] Oper.semAt_some
section
variable (w : World) (W H : Int) (A : Option Addr) (n c : Nat) (f : Nat → Int) (s : Int)
theorem impl_selfBad (hr : Row .i64 w A n c f) (hv : validB W H n f = false) :
    Calls Tryd.prog 36 #[.agg #[.int .i64 W, .int .i64 H, .slice A n c], .int .i64 s] w (Gives (.tuple #[.int .i64 0, .int .i64 1]) w) := by
  have HL := Lib.hid (show Below w.heap.size w ((w.alloc (.cells #[.int .i64 W, .int .i64 H, .slice A n c] 35)).alloc (.cells #[.int .i64 s] 2)) from ((Below.refl _ _).alloc (Nat.le_refl _) _).alloc (by simp) _)
  have HR := Lib.hid hr
  have HV := Lib.hid hv
  clear hr hv
  go_enter Tryd.func36, Tryd.ntmps36
  go_wp2
  go_step3
  go_wp2_with fail
  refine (impl_tcBad _ W H A n c f s (HR.out.below HL.out (Nat.le_refl _)) HV.out).mono ?_
  rintro e w1 ⟨rfl, b1⟩
  go_wp2
  go_ret2
  exact ⟨rfl, (HL.out.trans (b1.mono (by first | exact Nat.le_refl _ | (simp; done) | (simp; omega) | omega))).alloc (Nat.le_trans HL.out.size b1.size) _⟩
theorem impl_selfOut (hr : Row .i64 w A n c f) (hT : Cel w 0 [.int .i64 1, .int .i64 1, .int .i64 (-1), .int .i64 1, .int .i64 1, .int .i64 (-1)]) (hv : validB W H n f = true) (hk : inB s 0 ((cnN W H f : Int) - 1) = false) :
    Calls Tryd.prog 36 #[.agg #[.int .i64 W, .int .i64 H, .slice A n c], .int .i64 s] w (Gives (.tuple #[.int .i64 0, .int .i64 2]) w) := by
  have HL := Lib.hid (show Below w.heap.size w ((w.alloc (.cells #[.int .i64 W, .int .i64 H, .slice A n c] 35)).alloc (.cells #[.int .i64 s] 2)) from ((Below.refl _ _).alloc (Nat.le_refl _) _).alloc (by simp) _)
  have HR := Lib.hid hr
  have HV := Lib.hid hv
  have HT := Lib.hid hT
  have HK := Lib.hid hk
  clear hr hv hT hk
  go_enter Tryd.func36, Tryd.ntmps36
  go_wp2
  go_step3
  go_wp2_with fail
  refine (impl_tcOut _ W H A n c f s (HR.out.below HL.out (Nat.le_refl _)) (HT.out.below HL.out HT.out.1) HV.out HK.out).mono ?_
  rintro e w1 ⟨rfl, b1⟩
  go_wp2
  go_ret2
  exact ⟨rfl, (HL.out.trans (b1.mono (by first | exact Nat.le_refl _ | (simp; done) | (simp; omega) | omega))).alloc (Nat.le_trans HL.out.size b1.size) _⟩
end
set_option maxHeartbeats 4000000 in
theorem impl_selfIn (w : World) (W H : Int) (A : Option Addr) (n c : Nat) (f : Nat → Int) (i0 : Nat) (hr : Row .i64 w A n c f) (hT : Cel w 0 [.int .i64 1, .int .i64 1, .int .i64 (-1), .int .i64 1, .int .i64 1, .int .i64 (-1)]) (hD : Cel w 2 [.int .i64 (-1), .int .i64 (-1), .int .i64 1, .int .i64 (-1), .int .i64 (-1), .int .i64 1, .int .i64 1, .int .i64 1]) (hv : validB W H n f = true) (hk : inB (i0 : Int) 0 ((cnN W H f : Int) - 1) = true) :
    Calls Tryd.prog 36 #[.agg #[.int .i64 W, .int .i64 H, .slice A n c], .int .i64 (i0 : Int)] w (Gives (.tuple #[.int .i64 (crF W H f (trE W H f).of i0 i0 n : Int), .int .i64 0]) w) := by
  have HL := Lib.hid (show Below w.heap.size w ((w.alloc (.cells #[.int .i64 W, .int .i64 H, .slice A n c] 35)).alloc (.cells #[.int .i64 (i0 : Int)] 2)) from ((Below.refl _ _).alloc (Nat.le_refl _) _).alloc (by simp) _)
  obtain ⟨hW, hH, hn, -⟩ := validB_yes hv
  obtain ⟨q0, q1⟩ := inner_bd hW hH
  obtain ⟨m0, m1⟩ := segs_bd hW hH
  obtain ⟨a1, a2⟩ := side_mk hW
  obtain ⟨b1, b2⟩ := side_mk hH
  have hn1 : n ≤ 112 := by omega
  have hcn := cnN_le hv
  have HO := impl_tcIn ((w.alloc (.cells #[.int .i64 W, .int .i64 H, .slice A n c] 35)).alloc (.cells #[.int .i64 (i0 : Int)] 2)) W H A n c f i0 (hr.below HL.out (Nat.le_refl _)) (hT.below HL.out hT.1) hv hk
  have HPT := Lib.hid (fun (j : Nat) (hj : j < (zl f n).length) => (show SegsIn H (4 * W * H).toNat (zpt W f n j).1 (zpt W f n j).2 ∧ 1 ≤ (zpt W f n j).1 ∧ (zpt W f n j).1 ≤ 16 ∧ 1 ≤ (zpt W f n j).2 ∧ (zpt W f n j).2 ≤ 16 ∧
      ∃ z0 z1 : Nat, me0 H (trE W H f).of (zpt W f n j).1 (zpt W f n j).2 = z0 ∧ me1 H (trE W H f).of (zpt W f n j).1 (zpt W f n j).2 = z1 ∧ me2 H (trE W H f).of (zpt W f n j).1 (zpt W f n j).2 = z1 ∧ me3 H (trE W H f).of (zpt W f n j).1 (zpt W f n j).2 = z0 ∧ z0 < cnN W H f ∧ z1 < cnN W H f by
    obtain ⟨k1, k2⟩ := zl_mem hj
    obtain ⟨p1, p2, p3, p4, p5⟩ := pt_in hW hH (k := (((zl f n).getD j 0 : Nat) : Int)) (by omega) (by omega)
    exact ⟨segs_in hv p1 p2 p3 p4 p5, p1, by show ptX W _ ≤ 16; omega, p3, by show ptY W _ ≤ 16; omega, pt_curves hv k1 k2⟩))
  have HCJ := Lib.hid (crJ_all W H f (trE W H f).of (i0 : Int) (i0 : Int) n)
  have hcE : (trs W H f (4 * W * H).toNat).cnt = cnN W H f := rfl
  have heE : trs W H f (4 * W * H).toNat = trE W H f := rfl
  obtain ⟨N, hN⟩ : ∃ N, cnN W H f = N := ⟨_, rfl⟩
  obtain ⟨M, hM⟩ : ∃ M, (4 * W * H).toNat = M := ⟨_, rfl⟩
  have hM1 : M ≤ 256 := by omega
  unfold TracedOut at HO
  rw [hcE, heE, hM] at HO
  rw [hN] at hcn hk HO HPT
  rw [hM] at HPT
  have HO := Lib.hid HO
  have hzl := zl_len f n
  have hi0 : i0 < N := by have := (in_yes hk).2; omega
  have hA : At ((w.alloc (.cells #[.int .i64 W, .int .i64 H, .slice A n c] 35)).alloc (.cells #[.int .i64 (i0 : Int)] 2)) (w.heap.size + 1) #[.int .i64 (i0 : Int)] 2 := At.newAt (by simp)
  have hP : At ((w.alloc (.cells #[.int .i64 W, .int .i64 H, .slice A n c] 35)).alloc (.cells #[.int .i64 (i0 : Int)] 2)) w.heap.size #[.int .i64 W, .int .i64 H, .slice A n c] 35 := (At.new w #[.int .i64 W, .int .i64 H, .slice A n c] 35).below ((Below.refl _ _).alloc (Nat.le_refl _) (.cells #[.int .i64 (i0 : Int)] 2)) (by simp)
  have HA := Lib.hid hA
  have HP := Lib.hid hP
  have HR := Lib.hid hr
  have HD := Lib.hid hD
  have HV := Lib.hid hv
  clear hr hT hD hv hk hcE heE hM hN hA hP
  refine (callsIn_wide (n := 6)).1 ?_
  refine callsIn_of_wp_marks Tryd.func36 rfl trivial ?_ rfl
  simp only [Tryd.ntmps36, List.size_toArray, List.length_cons, List.length_nil, Nat.reduceAdd, Nat.reduceSub, Array.replicate_succ, Array.replicate_zero, List.push_toArray, List.append_toArray, List.nil_append, List.cons_append]
  gi_wp2
  refine wpIn_wide.2 (wp_scope_straight ((wpIn_wide (n := 6)).1 ?_))
  gi_wp2_with fail
  refine ⟨trivial, (callsIn_wide.2 HO.out).mono ?_⟩
  rintro e w1 ⟨Au, cu, cv, rfl, h1, h2, h3, c1⟩
  have HA1 := Lib.hid (HA.out.below c1 HA.out.lt)
  have HP1 := Lib.hid (HP.out.below c1 HP.out.lt)
  have HL1 := Lib.hid (HL.out.trans (c1.mono (by first | exact Nat.le_refl _ | (simp; done) | (simp; omega) | omega)))
  have HC1 := Lib.hid h2
  have hcvw : w.heap.size + 1 < cv := by simp at h3; omega
  have hcvt := h2.lt
  clear c1 h1 h2 h3 HO HA HP HL
  have k0 : w1.cell? ⟨w.heap.size, 0, none⟩ = some (.int .i64 W) := HP1.out.cellv (i := 0) rfl
  have k1 : w1.cell? ⟨w.heap.size, 1, none⟩ = some (.int .i64 H) := HP1.out.cellv (i := 1) rfl
  have k2 : w1.cell? ⟨w.heap.size, 2, none⟩ = some (.slice A n c) := HP1.out.cellv (i := 2) rfl
  have l0 := HP1.out.lt
  have la := HA1.out.lt
  gi_wp2_with fail
  clear k0 k1 k2
  have X2 := (Below.refl w1.heap.size w1).alloc (Nat.le_refl _) (.cells #[.int .i64 W, .int .i64 H, .slice A n c, .slice Au N cu, .slice (some ⟨cv, 0, none⟩) M M] 114)
  have X3 := (Below.refl (w1.alloc (.cells #[.int .i64 W, .int .i64 H, .slice A n c, .slice Au N cu, .slice (some ⟨cv, 0, none⟩) M M] 114)).heap.size (w1.alloc (.cells #[.int .i64 W, .int .i64 H, .slice A n c, .slice Au N cu, .slice (some ⟨cv, 0, none⟩) M M] 114))).alloc (Nat.le_refl _) (.cells #[.int .i64 0] 2)
  have X23 := X2.trans (X3.mono (by simp))
  have HN4 := Lib.hid (show At ((w1.alloc (.cells #[.int .i64 W, .int .i64 H, .slice A n c, .slice Au N cu, .slice (some ⟨cv, 0, none⟩) M M] 114)).alloc (.cells #[.int .i64 0] 2)) (w1.heap.size + 1) #[.int .i64 0] 2 from At.newAt (by simp))
  have HT4 := Lib.hid ((At.new w1 #[.int .i64 W, .int .i64 H, .slice A n c, .slice Au N cu, .slice (some ⟨cv, 0, none⟩) M M] 114).below X3 (by simp))
  have HA4 := Lib.hid (HA1.out.below X23 la)
  have HP4 := Lib.hid (HP1.out.below X23 l0)
  have HC4 := Lib.hid (rowIs_below HC1.out X23 HC1.out.lt)
  have HL4 := Lib.hid (HL1.out.trans (X23.mono HL1.out.size))
  have hz4 : ((w1.alloc (.cells #[.int .i64 W, .int .i64 H, .slice A n c, .slice Au N cu, .slice (some ⟨cv, 0, none⟩) M M] 114)).alloc (.cells #[.int .i64 0] 2)).heap.size = w1.heap.size + 1 + 1 := by simp
  clear X2 X3 X23 HA1 HP1 HC1 HL1
  generalize (w1.alloc (.cells #[.int .i64 W, .int .i64 H, .slice A n c, .slice Au N cu, .slice (some ⟨cv, 0, none⟩) M M] 114)).alloc (.cells #[.int .i64 0] 2) = w4 at HN4 HT4 HA4 HP4 HC4 HL4 hz4 ⊢
  obtain ⟨pt, hpt⟩ : ∃ pt, w1.heap.size = pt := ⟨_, rfl⟩
  rw [hpt] at HN4 HT4 hz4 la l0 hcvt ⊢
  clear hpt
  refine wpIn_label ?_
  have k0 : w4.cell? ⟨w.heap.size, 0, none⟩ = some (.int .i64 W) := HP4.out.cellv (i := 0) rfl
  have k1 : w4.cell? ⟨w.heap.size, 1, none⟩ = some (.int .i64 H) := HP4.out.cellv (i := 1) rfl
  have k2 : w4.cell? ⟨w.heap.size, 2, none⟩ = some (.slice A n c) := HP4.out.cellv (i := 2) rfl
  have l04 := HP4.out.lt
  gi_wp2_with fail
  clear k0 k1 k2
  refine ⟨trivial, (callsIn_wide.2 (impl_crossings w4 W H A n c)).mono ?_⟩
  rintro e w5 ⟨rfl, hP5, c5, z5⟩
  have HQ5 := Lib.hid hP5
  have HN5 := Lib.hid (HN4.out.below c5 HN4.out.lt)
  have HT5 := Lib.hid (HT4.out.below c5 HT4.out.lt)
  have HA5 := Lib.hid (HA4.out.below c5 HA4.out.lt)
  have HP5 := Lib.hid (HP4.out.below c5 HP4.out.lt)
  have HC5 := Lib.hid (rowIs_below HC4.out c5 HC4.out.lt)
  have HL5 := Lib.hid (HL4.out.trans (c5.mono HL4.out.size))
  rw [hz4] at HQ5 z5 ⊢
  have hle : w.heap.size ≤ w5.heap.size := HL5.out.size
  clear c5 hP5 HN4 HT4 HA4 HP4 HC4 HL4
  gi_wp2
  have hit : IterY Fence.wide 5 Tryd.prog 137 #[.pointer (some ⟨pt + 1 + 1, 0, none⟩)] (fun j => #[paggP (zpt W f n j)]) (zl f n).length w.heap.size [pt + 1 + 1] w5 :=
    cross_iter 5 (by omega) w w5 W H A n c f _ HR.out HV.out HL5.out HQ5.out
  refine wpIn_rangeY rfl (by omega) (gf := 137) (lb := #[.pointer (some ⟨pt + 1 + 1, 0, none⟩)]) rfl trivial (enters_of Tryd.func137 (by kernel_rfl) rfl) hit hle (by simp; omega) (Below.refl _ _) (fun _ => rfl)
    (fun X j A => X = [pt + 1] ∧ TI w5 (pt + 1) (crJ W H f (trE W H f).of (i0 : Int) (i0 : Int) (zl f n)) w j A) (fun _ _ _ => False) (holds_ti (by omega) hle) (fun _ => holds_no _) [pt + 1] (by simp; omega)
    ⟨rfl, Nat.le_refl _, fun _ _ _ => rfl, HN5.out, HL5.out⟩
    (fun j a' X => ∃ p9, a' = { tmps := #[.agg #[.int .i64 W, .int .i64 H, .slice A n c], .int .i64 i0, .pointer (some ⟨w.heap.size, 0, none⟩), .pointer (some ⟨w.heap.size + 1, 0, none⟩), .int .i64 0, .int .i64 0, .pointer (some ⟨pt, 0, none⟩), .int .i64 0, .pointer (some ⟨pt + 1, 0, none⟩), .pointer (some ⟨p9, 0, none⟩), undef, undef,
        .tuple #[.agg #[.int .i64 W, .int .i64 H, .slice A n c, .slice Au N cu, .slice (some ⟨cv, 0, none⟩) M M], .int .i64 0], .agg #[.int .i64 W, .int .i64 H, .slice A n c], .int .i64 i0, .tuple #[.agg #[.int .i64 W, .int .i64 H, .slice A n c, .slice Au N cu, .slice (some ⟨cv, 0, none⟩) M M], .int .i64 0], .agg #[.int .i64 W, .int .i64 H, .slice A n c, .slice Au N cu, .slice (some ⟨cv, 0, none⟩) M M], .int .i64 0, .int .i64 0, .bool false, undef,
        .agg #[.int .i64 W, .int .i64 H, .slice A n c], .func (.func 137) #[] #[.pointer (some ⟨pt + 1 + 1, 0, none⟩)], paggP (zpt W f n j), undef, undef, undef, undef, undef, undef, undef, undef, undef, undef, undef, undef, undef, undef, undef, undef, undef, undef], defers := [] } ∧ At X p9 #[.int .i64 (zpt W f n j).1, .int .i64 (zpt W f n j).2] 30)
    (fun k a' X l o' h ho => by obtain ⟨p9, e, ha⟩ := h; exact ⟨p9, e, at_put ha ho⟩) ?assign ?body ?done ?stop
  case assign =>
    intro l j X Aw J hj hX hi hJ
    clear hit
    dsimp only [paggP]
    obtain ⟨v, hv⟩ : ∃ v, v = zpt W f n j := ⟨_, rfl⟩
    rw [← hv] at hJ ⊢
    have HVv := Lib.hid hv
    clear hv
    gi_wp2
    exact hJ _ _ ((Below.refl _ _).alloc (Nat.le_refl _) _) ⟨_, rfl, At.new _ _ _⟩
  case body =>
    rintro l j X a' Aw hj hX hXb ⟨rfl, hI⟩ ⟨p9, rfl, h9⟩
    clear hit
    have HI := Lib.hid hI
    have H9 := Lib.hid h9
    obtain ⟨hsi, x1, x2, y1, y2, z0, z1, g0, g1, g2, g3, hz0, hz1⟩ := HPT.out j hj
    have HTS := Lib.hid (crJ_step (a := (i0 : Int)) (b := (i0 : Int)) hj g0 g1)
    have hlej := crJ_le W H f (trE W H f).of (i0 : Int) (i0 : Int) (zl f n) j
    obtain ⟨v, hv⟩ : ∃ v, v = zpt W f n j := ⟨_, rfl⟩
    rw [← hv] at H9 hsi x1 x2 y1 y2 g0 g1 g2 g3 ⊢
    have hcnt := hI.cnt
    obtain ⟨T, hT⟩ : ∃ T, crJ W H f (trE W H f).of (i0 : Int) (i0 : Int) (zl f n) j = T := ⟨_, rfl⟩
    rw [hT] at HTS hlej hcnt
    have HCN := Lib.hid hcnt
    have HSI := Lib.hid hsi
    obtain ⟨⟨r0, r0'⟩, ⟨r1, r1'⟩, ⟨r2, r2'⟩, ⟨r3, r3'⟩⟩ := hsi
    obtain ⟨s0, e0⟩ : ∃ s0 : Nat, segOf H v.1 v.2 (-1) (-1) = s0 := ⟨(segOf H v.1 v.2 (-1) (-1)).toNat, by omega⟩
    obtain ⟨s1, e1⟩ : ∃ s1 : Nat, segOf H v.1 v.2 1 (-1) = s1 := ⟨(segOf H v.1 v.2 1 (-1)).toNat, by omega⟩
    obtain ⟨s2, e2⟩ : ∃ s2 : Nat, segOf H v.1 v.2 (-1) 1 = s2 := ⟨(segOf H v.1 v.2 (-1) 1).toNat, by omega⟩
    obtain ⟨s3, e3⟩ : ∃ s3 : Nat, segOf H v.1 v.2 1 1 = s3 := ⟨(segOf H v.1 v.2 1 1).toNat, by omega⟩
    have h0 : (trE W H f).of s0 = (z0 : Int) := by rw [← g0]; unfold me0; rw [e0]; rfl
    have h1 : (trE W H f).of s1 = (z1 : Int) := by rw [← g1]; unfold me1; rw [e1]; rfl
    have h2 : (trE W H f).of s2 = (z1 : Int) := by rw [← g2]; unfold me2; rw [e2]; rfl
    have h3 : (trE W H f).of s3 = (z0 : Int) := by rw [← g3]; unfold me3; rw [e3]; rfl
    have HSQ := Lib.hid (show sq4 H v.1 v.2 = .agg #[.int .i64 s0, .int .i64 s1, .int .i64 s2, .int .i64 s3] by unfold sq4; rw [e0, e1, e2, e3])
    have k0M : s0 < M := by omega
    have k1M : s1 < M := by omega
    have k2M : s2 < M := by omega
    have k3M : s3 < M := by omega
    have HZ0 := Lib.hid h0
    have HZ1 := Lib.hid h1
    have HZ2 := Lib.hid h2
    have HZ3 := Lib.hid h3
    clear hv hI h9 hT hcnt g0 g1 g2 g3 e0 e1 e2 e3 h0 h1 h2 h3 r0 r0' r1 r1' r2 r2' r3 r3'
    have hsz := HI.out.sz
    have HTa := Lib.hid (HT5.out.of_block (HI.out.old pt HT5.out.lt (by omega)))
    have HCa := Lib.hid (HC5.out.of_block (HI.out.old cv HC5.out.lt (by omega)))
    have HDa := Lib.hid (HD.out.below HI.out.bel HD.out.1)
    have HXa := Lib.hid (HA5.out.of_block (HI.out.old (w.heap.size + 1) HA5.out.lt (by omega)))
    have HPa := Lib.hid (HP5.out.of_block (HI.out.old w.heap.size HP5.out.lt (by omega)))
    have q0 : Aw.cell? ⟨p9, 0, none⟩ = some (.int .i64 v.1) := H9.out.cellv (i := 0) rfl
    have q1 : Aw.cell? ⟨p9, 1, none⟩ = some (.int .i64 v.2) := H9.out.cellv (i := 1) rfl
    have l9 := H9.out.lt
    have c0 : Aw.cell? ⟨w.heap.size, 0, none⟩ = some (.int .i64 W) := HPa.out.cellv (i := 0) rfl
    have c1 : Aw.cell? ⟨w.heap.size, 1, none⟩ = some (.int .i64 H) := HPa.out.cellv (i := 1) rfl
    have c2 : Aw.cell? ⟨w.heap.size, 2, none⟩ = some (.slice A n c) := HPa.out.cellv (i := 2) rfl
    have l0' := HPa.out.lt
    gi_wp2_with fail
    gi_cut [27, 28, 39, 40, 41] from 24 (fun s27 s28 s39 s40 s41 wx => s27 = .agg #[.int .i64 s0, .int .i64 s1, .int .i64 s2, .int .i64 s3] ∧ s28 = .int .i64 0 ∧ s39 = undef ∧ s40 = undef ∧ s41 = undef ∧ Below Aw.heap.size Aw wx)
    case first =>
      refine wpIn_region_stab [some 24, some 25, some 26, some 27, some 28] [24, 25, 26, 27, 28] [] []
        [(fun a lo hi u w' => u = .agg #[.int .i64 W, .int .i64 H, .slice A n c]), (fun a lo hi u w' => u = .agg #[.int .i64 W, .int .i64 H]), (fun a lo hi u w' => u = .agg #[.int .i64 v.1, .int .i64 v.2]),
          (fun a lo hi u w' => u = sq4 H v.1 v.2), (fun a lo hi u w' => u = .int .i64 0)]
        [[], [0], [], [1, 2], []] [[], [], [], [], []] (by intro o ho c; simp only [List.mem_cons, List.not_mem_nil, or_false] at ho; rcases ho with rfl | rfl | rfl | rfl | rfl <;> (intro h; cases h)) (by kernel_rfl) (by kernel_rfl) (fun k hk => absurd hk List.not_mem_nil) ?gS ?gO ?gR
      case gS => exact ⟨fun _ _ _ _ _ _ h _ => h, fun _ _ _ _ _ _ h _ => h, fun _ _ _ _ _ _ h _ => h, fun _ _ _ _ _ _ h _ => h, fun _ _ _ _ _ _ h _ => h, trivial⟩
      case gO =>
        refine ⟨?o0, ?o1, ?o2, ?o3, ?o4, trivial⟩
        case o0 =>
          intro vs iv wk hx hf
          have ezz : w.heap.size < wk.heap.size := Nat.lt_of_lt_of_le l0' hx.size
          have e0 : wk.cell? ⟨w.heap.size, 0, none⟩ = some (.int .i64 W) := hx.cell c0 (by simp)
          have e1 : wk.cell? ⟨w.heap.size, 1, none⟩ = some (.int .i64 H) := hx.cell c1 (by simp)
          have e2 : wk.cell? ⟨w.heap.size, 2, none⟩ = some (.slice A n c) := hx.cell c2 (by simp)
          intro K' hK
          simp only [setA, setT, List.setIfInBounds_toArray, List.set_cons_zero, List.set_cons_succ]
          go_simp
          refine hK.out _ (.agg #[.int .i64 W, .int .i64 H, .slice A n c]) _ ?_ ?_
          · simp only [setA, setT, List.setIfInBounds_toArray, List.set_cons_zero, List.set_cons_succ, Act.put]
          · exact ⟨Ext.refl _ _, rfl⟩
        case o1 =>
          intro vs iv wk hx hf
          obtain ⟨⟨hq0, -⟩, -⟩ := hf
          have hq0 : vs 24 = .agg #[.int .i64 W, .int .i64 H, .slice A n c] := hq0
          intro K' hK
          simp only [setA, setT, List.setIfInBounds_toArray, List.set_cons_zero, List.set_cons_succ]
          go_simp
          refine (sizeOf_any _ W H A n c).mono ?_
          rintro e w2 ⟨rfl, b2⟩
          dsimp only
          refine hK.out _ (.agg #[.int .i64 W, .int .i64 H]) _ ?_ ?_
          · simp only [setA, setT, List.setIfInBounds_toArray, List.set_cons_zero, List.set_cons_succ, Act.put, hq0]
          · exact ⟨Ext.of_below b2, rfl⟩
        case o2 =>
          intro vs iv wk hx hf
          have ezz : p9 < wk.heap.size := Nat.lt_of_lt_of_le l9 hx.size
          have e0 : wk.cell? ⟨p9, 0, none⟩ = some (.int .i64 v.1) := hx.cell q0 (by simp)
          have e1 : wk.cell? ⟨p9, 1, none⟩ = some (.int .i64 v.2) := hx.cell q1 (by simp)
          intro K' hK
          simp only [setA, setT, List.setIfInBounds_toArray, List.set_cons_zero, List.set_cons_succ]
          go_simp
          refine hK.out _ (.agg #[.int .i64 v.1, .int .i64 v.2]) _ ?_ ?_
          · simp only [setA, setT, List.setIfInBounds_toArray, List.set_cons_zero, List.set_cons_succ, Act.put]
          · exact ⟨Ext.refl _ _, rfl⟩
        case o3 =>
          intro vs iv wk hx hf
          obtain ⟨⟨hq1, -⟩, ⟨hq2, -⟩, -⟩ := hf
          have hq1 : vs 25 = .agg #[.int .i64 W, .int .i64 H] := hq1
          have hq2 : vs 26 = .agg #[.int .i64 v.1, .int .i64 v.2] := hq2
          have hTk : Cel wk 2 [.int .i64 (-1), .int .i64 (-1), .int .i64 1, .int .i64 (-1), .int .i64 (-1), .int .i64 1, .int .i64 1, .int .i64 1] := HDa.out.below (((Ext.drew _).trans hx).nil) HDa.out.1
          intro K' hK
          simp only [setA, setT, List.setIfInBounds_toArray, List.set_cons_zero, List.set_cons_succ]
          go_simp
          refine (impl_segmentsAt _ W H v.1 v.2 M hTk hH x1 x2 y1 y2 HSI.out hM1).mono ?_
          rintro e w2 ⟨rfl, b2⟩
          dsimp only
          refine hK.out _ (sq4 H v.1 v.2) _ ?_ ?_
          · simp only [setA, setT, List.setIfInBounds_toArray, List.set_cons_zero, List.set_cons_succ, Act.put, hq1, hq2]
          · exact ⟨Ext.of_below b2, rfl⟩
        case o4 =>
          intro vs iv wk hx hf
          intro K' hK
          simp only [setA, setT, List.setIfInBounds_toArray, List.set_cons_zero, List.set_cons_succ]
          go_simp
          refine hK.out _ (.int .i64 0) _ ?_ ?_
          · simp only [setA, setT, List.setIfInBounds_toArray, List.set_cons_zero, List.set_cons_succ, Act.put]
          · exact ⟨Ext.refl _ _, rfl⟩
      case gR =>
        intro vs iv w5x hx hap hf
        obtain ⟨-, -, -, ⟨hv3, -⟩, ⟨hv4, -⟩, -⟩ := hf
        have hv3 : vs 27 = sq4 H v.1 v.2 := hv3
        have hv4 : vs 28 = .int .i64 0 := hv4
        simp only [setA, setT, List.setIfInBounds_toArray, List.set_cons_zero, List.set_cons_succ, hv3, hv4, HSQ.out]
        refine ‹∀ a' w', Met _ a' w' → _› _ _ ?_
        refine Met.intro ?_
        refine ‹∀ a' w', _ → _› _ _ ?_
        (repeat apply Exists.intro)
        refine ⟨?_, rfl⟩
        exact ⟨rfl, rfl, rfl, rfl, rfl, ((Ext.drew _).trans hx).nil⟩
    case rest =>
      obtain ⟨rfl, rfl, rfl, rfl, rfl, hB6⟩ := hcut
      have HI6 := Lib.hid (HI.out.b hB6)
      have HC6 := Lib.hid (HCN.out.below hB6 HCN.out.lt)
      have HE6 := Lib.hid (Ext.of_below (X := [pt + 1]) hB6)
      have HT6 := Lib.hid (HTa.out.below hB6 HTa.out.lt)
      have HV6 := Lib.hid (rowIs_below HCa.out hB6 HCa.out.lt)
      have HX6 := Lib.hid (HXa.out.below hB6 HXa.out.lt)
      clear c0 c1 c2 l0' q0 q1 l9 HPa H9 HI HCN hB6 HTa HCa HXa HDa
      have hzz := HE6.out.size
      have hI6z := HI6.out.sz
      gi_wp2
      gi_loopg [28] 4 (fun g s28 wr => ∃ (k : Nat) (kz : Int), s28 = .int .i64 kz ∧ kz = k ∧ k + g = 4 ∧ Hid (0 < k → z0 = i0) ∧ Hid (1 < k → z1 = i0) ∧ Hid (TI w5 (pt + 1) (crJ W H f (trE W H f).of (i0 : Int) (i0 : Int) (zl f n)) w j wr) ∧ Hid (At wr (pt + 1) #[.int .i64 (T : Int)] 2) ∧ Hid (Ext [pt + 1] Aw wr) ∧ Hid (At wr pt #[.int .i64 W, .int .i64 H, .slice A n c, .slice Au N cu, .slice (some ⟨cv, 0, none⟩) M M] 114) ∧ Hid (wr.rowIs cv 2 M (fun s => .int .i64 ((trE W H f).of s))) ∧ Hid (At wr (w.heap.size + 1) #[.int .i64 (i0 : Int)] 2))
      case atStart => exact ⟨0, 0, rfl, rfl, by omega, Lib.hid (fun h => absurd h (by omega)), Lib.hid (fun h => absurd h (by omega)), HI6, HC6, HE6, HT6, HV6, HX6⟩
      case round =>
        clear HI6 HC6 HE6 HT6 HV6 HX6 hzz hI6z
        obtain ⟨k, kz, rfl, hkz, hkg, u0, u1, HI6, HC6, HE6, HT6, HV6, HX6⟩ := hrel
        have hzz := HE6.out.size
        have hI6z := HI6.out.sz
        have t0 : wr.cell? ⟨pt, 4, none⟩ = some (.slice (some ⟨cv, 0, none⟩) M M) := HT6.out.cellv (i := 4) rfl
        have lt := HT6.out.lt
        have d0 : wr.cell? ⟨w.heap.size + 1, 0, none⟩ = some (.int .i64 (i0 : Int)) := HX6.out.cellv (i := 0) rfl
        have ld := HX6.out.lt
        have lv := HV6.out.lt
        have hbm : ∀ b' ∈ [pt + 1], (b' ∈ [pt + 1] ∨ Aw.heap.size ≤ b') ∧ b' < wr.heap.size := fun b' hb' => ⟨.inl hb', by simp at hb'; omega⟩
        rcases (show k = 0 ∨ k = 1 ∨ k = 2 ∨ k = 3 ∨ k = 4 by omega) with rfl | rfl | rfl | rfl | rfl
        · obtain rfl : kz = (0 : Int) := by omega
          clear hkz
          have hai := arr_at0
          have cc := HV6.out.cell k0M
          rw [HZ0.out] at cc
          gi_wp2_with fail
          clear hai
          gi_cut [37, 39, 40, 41] from 31 (fun s37 s39 s40 s41 wx => s37 = .bool ((z0 : Int) != (i0 : Int)) ∧ s39 = undef ∧ s40 = undef ∧ s41 = undef ∧ Below wr.heap.size wr wx)
          case first =>
            refine wpIn_region_stab [some 31, some 32, some 33, some 34, some 35, some 36, some 37] [31, 32, 33, 34, 35, 36, 37] [] []
              [(fun a lo hi u w' => u = .pointer (some ⟨pt, 4, none⟩)), (fun a lo hi u w' => u = .slice (some ⟨cv, 0, none⟩) M M), (fun a lo hi u w' => u = .int .i64 s0), (fun a lo hi u w' => u = .pointer (some ⟨cv, s0, none⟩)), (fun a lo hi u w' => u = .int .i64 z0), (fun a lo hi u w' => u = .int .i64 i0), (fun a lo hi u w' => u = .bool ((z0 : Int) != (i0 : Int)))]
              [[], [0], [], [1, 2], [3], [], [4, 5]] [[], [], [], [], [], [], []] (by intro o ho c; simp only [List.mem_cons, List.not_mem_nil, or_false] at ho; rcases ho with rfl | rfl | rfl | rfl | rfl | rfl | rfl <;> (intro h; cases h)) (by kernel_rfl) (by kernel_rfl) (fun k hk => absurd hk List.not_mem_nil) ?gS ?gO ?gR
            case gS => exact ⟨fun _ _ _ _ _ _ h _ => h, fun _ _ _ _ _ _ h _ => h, fun _ _ _ _ _ _ h _ => h, fun _ _ _ _ _ _ h _ => h, fun _ _ _ _ _ _ h _ => h, fun _ _ _ _ _ _ h _ => h, fun _ _ _ _ _ _ h _ => h, trivial⟩
            case gO =>
              refine ⟨?o0, ?o1, ?o2, ?o3, ?o4, ?o5, ?o6, trivial⟩
              case o0 =>
                intro vs iv wk hx hf
                have ezz : pt < wk.heap.size := Nat.lt_of_lt_of_le lt hx.size
                intro K' hK
                simp only [setA, setT, List.setIfInBounds_toArray, List.set_cons_zero, List.set_cons_succ]
                go_simp
                refine hK.out _ (.pointer (some ⟨pt, 4, none⟩)) _ ?_ ?_
                · simp only [setA, setT, List.setIfInBounds_toArray, List.set_cons_zero, List.set_cons_succ, Act.put]
                · exact ⟨Ext.refl _ _, rfl⟩
              case o1 =>
                intro vs iv wk hx hf
                obtain ⟨⟨hq, -⟩, -⟩ := hf
                have hq : vs 31 = .pointer (some ⟨pt, 4, none⟩) := hq
                have ezz : pt < wk.heap.size := Nat.lt_of_lt_of_le lt hx.size
                have e0 : wk.cell? ⟨pt, 4, none⟩ = some (.slice (some ⟨cv, 0, none⟩) M M) := hx.cell t0 (by simp)
                intro K' hK
                simp only [setA, setT, List.setIfInBounds_toArray, List.set_cons_zero, List.set_cons_succ]
                go_simp
                refine hK.out _ (.slice (some ⟨cv, 0, none⟩) M M) _ ?_ ?_
                · simp only [setA, setT, List.setIfInBounds_toArray, List.set_cons_zero, List.set_cons_succ, Act.put, hq]
                · exact ⟨Ext.refl _ _, rfl⟩
              case o2 =>
                intro vs iv wk hx hf
                intro K' hK
                simp only [setA, setT, List.setIfInBounds_toArray, List.set_cons_zero, List.set_cons_succ]
                go_simp
                refine hK.out _ (.int .i64 s0) _ ?_ ?_
                · simp only [setA, setT, List.setIfInBounds_toArray, List.set_cons_zero, List.set_cons_succ, Act.put]
                · exact ⟨Ext.refl _ _, rfl⟩
              case o3 =>
                intro vs iv wk hx hf
                obtain ⟨⟨hq1, -⟩, ⟨hq2, -⟩, -⟩ := hf
                have hq1 : vs 32 = .slice (some ⟨cv, 0, none⟩) M M := hq1
                have hq2 : vs 33 = .int .i64 s0 := hq2
                intro K' hK
                simp only [setA, setT, List.setIfInBounds_toArray, List.set_cons_zero, List.set_cons_succ]
                go_simp
                refine hK.out _ (.pointer (some ⟨cv, s0, none⟩)) _ ?_ ?_
                · simp only [setA, setT, List.setIfInBounds_toArray, List.set_cons_zero, List.set_cons_succ, Act.put, hq1, hq2]
                · exact ⟨Ext.refl _ _, rfl⟩
              case o4 =>
                intro vs iv wk hx hf
                obtain ⟨⟨hq, -⟩, -⟩ := hf
                have hq : vs 34 = .pointer (some ⟨cv, s0, none⟩) := hq
                have ezz : cv < wk.heap.size := Nat.lt_of_lt_of_le lv hx.size
                have e0 : wk.cell? ⟨cv, s0, none⟩ = some (.int .i64 z0) := hx.cell cc (by simp)
                intro K' hK
                simp only [setA, setT, List.setIfInBounds_toArray, List.set_cons_zero, List.set_cons_succ]
                go_simp
                refine hK.out _ (.int .i64 z0) _ ?_ ?_
                · simp only [setA, setT, List.setIfInBounds_toArray, List.set_cons_zero, List.set_cons_succ, Act.put, hq]
                · exact ⟨Ext.refl _ _, rfl⟩
              case o5 =>
                intro vs iv wk hx hf
                have ezz : w.heap.size + 1 < wk.heap.size := Nat.lt_of_lt_of_le ld hx.size
                have e0 : wk.cell? ⟨w.heap.size + 1, 0, none⟩ = some (.int .i64 (i0 : Int)) := hx.cell d0 (by simp)
                intro K' hK
                simp only [setA, setT, List.setIfInBounds_toArray, List.set_cons_zero, List.set_cons_succ]
                go_simp
                refine hK.out _ (.int .i64 i0) _ ?_ ?_
                · simp only [setA, setT, List.setIfInBounds_toArray, List.set_cons_zero, List.set_cons_succ, Act.put]
                · exact ⟨Ext.refl _ _, rfl⟩
              case o6 =>
                intro vs iv wk hx hf
                obtain ⟨⟨hq1, -⟩, ⟨hq2, -⟩, -⟩ := hf
                have hq1 : vs 35 = .int .i64 z0 := hq1
                have hq2 : vs 36 = .int .i64 i0 := hq2
                intro K' hK
                simp only [setA, setT, List.setIfInBounds_toArray, List.set_cons_zero, List.set_cons_succ]
                go_simp
                refine hK.out _ (.bool ((z0 : Int) != (i0 : Int))) _ ?_ ?_
                · simp only [setA, setT, List.setIfInBounds_toArray, List.set_cons_zero, List.set_cons_succ, Act.put, hq1, hq2]
                · exact ⟨Ext.refl _ _, rfl⟩
            case gR =>
              intro vs iv w5x hx hap hf
              obtain ⟨-, -, -, -, -, -, ⟨hv6, -⟩, -⟩ := hf
              have hv6 : vs 37 = .bool ((z0 : Int) != (i0 : Int)) := hv6
              simp only [setA, setT, List.setIfInBounds_toArray, List.set_cons_zero, List.set_cons_succ, hv6]
              refine ‹∀ a' w', Met _ a' w' → _› _ _ ?_
              refine Met.intro ?_
              refine ‹∀ a' w', _ → _› _ _ ?_
              (repeat apply Exists.intro)
              refine ⟨?_, rfl⟩
              exact ⟨rfl, rfl, rfl, rfl, ((Ext.drew _).trans hx).nil⟩
          case rest =>
            obtain ⟨rfl, rfl, rfl, rfl, hB7⟩ := hcut
            have HI7 := Lib.hid (HI6.out.b hB7)
            have HC7 := Lib.hid (HC6.out.below hB7 HC6.out.lt)
            have HE7 := Lib.hid (HE6.out.trans (Ext.of_below (X := [pt + 1]) hB7))
            have HT7 := Lib.hid (HT6.out.below hB7 HT6.out.lt)
            have HV7 := Lib.hid (rowIs_below HV6.out hB7 HV6.out.lt)
            have HX7 := Lib.hid (HX6.out.below hB7 HX6.out.lt)
            have hz7 := hB7.size
            clear cc t0 lt d0 ld lv hB7
            by_cases hzi : (z0 : Int) = (i0 : Int)
            · have hb : ((z0 : Int) != (i0 : Int)) = false := by simp [hzi]
              rw [hb]
              gi_wp2
              gi_roundg (gk - 1)
              case measure => omega
              case rel => exact ⟨1, 1, by go_num, rfl, by omega, Lib.hid (fun _ => by have := u0.out; have := u1.out; omega), Lib.hid (fun _ => by have := u0.out; have := u1.out; omega), HI7, HC7, HE7, HT7, HV7, HX7⟩
            · have hb : ((z0 : Int) != (i0 : Int)) = true := by simp [hzi]
              rw [hb]
              have hcb : crB z0 z1 i0 i0 = false := by
                rw [Bool.eq_false_iff]
                simp only [ne_eq, crB, Bool.or_eq_true, Bool.and_eq_true, beq_iff_eq]
                omega
              rw [hcb] at HTS
              gi_wp2
              refine ⟨[pt + 1], ⟨rfl, HI7.out.sz, HI7.out.old, ?_, HI7.out.bel⟩, HE7.out, fun b' hb' => ⟨.inl hb', by simp at hb'; omega⟩⟩
              rw [HTS.out]
              exact HC7.out
        · obtain rfl : kz = (1 : Int) := by omega
          clear hkz
          have hai := arr_at1
          have cc := HV6.out.cell k1M
          rw [HZ1.out] at cc
          gi_wp2_with fail
          clear hai
          gi_cut [37, 39, 40, 41] from 31 (fun s37 s39 s40 s41 wx => s37 = .bool ((z1 : Int) != (i0 : Int)) ∧ s39 = undef ∧ s40 = undef ∧ s41 = undef ∧ Below wr.heap.size wr wx)
          case first =>
            refine wpIn_region_stab [some 31, some 32, some 33, some 34, some 35, some 36, some 37] [31, 32, 33, 34, 35, 36, 37] [] []
              [(fun a lo hi u w' => u = .pointer (some ⟨pt, 4, none⟩)), (fun a lo hi u w' => u = .slice (some ⟨cv, 0, none⟩) M M), (fun a lo hi u w' => u = .int .i64 s1), (fun a lo hi u w' => u = .pointer (some ⟨cv, s1, none⟩)), (fun a lo hi u w' => u = .int .i64 z1), (fun a lo hi u w' => u = .int .i64 i0), (fun a lo hi u w' => u = .bool ((z1 : Int) != (i0 : Int)))]
              [[], [0], [], [1, 2], [3], [], [4, 5]] [[], [], [], [], [], [], []] (by intro o ho c; simp only [List.mem_cons, List.not_mem_nil, or_false] at ho; rcases ho with rfl | rfl | rfl | rfl | rfl | rfl | rfl <;> (intro h; cases h)) (by kernel_rfl) (by kernel_rfl) (fun k hk => absurd hk List.not_mem_nil) ?gS ?gO ?gR
            case gS => exact ⟨fun _ _ _ _ _ _ h _ => h, fun _ _ _ _ _ _ h _ => h, fun _ _ _ _ _ _ h _ => h, fun _ _ _ _ _ _ h _ => h, fun _ _ _ _ _ _ h _ => h, fun _ _ _ _ _ _ h _ => h, fun _ _ _ _ _ _ h _ => h, trivial⟩
            case gO =>
              refine ⟨?o0, ?o1, ?o2, ?o3, ?o4, ?o5, ?o6, trivial⟩
              case o0 =>
                intro vs iv wk hx hf
                have ezz : pt < wk.heap.size := Nat.lt_of_lt_of_le lt hx.size
                intro K' hK
                simp only [setA, setT, List.setIfInBounds_toArray, List.set_cons_zero, List.set_cons_succ]
                go_simp
                refine hK.out _ (.pointer (some ⟨pt, 4, none⟩)) _ ?_ ?_
                · simp only [setA, setT, List.setIfInBounds_toArray, List.set_cons_zero, List.set_cons_succ, Act.put]
                · exact ⟨Ext.refl _ _, rfl⟩
              case o1 =>
                intro vs iv wk hx hf
                obtain ⟨⟨hq, -⟩, -⟩ := hf
                have hq : vs 31 = .pointer (some ⟨pt, 4, none⟩) := hq
                have ezz : pt < wk.heap.size := Nat.lt_of_lt_of_le lt hx.size
                have e0 : wk.cell? ⟨pt, 4, none⟩ = some (.slice (some ⟨cv, 0, none⟩) M M) := hx.cell t0 (by simp)
                intro K' hK
                simp only [setA, setT, List.setIfInBounds_toArray, List.set_cons_zero, List.set_cons_succ]
                go_simp
                refine hK.out _ (.slice (some ⟨cv, 0, none⟩) M M) _ ?_ ?_
                · simp only [setA, setT, List.setIfInBounds_toArray, List.set_cons_zero, List.set_cons_succ, Act.put, hq]
                · exact ⟨Ext.refl _ _, rfl⟩
              case o2 =>
                intro vs iv wk hx hf
                intro K' hK
                simp only [setA, setT, List.setIfInBounds_toArray, List.set_cons_zero, List.set_cons_succ]
                go_simp
                refine hK.out _ (.int .i64 s1) _ ?_ ?_
                · simp only [setA, setT, List.setIfInBounds_toArray, List.set_cons_zero, List.set_cons_succ, Act.put]
                · exact ⟨Ext.refl _ _, rfl⟩
              case o3 =>
                intro vs iv wk hx hf
                obtain ⟨⟨hq1, -⟩, ⟨hq2, -⟩, -⟩ := hf
                have hq1 : vs 32 = .slice (some ⟨cv, 0, none⟩) M M := hq1
                have hq2 : vs 33 = .int .i64 s1 := hq2
                intro K' hK
                simp only [setA, setT, List.setIfInBounds_toArray, List.set_cons_zero, List.set_cons_succ]
                go_simp
                refine hK.out _ (.pointer (some ⟨cv, s1, none⟩)) _ ?_ ?_
                · simp only [setA, setT, List.setIfInBounds_toArray, List.set_cons_zero, List.set_cons_succ, Act.put, hq1, hq2]
                · exact ⟨Ext.refl _ _, rfl⟩
              case o4 =>
                intro vs iv wk hx hf
                obtain ⟨⟨hq, -⟩, -⟩ := hf
                have hq : vs 34 = .pointer (some ⟨cv, s1, none⟩) := hq
                have ezz : cv < wk.heap.size := Nat.lt_of_lt_of_le lv hx.size
                have e0 : wk.cell? ⟨cv, s1, none⟩ = some (.int .i64 z1) := hx.cell cc (by simp)
                intro K' hK
                simp only [setA, setT, List.setIfInBounds_toArray, List.set_cons_zero, List.set_cons_succ]
                go_simp
                refine hK.out _ (.int .i64 z1) _ ?_ ?_
                · simp only [setA, setT, List.setIfInBounds_toArray, List.set_cons_zero, List.set_cons_succ, Act.put, hq]
                · exact ⟨Ext.refl _ _, rfl⟩
              case o5 =>
                intro vs iv wk hx hf
                have ezz : w.heap.size + 1 < wk.heap.size := Nat.lt_of_lt_of_le ld hx.size
                have e0 : wk.cell? ⟨w.heap.size + 1, 0, none⟩ = some (.int .i64 (i0 : Int)) := hx.cell d0 (by simp)
                intro K' hK
                simp only [setA, setT, List.setIfInBounds_toArray, List.set_cons_zero, List.set_cons_succ]
                go_simp
                refine hK.out _ (.int .i64 i0) _ ?_ ?_
                · simp only [setA, setT, List.setIfInBounds_toArray, List.set_cons_zero, List.set_cons_succ, Act.put]
                · exact ⟨Ext.refl _ _, rfl⟩
              case o6 =>
                intro vs iv wk hx hf
                obtain ⟨⟨hq1, -⟩, ⟨hq2, -⟩, -⟩ := hf
                have hq1 : vs 35 = .int .i64 z1 := hq1
                have hq2 : vs 36 = .int .i64 i0 := hq2
                intro K' hK
                simp only [setA, setT, List.setIfInBounds_toArray, List.set_cons_zero, List.set_cons_succ]
                go_simp
                refine hK.out _ (.bool ((z1 : Int) != (i0 : Int))) _ ?_ ?_
                · simp only [setA, setT, List.setIfInBounds_toArray, List.set_cons_zero, List.set_cons_succ, Act.put, hq1, hq2]
                · exact ⟨Ext.refl _ _, rfl⟩
            case gR =>
              intro vs iv w5x hx hap hf
              obtain ⟨-, -, -, -, -, -, ⟨hv6, -⟩, -⟩ := hf
              have hv6 : vs 37 = .bool ((z1 : Int) != (i0 : Int)) := hv6
              simp only [setA, setT, List.setIfInBounds_toArray, List.set_cons_zero, List.set_cons_succ, hv6]
              refine ‹∀ a' w', Met _ a' w' → _› _ _ ?_
              refine Met.intro ?_
              refine ‹∀ a' w', _ → _› _ _ ?_
              (repeat apply Exists.intro)
              refine ⟨?_, rfl⟩
              exact ⟨rfl, rfl, rfl, rfl, ((Ext.drew _).trans hx).nil⟩
          case rest =>
            obtain ⟨rfl, rfl, rfl, rfl, hB7⟩ := hcut
            have HI7 := Lib.hid (HI6.out.b hB7)
            have HC7 := Lib.hid (HC6.out.below hB7 HC6.out.lt)
            have HE7 := Lib.hid (HE6.out.trans (Ext.of_below (X := [pt + 1]) hB7))
            have HT7 := Lib.hid (HT6.out.below hB7 HT6.out.lt)
            have HV7 := Lib.hid (rowIs_below HV6.out hB7 HV6.out.lt)
            have HX7 := Lib.hid (HX6.out.below hB7 HX6.out.lt)
            have hz7 := hB7.size
            clear cc t0 lt d0 ld lv hB7
            by_cases hzi : (z1 : Int) = (i0 : Int)
            · have hb : ((z1 : Int) != (i0 : Int)) = false := by simp [hzi]
              rw [hb]
              gi_wp2
              gi_roundg (gk - 1)
              case measure => omega
              case rel => exact ⟨2, 2, by go_num, rfl, by omega, Lib.hid (fun _ => by have := u0.out; have := u1.out; omega), Lib.hid (fun _ => by have := u0.out; have := u1.out; omega), HI7, HC7, HE7, HT7, HV7, HX7⟩
            · have hb : ((z1 : Int) != (i0 : Int)) = true := by simp [hzi]
              rw [hb]
              have hcb : crB z0 z1 i0 i0 = false := by
                rw [Bool.eq_false_iff]
                simp only [ne_eq, crB, Bool.or_eq_true, Bool.and_eq_true, beq_iff_eq]
                omega
              rw [hcb] at HTS
              gi_wp2
              refine ⟨[pt + 1], ⟨rfl, HI7.out.sz, HI7.out.old, ?_, HI7.out.bel⟩, HE7.out, fun b' hb' => ⟨.inl hb', by simp at hb'; omega⟩⟩
              rw [HTS.out]
              exact HC7.out
        · obtain rfl : kz = (2 : Int) := by omega
          clear hkz
          have hai := arr_at2
          have cc := HV6.out.cell k2M
          rw [HZ2.out] at cc
          gi_wp2_with fail
          clear hai
          gi_cut [37, 39, 40, 41] from 31 (fun s37 s39 s40 s41 wx => s37 = .bool ((z1 : Int) != (i0 : Int)) ∧ s39 = undef ∧ s40 = undef ∧ s41 = undef ∧ Below wr.heap.size wr wx)
          case first =>
            refine wpIn_region_stab [some 31, some 32, some 33, some 34, some 35, some 36, some 37] [31, 32, 33, 34, 35, 36, 37] [] []
              [(fun a lo hi u w' => u = .pointer (some ⟨pt, 4, none⟩)), (fun a lo hi u w' => u = .slice (some ⟨cv, 0, none⟩) M M), (fun a lo hi u w' => u = .int .i64 s2), (fun a lo hi u w' => u = .pointer (some ⟨cv, s2, none⟩)), (fun a lo hi u w' => u = .int .i64 z1), (fun a lo hi u w' => u = .int .i64 i0), (fun a lo hi u w' => u = .bool ((z1 : Int) != (i0 : Int)))]
              [[], [0], [], [1, 2], [3], [], [4, 5]] [[], [], [], [], [], [], []] (by intro o ho c; simp only [List.mem_cons, List.not_mem_nil, or_false] at ho; rcases ho with rfl | rfl | rfl | rfl | rfl | rfl | rfl <;> (intro h; cases h)) (by kernel_rfl) (by kernel_rfl) (fun k hk => absurd hk List.not_mem_nil) ?gS ?gO ?gR
            case gS => exact ⟨fun _ _ _ _ _ _ h _ => h, fun _ _ _ _ _ _ h _ => h, fun _ _ _ _ _ _ h _ => h, fun _ _ _ _ _ _ h _ => h, fun _ _ _ _ _ _ h _ => h, fun _ _ _ _ _ _ h _ => h, fun _ _ _ _ _ _ h _ => h, trivial⟩
            case gO =>
              refine ⟨?o0, ?o1, ?o2, ?o3, ?o4, ?o5, ?o6, trivial⟩
              case o0 =>
                intro vs iv wk hx hf
                have ezz : pt < wk.heap.size := Nat.lt_of_lt_of_le lt hx.size
                intro K' hK
                simp only [setA, setT, List.setIfInBounds_toArray, List.set_cons_zero, List.set_cons_succ]
                go_simp
                refine hK.out _ (.pointer (some ⟨pt, 4, none⟩)) _ ?_ ?_
                · simp only [setA, setT, List.setIfInBounds_toArray, List.set_cons_zero, List.set_cons_succ, Act.put]
                · exact ⟨Ext.refl _ _, rfl⟩
              case o1 =>
                intro vs iv wk hx hf
                obtain ⟨⟨hq, -⟩, -⟩ := hf
                have hq : vs 31 = .pointer (some ⟨pt, 4, none⟩) := hq
                have ezz : pt < wk.heap.size := Nat.lt_of_lt_of_le lt hx.size
                have e0 : wk.cell? ⟨pt, 4, none⟩ = some (.slice (some ⟨cv, 0, none⟩) M M) := hx.cell t0 (by simp)
                intro K' hK
                simp only [setA, setT, List.setIfInBounds_toArray, List.set_cons_zero, List.set_cons_succ]
                go_simp
                refine hK.out _ (.slice (some ⟨cv, 0, none⟩) M M) _ ?_ ?_
                · simp only [setA, setT, List.setIfInBounds_toArray, List.set_cons_zero, List.set_cons_succ, Act.put, hq]
                · exact ⟨Ext.refl _ _, rfl⟩
              case o2 =>
                intro vs iv wk hx hf
                intro K' hK
                simp only [setA, setT, List.setIfInBounds_toArray, List.set_cons_zero, List.set_cons_succ]
                go_simp
                refine hK.out _ (.int .i64 s2) _ ?_ ?_
                · simp only [setA, setT, List.setIfInBounds_toArray, List.set_cons_zero, List.set_cons_succ, Act.put]
                · exact ⟨Ext.refl _ _, rfl⟩
              case o3 =>
                intro vs iv wk hx hf
                obtain ⟨⟨hq1, -⟩, ⟨hq2, -⟩, -⟩ := hf
                have hq1 : vs 32 = .slice (some ⟨cv, 0, none⟩) M M := hq1
                have hq2 : vs 33 = .int .i64 s2 := hq2
                intro K' hK
                simp only [setA, setT, List.setIfInBounds_toArray, List.set_cons_zero, List.set_cons_succ]
                go_simp
                refine hK.out _ (.pointer (some ⟨cv, s2, none⟩)) _ ?_ ?_
                · simp only [setA, setT, List.setIfInBounds_toArray, List.set_cons_zero, List.set_cons_succ, Act.put, hq1, hq2]
                · exact ⟨Ext.refl _ _, rfl⟩
              case o4 =>
                intro vs iv wk hx hf
                obtain ⟨⟨hq, -⟩, -⟩ := hf
                have hq : vs 34 = .pointer (some ⟨cv, s2, none⟩) := hq
                have ezz : cv < wk.heap.size := Nat.lt_of_lt_of_le lv hx.size
                have e0 : wk.cell? ⟨cv, s2, none⟩ = some (.int .i64 z1) := hx.cell cc (by simp)
                intro K' hK
                simp only [setA, setT, List.setIfInBounds_toArray, List.set_cons_zero, List.set_cons_succ]
                go_simp
                refine hK.out _ (.int .i64 z1) _ ?_ ?_
                · simp only [setA, setT, List.setIfInBounds_toArray, List.set_cons_zero, List.set_cons_succ, Act.put, hq]
                · exact ⟨Ext.refl _ _, rfl⟩
              case o5 =>
                intro vs iv wk hx hf
                have ezz : w.heap.size + 1 < wk.heap.size := Nat.lt_of_lt_of_le ld hx.size
                have e0 : wk.cell? ⟨w.heap.size + 1, 0, none⟩ = some (.int .i64 (i0 : Int)) := hx.cell d0 (by simp)
                intro K' hK
                simp only [setA, setT, List.setIfInBounds_toArray, List.set_cons_zero, List.set_cons_succ]
                go_simp
                refine hK.out _ (.int .i64 i0) _ ?_ ?_
                · simp only [setA, setT, List.setIfInBounds_toArray, List.set_cons_zero, List.set_cons_succ, Act.put]
                · exact ⟨Ext.refl _ _, rfl⟩
              case o6 =>
                intro vs iv wk hx hf
                obtain ⟨⟨hq1, -⟩, ⟨hq2, -⟩, -⟩ := hf
                have hq1 : vs 35 = .int .i64 z1 := hq1
                have hq2 : vs 36 = .int .i64 i0 := hq2
                intro K' hK
                simp only [setA, setT, List.setIfInBounds_toArray, List.set_cons_zero, List.set_cons_succ]
                go_simp
                refine hK.out _ (.bool ((z1 : Int) != (i0 : Int))) _ ?_ ?_
                · simp only [setA, setT, List.setIfInBounds_toArray, List.set_cons_zero, List.set_cons_succ, Act.put, hq1, hq2]
                · exact ⟨Ext.refl _ _, rfl⟩
            case gR =>
              intro vs iv w5x hx hap hf
              obtain ⟨-, -, -, -, -, -, ⟨hv6, -⟩, -⟩ := hf
              have hv6 : vs 37 = .bool ((z1 : Int) != (i0 : Int)) := hv6
              simp only [setA, setT, List.setIfInBounds_toArray, List.set_cons_zero, List.set_cons_succ, hv6]
              refine ‹∀ a' w', Met _ a' w' → _› _ _ ?_
              refine Met.intro ?_
              refine ‹∀ a' w', _ → _› _ _ ?_
              (repeat apply Exists.intro)
              refine ⟨?_, rfl⟩
              exact ⟨rfl, rfl, rfl, rfl, ((Ext.drew _).trans hx).nil⟩
          case rest =>
            obtain ⟨rfl, rfl, rfl, rfl, hB7⟩ := hcut
            have HI7 := Lib.hid (HI6.out.b hB7)
            have HC7 := Lib.hid (HC6.out.below hB7 HC6.out.lt)
            have HE7 := Lib.hid (HE6.out.trans (Ext.of_below (X := [pt + 1]) hB7))
            have HT7 := Lib.hid (HT6.out.below hB7 HT6.out.lt)
            have HV7 := Lib.hid (rowIs_below HV6.out hB7 HV6.out.lt)
            have HX7 := Lib.hid (HX6.out.below hB7 HX6.out.lt)
            have hz7 := hB7.size
            clear cc t0 lt d0 ld lv hB7
            by_cases hzi : (z1 : Int) = (i0 : Int)
            · have hb : ((z1 : Int) != (i0 : Int)) = false := by simp [hzi]
              rw [hb]
              gi_wp2
              gi_roundg (gk - 1)
              case measure => omega
              case rel => exact ⟨3, 3, by go_num, rfl, by omega, Lib.hid (fun _ => by have := u0.out; have := u1.out; omega), Lib.hid (fun _ => by have := u0.out; have := u1.out; omega), HI7, HC7, HE7, HT7, HV7, HX7⟩
            · have hb : ((z1 : Int) != (i0 : Int)) = true := by simp [hzi]
              rw [hb]
              have hcb : crB z0 z1 i0 i0 = false := by
                rw [Bool.eq_false_iff]
                simp only [ne_eq, crB, Bool.or_eq_true, Bool.and_eq_true, beq_iff_eq]
                omega
              rw [hcb] at HTS
              gi_wp2
              refine ⟨[pt + 1], ⟨rfl, HI7.out.sz, HI7.out.old, ?_, HI7.out.bel⟩, HE7.out, fun b' hb' => ⟨.inl hb', by simp at hb'; omega⟩⟩
              rw [HTS.out]
              exact HC7.out
        · obtain rfl : kz = (3 : Int) := by omega
          clear hkz
          have hai := arr_at3
          have cc := HV6.out.cell k3M
          rw [HZ3.out] at cc
          gi_wp2_with fail
          clear hai
          gi_cut [37, 39, 40, 41] from 31 (fun s37 s39 s40 s41 wx => s37 = .bool ((z0 : Int) != (i0 : Int)) ∧ s39 = undef ∧ s40 = undef ∧ s41 = undef ∧ Below wr.heap.size wr wx)
          case first =>
            refine wpIn_region_stab [some 31, some 32, some 33, some 34, some 35, some 36, some 37] [31, 32, 33, 34, 35, 36, 37] [] []
              [(fun a lo hi u w' => u = .pointer (some ⟨pt, 4, none⟩)), (fun a lo hi u w' => u = .slice (some ⟨cv, 0, none⟩) M M), (fun a lo hi u w' => u = .int .i64 s3), (fun a lo hi u w' => u = .pointer (some ⟨cv, s3, none⟩)), (fun a lo hi u w' => u = .int .i64 z0), (fun a lo hi u w' => u = .int .i64 i0), (fun a lo hi u w' => u = .bool ((z0 : Int) != (i0 : Int)))]
              [[], [0], [], [1, 2], [3], [], [4, 5]] [[], [], [], [], [], [], []] (by intro o ho c; simp only [List.mem_cons, List.not_mem_nil, or_false] at ho; rcases ho with rfl | rfl | rfl | rfl | rfl | rfl | rfl <;> (intro h; cases h)) (by kernel_rfl) (by kernel_rfl) (fun k hk => absurd hk List.not_mem_nil) ?gS ?gO ?gR
            case gS => exact ⟨fun _ _ _ _ _ _ h _ => h, fun _ _ _ _ _ _ h _ => h, fun _ _ _ _ _ _ h _ => h, fun _ _ _ _ _ _ h _ => h, fun _ _ _ _ _ _ h _ => h, fun _ _ _ _ _ _ h _ => h, fun _ _ _ _ _ _ h _ => h, trivial⟩
            case gO =>
              refine ⟨?o0, ?o1, ?o2, ?o3, ?o4, ?o5, ?o6, trivial⟩
              case o0 =>
                intro vs iv wk hx hf
                have ezz : pt < wk.heap.size := Nat.lt_of_lt_of_le lt hx.size
                intro K' hK
                simp only [setA, setT, List.setIfInBounds_toArray, List.set_cons_zero, List.set_cons_succ]
                go_simp
                refine hK.out _ (.pointer (some ⟨pt, 4, none⟩)) _ ?_ ?_
                · simp only [setA, setT, List.setIfInBounds_toArray, List.set_cons_zero, List.set_cons_succ, Act.put]
                · exact ⟨Ext.refl _ _, rfl⟩
              case o1 =>
                intro vs iv wk hx hf
                obtain ⟨⟨hq, -⟩, -⟩ := hf
                have hq : vs 31 = .pointer (some ⟨pt, 4, none⟩) := hq
                have ezz : pt < wk.heap.size := Nat.lt_of_lt_of_le lt hx.size
                have e0 : wk.cell? ⟨pt, 4, none⟩ = some (.slice (some ⟨cv, 0, none⟩) M M) := hx.cell t0 (by simp)
                intro K' hK
                simp only [setA, setT, List.setIfInBounds_toArray, List.set_cons_zero, List.set_cons_succ]
                go_simp
                refine hK.out _ (.slice (some ⟨cv, 0, none⟩) M M) _ ?_ ?_
                · simp only [setA, setT, List.setIfInBounds_toArray, List.set_cons_zero, List.set_cons_succ, Act.put, hq]
                · exact ⟨Ext.refl _ _, rfl⟩
              case o2 =>
                intro vs iv wk hx hf
                intro K' hK
                simp only [setA, setT, List.setIfInBounds_toArray, List.set_cons_zero, List.set_cons_succ]
                go_simp
                refine hK.out _ (.int .i64 s3) _ ?_ ?_
                · simp only [setA, setT, List.setIfInBounds_toArray, List.set_cons_zero, List.set_cons_succ, Act.put]
                · exact ⟨Ext.refl _ _, rfl⟩
              case o3 =>
                intro vs iv wk hx hf
                obtain ⟨⟨hq1, -⟩, ⟨hq2, -⟩, -⟩ := hf
                have hq1 : vs 32 = .slice (some ⟨cv, 0, none⟩) M M := hq1
                have hq2 : vs 33 = .int .i64 s3 := hq2
                intro K' hK
                simp only [setA, setT, List.setIfInBounds_toArray, List.set_cons_zero, List.set_cons_succ]
                go_simp
                refine hK.out _ (.pointer (some ⟨cv, s3, none⟩)) _ ?_ ?_
                · simp only [setA, setT, List.setIfInBounds_toArray, List.set_cons_zero, List.set_cons_succ, Act.put, hq1, hq2]
                · exact ⟨Ext.refl _ _, rfl⟩
              case o4 =>
                intro vs iv wk hx hf
                obtain ⟨⟨hq, -⟩, -⟩ := hf
                have hq : vs 34 = .pointer (some ⟨cv, s3, none⟩) := hq
                have ezz : cv < wk.heap.size := Nat.lt_of_lt_of_le lv hx.size
                have e0 : wk.cell? ⟨cv, s3, none⟩ = some (.int .i64 z0) := hx.cell cc (by simp)
                intro K' hK
                simp only [setA, setT, List.setIfInBounds_toArray, List.set_cons_zero, List.set_cons_succ]
                go_simp
                refine hK.out _ (.int .i64 z0) _ ?_ ?_
                · simp only [setA, setT, List.setIfInBounds_toArray, List.set_cons_zero, List.set_cons_succ, Act.put, hq]
                · exact ⟨Ext.refl _ _, rfl⟩
              case o5 =>
                intro vs iv wk hx hf
                have ezz : w.heap.size + 1 < wk.heap.size := Nat.lt_of_lt_of_le ld hx.size
                have e0 : wk.cell? ⟨w.heap.size + 1, 0, none⟩ = some (.int .i64 (i0 : Int)) := hx.cell d0 (by simp)
                intro K' hK
                simp only [setA, setT, List.setIfInBounds_toArray, List.set_cons_zero, List.set_cons_succ]
                go_simp
                refine hK.out _ (.int .i64 i0) _ ?_ ?_
                · simp only [setA, setT, List.setIfInBounds_toArray, List.set_cons_zero, List.set_cons_succ, Act.put]
                · exact ⟨Ext.refl _ _, rfl⟩
              case o6 =>
                intro vs iv wk hx hf
                obtain ⟨⟨hq1, -⟩, ⟨hq2, -⟩, -⟩ := hf
                have hq1 : vs 35 = .int .i64 z0 := hq1
                have hq2 : vs 36 = .int .i64 i0 := hq2
                intro K' hK
                simp only [setA, setT, List.setIfInBounds_toArray, List.set_cons_zero, List.set_cons_succ]
                go_simp
                refine hK.out _ (.bool ((z0 : Int) != (i0 : Int))) _ ?_ ?_
                · simp only [setA, setT, List.setIfInBounds_toArray, List.set_cons_zero, List.set_cons_succ, Act.put, hq1, hq2]
                · exact ⟨Ext.refl _ _, rfl⟩
            case gR =>
              intro vs iv w5x hx hap hf
              obtain ⟨-, -, -, -, -, -, ⟨hv6, -⟩, -⟩ := hf
              have hv6 : vs 37 = .bool ((z0 : Int) != (i0 : Int)) := hv6
              simp only [setA, setT, List.setIfInBounds_toArray, List.set_cons_zero, List.set_cons_succ, hv6]
              refine ‹∀ a' w', Met _ a' w' → _› _ _ ?_
              refine Met.intro ?_
              refine ‹∀ a' w', _ → _› _ _ ?_
              (repeat apply Exists.intro)
              refine ⟨?_, rfl⟩
              exact ⟨rfl, rfl, rfl, rfl, ((Ext.drew _).trans hx).nil⟩
          case rest =>
            obtain ⟨rfl, rfl, rfl, rfl, hB7⟩ := hcut
            have HI7 := Lib.hid (HI6.out.b hB7)
            have HC7 := Lib.hid (HC6.out.below hB7 HC6.out.lt)
            have HE7 := Lib.hid (HE6.out.trans (Ext.of_below (X := [pt + 1]) hB7))
            have HT7 := Lib.hid (HT6.out.below hB7 HT6.out.lt)
            have HV7 := Lib.hid (rowIs_below HV6.out hB7 HV6.out.lt)
            have HX7 := Lib.hid (HX6.out.below hB7 HX6.out.lt)
            have hz7 := hB7.size
            clear cc t0 lt d0 ld lv hB7
            by_cases hzi : (z0 : Int) = (i0 : Int)
            · have hb : ((z0 : Int) != (i0 : Int)) = false := by simp [hzi]
              rw [hb]
              gi_wp2
              gi_roundg (gk - 1)
              case measure => omega
              case rel => exact ⟨4, 4, by go_num, rfl, by omega, Lib.hid (fun _ => by have := u0.out; have := u1.out; omega), Lib.hid (fun _ => by have := u0.out; have := u1.out; omega), HI7, HC7, HE7, HT7, HV7, HX7⟩
            · have hb : ((z0 : Int) != (i0 : Int)) = true := by simp [hzi]
              rw [hb]
              have hcb : crB z0 z1 i0 i0 = false := by
                rw [Bool.eq_false_iff]
                simp only [ne_eq, crB, Bool.or_eq_true, Bool.and_eq_true, beq_iff_eq]
                omega
              rw [hcb] at HTS
              gi_wp2
              refine ⟨[pt + 1], ⟨rfl, HI7.out.sz, HI7.out.old, ?_, HI7.out.bel⟩, HE7.out, fun b' hb' => ⟨.inl hb', by simp at hb'; omega⟩⟩
              rw [HTS.out]
              exact HC7.out
        · obtain rfl : kz = (4 : Int) := by omega
          clear hkz
          have hcb : crB z0 z1 i0 i0 = true := by
            simp only [crB, Bool.or_eq_true, Bool.and_eq_true, beq_iff_eq]
            have := u0.out (by omega)
            have := u1.out (by omega)
            omega
          rw [hcb] at HTS
          have n0 : wr.cell? ⟨pt + 1, 0, none⟩ = some (.int .i64 (T : Int)) := HC6.out.cellv (i := 0) rfl
          have fn0 := HC6.out.frozen 0
          have ln := HC6.out.lt
          clear t0 d0
          gi_wp2
          refine ⟨[pt + 1], ⟨rfl, by simpa [World.setCell] using HI6.out.sz, fun b' h1 h2 => (Below.heap_setCell _ _ _ _ (by simpa using h2)).trans (HI6.out.old b' h1 h2), ?_, HI6.out.bel.setCell (p := ⟨pt + 1, 0, none⟩) (by simp; omega) _⟩, HE6.out.trans (Ext.set _ _ _ (by simp)), fun b' hb' => by have := hbm b' hb'; simpa [World.setCell] using this⟩
          have h := HC6.out.set 0 (.int .i64 ((T : Int) + 1))
          rw [HTS.out]
          simpa using h
  case done =>
    rintro D X WN hD hX ⟨rfl, hI⟩ hKD
    clear hit
    have HI := Lib.hid hI
    have HKD := Lib.hid hKD
    have hcnt := hI.cnt
    rw [HCJ.out] at hcnt
    have HCN := Lib.hid hcnt
    clear hI hKD hX hcnt
    have q0 : WN.cell? ⟨pt + 1, 0, none⟩ = some (.int .i64 (crF W H f (trE W H f).of (i0 : Int) (i0 : Int) n : Int)) := HCN.out.cellv (i := 0) rfl
    have ln := HCN.out.lt
    gi_wp2
    refine ⟨by simp, .inl ⟨_, _, rfl, run_takeDeferred HKD.out, ?_⟩⟩
    refine ⟨_, ?_, rfl, HI.out.bel.grown (grownBy_putObj' WN D (.deferred none)) HI.out.bel.size (fun j e => by cases e; omega)⟩
    simp [results, Tryd.results36, go_sem]
  case stop =>
    rintro D t k X hD hk h _
    exact h.elim
theorem impl_selfCrossings (w : World) (W H : Int) (A : Option Addr) (n c : Nat) (f : Nat → Int) (s : Int) (hr : Row .i64 w A n c f) (hT : Cel w 0 [.int .i64 1, .int .i64 1, .int .i64 (-1), .int .i64 1, .int .i64 1, .int .i64 (-1)]) (hD : Cel w 2 [.int .i64 (-1), .int .i64 (-1), .int .i64 1, .int .i64 (-1), .int .i64 (-1), .int .i64 1, .int .i64 1, .int .i64 1]) :
    Calls Tryd.prog 36 #[.agg #[.int .i64 W, .int .i64 H, .slice A n c], .int .i64 s] w (Gives (.tuple #[.int .i64 (scV W H n f s), .int .i64 (cuC W H n f s)]) w) := by
  unfold scV
  rcases cu_cases W H n f s with ⟨hv, e⟩ | ⟨hv, hk, e⟩ | ⟨hv, hk, e⟩
  · rw [e]
    exact impl_selfBad w W H A n c f s hr hv
  · rw [e]
    exact impl_selfOut w W H A n c f s hr hT hv hk
  · rw [e, if_pos rfl]
    obtain ⟨u0, u1⟩ := in_yes hk
    obtain ⟨i0, rfl⟩ : ∃ i0 : Nat, s = i0 := ⟨s.toNat, by omega⟩
    exact impl_selfIn w W H A n c f i0 hr hT hD hv hk
end Go.Proofs.YtajikegfladelaaDoor.Base
