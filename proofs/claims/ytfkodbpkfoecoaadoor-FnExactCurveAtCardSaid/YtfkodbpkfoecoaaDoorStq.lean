/-
  StepWalker: spec's and the program's, in a world that holds the table of turns.
-/
import Derived.Test.YtfkodbpkfoecoaaDoorTnB
import Derived.Test.YtfkodbpkfoecoaaDoorShape
namespace Go.Proofs.YtfkodbpkfoecoaaDoor.Base
open Go.RowKit
set_option linter.unusedVariables false
set_option linter.unusedSimpArgs false

set_option maxHeartbeats 2000000 in
theorem implStep0 (w : World) (W H : Int) (A : Option Addr) (n c : Nat) (f : Nat → Int) (x y dx dy : Int) (hr : Row .i64 w A n c f) (hT : Cel w 0 [.int .i64 1, .int .i64 1, .int .i64 (-1), .int .i64 1, .int .i64 1, .int .i64 (-1)]) (hn : (n : Int) = inner W H) (hW : sideB W = true) (hH : sideB H = true) (x1 : 0 ≤ x) (x2 : x ≤ 16) (y1 : 0 ≤ y) (y2 : y ≤ 16) (hx : signB dx = true) (hy : signB dy = true)
    (h3 : hasB W H (x + dx) (y + dy) = true) (ht : tkOf W H f (x + dx) (y + dy) = 0) :
    Calls Tryd.prog 67 #[.agg #[.int .i64 W, .int .i64 H, .slice A n c], .agg #[.int .i64 x, .int .i64 y, .int .i64 dx, .int .i64 dy]] w (Gives (.agg #[.int .i64 (x + dx), .int .i64 (y + dy), .int .i64 dx, .int .i64 dy]) w) := by
  obtain ⟨s1, s2⟩ := sign_bd hx
  obtain ⟨s3, s4⟩ := sign_bd hy
  have HL := Lib.hid (show Below w.heap.size w (((w.alloc (.cells #[.int .i64 W, .int .i64 H, .slice A n c] 26)).alloc (.cells #[.int .i64 x, .int .i64 y, .int .i64 dx, .int .i64 dy] 30)).alloc (.cells #[.int .i64 0, .int .i64 0, .int .i64 0, .int .i64 0] 30)) from (((Below.refl _ _).alloc (Nat.le_refl _) _).alloc (by simp) _).alloc (by simp; omega) _)
  have HR := Lib.hid hr
  have HT := Lib.hid (hT.below HL.out hT.1)
  have HN := Lib.hid hn
  have HK := Lib.hid ht
  clear hr hT hn ht
  go_enter Tryd.func67, Tryd.ntmps67
  go_wp2_with fail
  refine (implNext _ x y dx dy x1 x2 y1 y2 hx hy).mono ?_
  rintro e w1 ⟨rfl, b1⟩
  obtain ⟨hc1, hf1⟩ := bcell b1
  have hz2 : w.heap.size + 1 + 1 < w1.heap.size := by have := b1.size; simp at this; omega
  have hz1 : w.heap.size + 1 < w1.heap.size := by omega
  have hz0 : w.heap.size < w1.heap.size := by omega
  have HT1 := Lib.hid (HT.out.below b1 HT.out.1)
  have HL1 := Lib.hid (HL.out.trans (b1.mono (by first | (simp; done) | (simp; omega))))
  clear b1
  have k0 : w1.cell? ⟨w.heap.size, 0, none⟩ = some (.int .i64 W) := by rw [hc1 _ _ (by first | (simp; done) | (simp; omega))]; simp [go_sem]
  have k1 : w1.cell? ⟨w.heap.size, 1, none⟩ = some (.int .i64 H) := by rw [hc1 _ _ (by first | (simp; done) | (simp; omega))]; simp [go_sem]
  have k2 : w1.cell? ⟨w.heap.size, 2, none⟩ = some (.slice A n c) := by rw [hc1 _ _ (by first | (simp; done) | (simp; omega))]; simp [go_sem]
  have m2 : w1.cell? ⟨w.heap.size + 1, 2, none⟩ = some (.int .i64 dx) := by rw [hc1 _ _ (by first | (simp; done) | (simp; omega))]; simp [go_sem]
  have m3 : w1.cell? ⟨w.heap.size + 1, 3, none⟩ = some (.int .i64 dy) := by rw [hc1 _ _ (by first | (simp; done) | (simp; omega))]; simp [go_sem]
  have q0 : w1.cell? ⟨w.heap.size + 1 + 1, 0, none⟩ = some (.int .i64 0) := by rw [hc1 _ _ (by first | (simp; done) | (simp; omega))]; simp [go_sem]
  have fq0 : w1.frozen? ⟨w.heap.size + 1 + 1, 0, none⟩ = false := by rw [hf1 _ _ (by first | (simp; done) | (simp; omega))]; simp [go_sem]
  have q1 : w1.cell? ⟨w.heap.size + 1 + 1, 1, none⟩ = some (.int .i64 0) := by rw [hc1 _ _ (by first | (simp; done) | (simp; omega))]; simp [go_sem]
  have fq1 : w1.frozen? ⟨w.heap.size + 1 + 1, 1, none⟩ = false := by rw [hf1 _ _ (by first | (simp; done) | (simp; omega))]; simp [go_sem]
  have q2 : w1.cell? ⟨w.heap.size + 1 + 1, 2, none⟩ = some (.int .i64 0) := by rw [hc1 _ _ (by first | (simp; done) | (simp; omega))]; simp [go_sem]
  have fq2 : w1.frozen? ⟨w.heap.size + 1 + 1, 2, none⟩ = false := by rw [hf1 _ _ (by first | (simp; done) | (simp; omega))]; simp [go_sem]
  have q3 : w1.cell? ⟨w.heap.size + 1 + 1, 3, none⟩ = some (.int .i64 0) := by rw [hc1 _ _ (by first | (simp; done) | (simp; omega))]; simp [go_sem]
  have fq3 : w1.frozen? ⟨w.heap.size + 1 + 1, 3, none⟩ = false := by rw [hf1 _ _ (by first | (simp; done) | (simp; omega))]; simp [go_sem]
  clear hc1 hf1
  go_wp2_with fail
  -- the box of the next point
  have bN := (Below.refl w1.heap.size w1).alloc (Nat.le_refl _) (.cells #[.int .i64 (x + dx), .int .i64 (y + dy)] 28)
  have HP := Lib.hid (Cel.new w1 [.int .i64 (x + dx), .int .i64 (y + dy)] 28)
  have HT2 := Lib.hid (HT1.out.below bN HT1.out.1)
  have HL2 := Lib.hid (HL1.out.trans (bN.mono HL1.out.size))
  have zN : w1.heap.size < (w1.alloc (.cells #[.int .i64 (x + dx), .int .i64 (y + dy)] 28)).heap.size := by simp
  have m2' := (bN.cell (p := ⟨w.heap.size + 1, 2, none⟩) hz1).trans m2
  have m3' := (bN.cell (p := ⟨w.heap.size + 1, 3, none⟩) hz1).trans m3
  have q0' := (bN.cell (p := ⟨w.heap.size + 1 + 1, 0, none⟩) hz2).trans q0
  have q1' := (bN.cell (p := ⟨w.heap.size + 1 + 1, 1, none⟩) hz2).trans q1
  have q2' := (bN.cell (p := ⟨w.heap.size + 1 + 1, 2, none⟩) hz2).trans q2
  have q3' := (bN.cell (p := ⟨w.heap.size + 1 + 1, 3, none⟩) hz2).trans q3
  have fq0' := (bN.frozen (p := ⟨w.heap.size + 1 + 1, 0, none⟩) hz2).trans fq0
  have fq1' := (bN.frozen (p := ⟨w.heap.size + 1 + 1, 1, none⟩) hz2).trans fq1
  have fq2' := (bN.frozen (p := ⟨w.heap.size + 1 + 1, 2, none⟩) hz2).trans fq2
  have fq3' := (bN.frozen (p := ⟨w.heap.size + 1 + 1, 3, none⟩) hz2).trans fq3
  clear bN k0 k1 k2 m2 m3 q0 q1 q2 q3 fq0 fq1 fq2 fq3
  generalize w1.alloc (.cells #[.int .i64 (x + dx), .int .i64 (y + dy)] 28) = w2 at *
  generalize w1.heap.size = bP at *
  have hz2' : w.heap.size + 1 + 1 < w2.heap.size := by omega
  have hz1' : w.heap.size + 1 < w2.heap.size := by omega
  refine (implTurn _ W H A n c f (x + dx) (y + dy) (HR.out.below HL2.out (Nat.le_refl _)) HN.out hW hH h3).mono ?_
  rintro e w3 ⟨rfl, b3⟩
  rw [HK.out]
  have HT3 := Lib.hid (HT2.out.below b3 HT2.out.1)
  have HL3 := Lib.hid (HL2.out.trans (b3.mono HL2.out.size))
  have HP3 := Lib.hid (HP.out.below b3 HP.out.1)
  have m2'' := (b3.cell (p := ⟨w.heap.size + 1, 2, none⟩) hz1').trans m2'
  have m3'' := (b3.cell (p := ⟨w.heap.size + 1, 3, none⟩) hz1').trans m3'
  have q0'' := (b3.cell (p := ⟨w.heap.size + 1 + 1, 0, none⟩) hz2').trans q0'
  have q1'' := (b3.cell (p := ⟨w.heap.size + 1 + 1, 1, none⟩) hz2').trans q1'
  have q2'' := (b3.cell (p := ⟨w.heap.size + 1 + 1, 2, none⟩) hz2').trans q2'
  have q3'' := (b3.cell (p := ⟨w.heap.size + 1 + 1, 3, none⟩) hz2').trans q3'
  have fq0'' := (b3.frozen (p := ⟨w.heap.size + 1 + 1, 0, none⟩) hz2').trans fq0'
  have fq1'' := (b3.frozen (p := ⟨w.heap.size + 1 + 1, 1, none⟩) hz2').trans fq1'
  have fq2'' := (b3.frozen (p := ⟨w.heap.size + 1 + 1, 2, none⟩) hz2').trans fq2'
  have fq3'' := (b3.frozen (p := ⟨w.heap.size + 1 + 1, 3, none⟩) hz2').trans fq3'
  have z3 := b3.size
  clear b3 m2' m3' q0' q1' q2' q3' fq0' fq1' fq2' fq3'
  have p0 := HP3.out.2 0 _ rfl
  have p1 := HP3.out.2 1 _ rfl
  have hp3 := Nat.ne_of_lt HP3.out.1
  have hp4 := HP3.out.1
  have hp5 : w.heap.size + 1 < w3.heap.size := by omega
  have hp6 : w.heap.size + 1 + 1 < w3.heap.size := by omega
  have g0 := HT3.out.2 0 _ rfl
  have g1 := HT3.out.2 1 _ rfl
  have hne1 : w.heap.size + 1 ≠ w3.heap.size := by omega
  have hne2 : w.heap.size + 1 + 1 ≠ w3.heap.size := by omega
  go_wp2
  refine bodyPost_ret ?_ rfl ⟨rfl, ((((HL3.out.setCell (by first | (simp; done) | (simp; omega)) _).setCell (by first | (simp; done) | (simp; omega)) _).setCell (by first | (simp; done) | (simp; omega)) _).setCell (by first | (simp; done) | (simp; omega)) _).alloc (by first | (simp; done) | (simp; omega)) _⟩
  simp [results, Tryd.results67, go_sem, q0'', q1'', q2'', q3'', hp6, World.cell?_alloc_lt]

set_option maxHeartbeats 2000000 in
theorem implStep1 (w : World) (W H : Int) (A : Option Addr) (n c : Nat) (f : Nat → Int) (x y dx dy : Int) (hr : Row .i64 w A n c f) (hT : Cel w 0 [.int .i64 1, .int .i64 1, .int .i64 (-1), .int .i64 1, .int .i64 1, .int .i64 (-1)]) (hn : (n : Int) = inner W H) (hW : sideB W = true) (hH : sideB H = true) (x1 : 0 ≤ x) (x2 : x ≤ 16) (y1 : 0 ≤ y) (y2 : y ≤ 16) (hx : signB dx = true) (hy : signB dy = true)
    (h3 : hasB W H (x + dx) (y + dy) = true) (ht : tkOf W H f (x + dx) (y + dy) = 1) :
    Calls Tryd.prog 67 #[.agg #[.int .i64 W, .int .i64 H, .slice A n c], .agg #[.int .i64 x, .int .i64 y, .int .i64 dx, .int .i64 dy]] w (Gives (.agg #[.int .i64 (x + dx), .int .i64 (y + dy), .int .i64 (-dx), .int .i64 dy]) w) := by
  obtain ⟨s1, s2⟩ := sign_bd hx
  obtain ⟨s3, s4⟩ := sign_bd hy
  have HL := Lib.hid (show Below w.heap.size w (((w.alloc (.cells #[.int .i64 W, .int .i64 H, .slice A n c] 26)).alloc (.cells #[.int .i64 x, .int .i64 y, .int .i64 dx, .int .i64 dy] 30)).alloc (.cells #[.int .i64 0, .int .i64 0, .int .i64 0, .int .i64 0] 30)) from (((Below.refl _ _).alloc (Nat.le_refl _) _).alloc (by simp) _).alloc (by simp; omega) _)
  have HR := Lib.hid hr
  have HT := Lib.hid (hT.below HL.out hT.1)
  have HN := Lib.hid hn
  have HK := Lib.hid ht
  clear hr hT hn ht
  go_enter Tryd.func67, Tryd.ntmps67
  go_wp2_with fail
  refine (implNext _ x y dx dy x1 x2 y1 y2 hx hy).mono ?_
  rintro e w1 ⟨rfl, b1⟩
  obtain ⟨hc1, hf1⟩ := bcell b1
  have hz2 : w.heap.size + 1 + 1 < w1.heap.size := by have := b1.size; simp at this; omega
  have hz1 : w.heap.size + 1 < w1.heap.size := by omega
  have hz0 : w.heap.size < w1.heap.size := by omega
  have HT1 := Lib.hid (HT.out.below b1 HT.out.1)
  have HL1 := Lib.hid (HL.out.trans (b1.mono (by first | (simp; done) | (simp; omega))))
  clear b1
  have k0 : w1.cell? ⟨w.heap.size, 0, none⟩ = some (.int .i64 W) := by rw [hc1 _ _ (by first | (simp; done) | (simp; omega))]; simp [go_sem]
  have k1 : w1.cell? ⟨w.heap.size, 1, none⟩ = some (.int .i64 H) := by rw [hc1 _ _ (by first | (simp; done) | (simp; omega))]; simp [go_sem]
  have k2 : w1.cell? ⟨w.heap.size, 2, none⟩ = some (.slice A n c) := by rw [hc1 _ _ (by first | (simp; done) | (simp; omega))]; simp [go_sem]
  have m2 : w1.cell? ⟨w.heap.size + 1, 2, none⟩ = some (.int .i64 dx) := by rw [hc1 _ _ (by first | (simp; done) | (simp; omega))]; simp [go_sem]
  have m3 : w1.cell? ⟨w.heap.size + 1, 3, none⟩ = some (.int .i64 dy) := by rw [hc1 _ _ (by first | (simp; done) | (simp; omega))]; simp [go_sem]
  have q0 : w1.cell? ⟨w.heap.size + 1 + 1, 0, none⟩ = some (.int .i64 0) := by rw [hc1 _ _ (by first | (simp; done) | (simp; omega))]; simp [go_sem]
  have fq0 : w1.frozen? ⟨w.heap.size + 1 + 1, 0, none⟩ = false := by rw [hf1 _ _ (by first | (simp; done) | (simp; omega))]; simp [go_sem]
  have q1 : w1.cell? ⟨w.heap.size + 1 + 1, 1, none⟩ = some (.int .i64 0) := by rw [hc1 _ _ (by first | (simp; done) | (simp; omega))]; simp [go_sem]
  have fq1 : w1.frozen? ⟨w.heap.size + 1 + 1, 1, none⟩ = false := by rw [hf1 _ _ (by first | (simp; done) | (simp; omega))]; simp [go_sem]
  have q2 : w1.cell? ⟨w.heap.size + 1 + 1, 2, none⟩ = some (.int .i64 0) := by rw [hc1 _ _ (by first | (simp; done) | (simp; omega))]; simp [go_sem]
  have fq2 : w1.frozen? ⟨w.heap.size + 1 + 1, 2, none⟩ = false := by rw [hf1 _ _ (by first | (simp; done) | (simp; omega))]; simp [go_sem]
  have q3 : w1.cell? ⟨w.heap.size + 1 + 1, 3, none⟩ = some (.int .i64 0) := by rw [hc1 _ _ (by first | (simp; done) | (simp; omega))]; simp [go_sem]
  have fq3 : w1.frozen? ⟨w.heap.size + 1 + 1, 3, none⟩ = false := by rw [hf1 _ _ (by first | (simp; done) | (simp; omega))]; simp [go_sem]
  clear hc1 hf1
  go_wp2_with fail
  -- the box of the next point
  have bN := (Below.refl w1.heap.size w1).alloc (Nat.le_refl _) (.cells #[.int .i64 (x + dx), .int .i64 (y + dy)] 28)
  have HP := Lib.hid (Cel.new w1 [.int .i64 (x + dx), .int .i64 (y + dy)] 28)
  have HT2 := Lib.hid (HT1.out.below bN HT1.out.1)
  have HL2 := Lib.hid (HL1.out.trans (bN.mono HL1.out.size))
  have zN : w1.heap.size < (w1.alloc (.cells #[.int .i64 (x + dx), .int .i64 (y + dy)] 28)).heap.size := by simp
  have m2' := (bN.cell (p := ⟨w.heap.size + 1, 2, none⟩) hz1).trans m2
  have m3' := (bN.cell (p := ⟨w.heap.size + 1, 3, none⟩) hz1).trans m3
  have q0' := (bN.cell (p := ⟨w.heap.size + 1 + 1, 0, none⟩) hz2).trans q0
  have q1' := (bN.cell (p := ⟨w.heap.size + 1 + 1, 1, none⟩) hz2).trans q1
  have q2' := (bN.cell (p := ⟨w.heap.size + 1 + 1, 2, none⟩) hz2).trans q2
  have q3' := (bN.cell (p := ⟨w.heap.size + 1 + 1, 3, none⟩) hz2).trans q3
  have fq0' := (bN.frozen (p := ⟨w.heap.size + 1 + 1, 0, none⟩) hz2).trans fq0
  have fq1' := (bN.frozen (p := ⟨w.heap.size + 1 + 1, 1, none⟩) hz2).trans fq1
  have fq2' := (bN.frozen (p := ⟨w.heap.size + 1 + 1, 2, none⟩) hz2).trans fq2
  have fq3' := (bN.frozen (p := ⟨w.heap.size + 1 + 1, 3, none⟩) hz2).trans fq3
  clear bN k0 k1 k2 m2 m3 q0 q1 q2 q3 fq0 fq1 fq2 fq3
  generalize w1.alloc (.cells #[.int .i64 (x + dx), .int .i64 (y + dy)] 28) = w2 at *
  generalize w1.heap.size = bP at *
  have hz2' : w.heap.size + 1 + 1 < w2.heap.size := by omega
  have hz1' : w.heap.size + 1 < w2.heap.size := by omega
  refine (implTurn _ W H A n c f (x + dx) (y + dy) (HR.out.below HL2.out (Nat.le_refl _)) HN.out hW hH h3).mono ?_
  rintro e w3 ⟨rfl, b3⟩
  rw [HK.out]
  have HT3 := Lib.hid (HT2.out.below b3 HT2.out.1)
  have HL3 := Lib.hid (HL2.out.trans (b3.mono HL2.out.size))
  have HP3 := Lib.hid (HP.out.below b3 HP.out.1)
  have m2'' := (b3.cell (p := ⟨w.heap.size + 1, 2, none⟩) hz1').trans m2'
  have m3'' := (b3.cell (p := ⟨w.heap.size + 1, 3, none⟩) hz1').trans m3'
  have q0'' := (b3.cell (p := ⟨w.heap.size + 1 + 1, 0, none⟩) hz2').trans q0'
  have q1'' := (b3.cell (p := ⟨w.heap.size + 1 + 1, 1, none⟩) hz2').trans q1'
  have q2'' := (b3.cell (p := ⟨w.heap.size + 1 + 1, 2, none⟩) hz2').trans q2'
  have q3'' := (b3.cell (p := ⟨w.heap.size + 1 + 1, 3, none⟩) hz2').trans q3'
  have fq0'' := (b3.frozen (p := ⟨w.heap.size + 1 + 1, 0, none⟩) hz2').trans fq0'
  have fq1'' := (b3.frozen (p := ⟨w.heap.size + 1 + 1, 1, none⟩) hz2').trans fq1'
  have fq2'' := (b3.frozen (p := ⟨w.heap.size + 1 + 1, 2, none⟩) hz2').trans fq2'
  have fq3'' := (b3.frozen (p := ⟨w.heap.size + 1 + 1, 3, none⟩) hz2').trans fq3'
  have z3 := b3.size
  clear b3 m2' m3' q0' q1' q2' q3' fq0' fq1' fq2' fq3'
  have p0 := HP3.out.2 0 _ rfl
  have p1 := HP3.out.2 1 _ rfl
  have hp3 := Nat.ne_of_lt HP3.out.1
  have hp4 := HP3.out.1
  have hp5 : w.heap.size + 1 < w3.heap.size := by omega
  have hp6 : w.heap.size + 1 + 1 < w3.heap.size := by omega
  have g0 := HT3.out.2 2 _ rfl
  have g1 := HT3.out.2 3 _ rfl
  have hne1 : w.heap.size + 1 ≠ w3.heap.size := by omega
  have hne2 : w.heap.size + 1 + 1 ≠ w3.heap.size := by omega
  go_wp2
  refine bodyPost_ret ?_ rfl ⟨rfl, ((((HL3.out.setCell (by first | (simp; done) | (simp; omega)) _).setCell (by first | (simp; done) | (simp; omega)) _).setCell (by first | (simp; done) | (simp; omega)) _).setCell (by first | (simp; done) | (simp; omega)) _).alloc (by first | (simp; done) | (simp; omega)) _⟩
  simp [results, Tryd.results67, go_sem, q0'', q1'', q2'', q3'', hp6, World.cell?_alloc_lt]

set_option maxHeartbeats 2000000 in
theorem implStep2 (w : World) (W H : Int) (A : Option Addr) (n c : Nat) (f : Nat → Int) (x y dx dy : Int) (hr : Row .i64 w A n c f) (hT : Cel w 0 [.int .i64 1, .int .i64 1, .int .i64 (-1), .int .i64 1, .int .i64 1, .int .i64 (-1)]) (hn : (n : Int) = inner W H) (hW : sideB W = true) (hH : sideB H = true) (x1 : 0 ≤ x) (x2 : x ≤ 16) (y1 : 0 ≤ y) (y2 : y ≤ 16) (hx : signB dx = true) (hy : signB dy = true)
    (h3 : hasB W H (x + dx) (y + dy) = true) (ht : tkOf W H f (x + dx) (y + dy) = 2) :
    Calls Tryd.prog 67 #[.agg #[.int .i64 W, .int .i64 H, .slice A n c], .agg #[.int .i64 x, .int .i64 y, .int .i64 dx, .int .i64 dy]] w (Gives (.agg #[.int .i64 (x + dx), .int .i64 (y + dy), .int .i64 dx, .int .i64 (-dy)]) w) := by
  obtain ⟨s1, s2⟩ := sign_bd hx
  obtain ⟨s3, s4⟩ := sign_bd hy
  have HL := Lib.hid (show Below w.heap.size w (((w.alloc (.cells #[.int .i64 W, .int .i64 H, .slice A n c] 26)).alloc (.cells #[.int .i64 x, .int .i64 y, .int .i64 dx, .int .i64 dy] 30)).alloc (.cells #[.int .i64 0, .int .i64 0, .int .i64 0, .int .i64 0] 30)) from (((Below.refl _ _).alloc (Nat.le_refl _) _).alloc (by simp) _).alloc (by simp; omega) _)
  have HR := Lib.hid hr
  have HT := Lib.hid (hT.below HL.out hT.1)
  have HN := Lib.hid hn
  have HK := Lib.hid ht
  clear hr hT hn ht
  go_enter Tryd.func67, Tryd.ntmps67
  go_wp2_with fail
  refine (implNext _ x y dx dy x1 x2 y1 y2 hx hy).mono ?_
  rintro e w1 ⟨rfl, b1⟩
  obtain ⟨hc1, hf1⟩ := bcell b1
  have hz2 : w.heap.size + 1 + 1 < w1.heap.size := by have := b1.size; simp at this; omega
  have hz1 : w.heap.size + 1 < w1.heap.size := by omega
  have hz0 : w.heap.size < w1.heap.size := by omega
  have HT1 := Lib.hid (HT.out.below b1 HT.out.1)
  have HL1 := Lib.hid (HL.out.trans (b1.mono (by first | (simp; done) | (simp; omega))))
  clear b1
  have k0 : w1.cell? ⟨w.heap.size, 0, none⟩ = some (.int .i64 W) := by rw [hc1 _ _ (by first | (simp; done) | (simp; omega))]; simp [go_sem]
  have k1 : w1.cell? ⟨w.heap.size, 1, none⟩ = some (.int .i64 H) := by rw [hc1 _ _ (by first | (simp; done) | (simp; omega))]; simp [go_sem]
  have k2 : w1.cell? ⟨w.heap.size, 2, none⟩ = some (.slice A n c) := by rw [hc1 _ _ (by first | (simp; done) | (simp; omega))]; simp [go_sem]
  have m2 : w1.cell? ⟨w.heap.size + 1, 2, none⟩ = some (.int .i64 dx) := by rw [hc1 _ _ (by first | (simp; done) | (simp; omega))]; simp [go_sem]
  have m3 : w1.cell? ⟨w.heap.size + 1, 3, none⟩ = some (.int .i64 dy) := by rw [hc1 _ _ (by first | (simp; done) | (simp; omega))]; simp [go_sem]
  have q0 : w1.cell? ⟨w.heap.size + 1 + 1, 0, none⟩ = some (.int .i64 0) := by rw [hc1 _ _ (by first | (simp; done) | (simp; omega))]; simp [go_sem]
  have fq0 : w1.frozen? ⟨w.heap.size + 1 + 1, 0, none⟩ = false := by rw [hf1 _ _ (by first | (simp; done) | (simp; omega))]; simp [go_sem]
  have q1 : w1.cell? ⟨w.heap.size + 1 + 1, 1, none⟩ = some (.int .i64 0) := by rw [hc1 _ _ (by first | (simp; done) | (simp; omega))]; simp [go_sem]
  have fq1 : w1.frozen? ⟨w.heap.size + 1 + 1, 1, none⟩ = false := by rw [hf1 _ _ (by first | (simp; done) | (simp; omega))]; simp [go_sem]
  have q2 : w1.cell? ⟨w.heap.size + 1 + 1, 2, none⟩ = some (.int .i64 0) := by rw [hc1 _ _ (by first | (simp; done) | (simp; omega))]; simp [go_sem]
  have fq2 : w1.frozen? ⟨w.heap.size + 1 + 1, 2, none⟩ = false := by rw [hf1 _ _ (by first | (simp; done) | (simp; omega))]; simp [go_sem]
  have q3 : w1.cell? ⟨w.heap.size + 1 + 1, 3, none⟩ = some (.int .i64 0) := by rw [hc1 _ _ (by first | (simp; done) | (simp; omega))]; simp [go_sem]
  have fq3 : w1.frozen? ⟨w.heap.size + 1 + 1, 3, none⟩ = false := by rw [hf1 _ _ (by first | (simp; done) | (simp; omega))]; simp [go_sem]
  clear hc1 hf1
  go_wp2_with fail
  -- the box of the next point
  have bN := (Below.refl w1.heap.size w1).alloc (Nat.le_refl _) (.cells #[.int .i64 (x + dx), .int .i64 (y + dy)] 28)
  have HP := Lib.hid (Cel.new w1 [.int .i64 (x + dx), .int .i64 (y + dy)] 28)
  have HT2 := Lib.hid (HT1.out.below bN HT1.out.1)
  have HL2 := Lib.hid (HL1.out.trans (bN.mono HL1.out.size))
  have zN : w1.heap.size < (w1.alloc (.cells #[.int .i64 (x + dx), .int .i64 (y + dy)] 28)).heap.size := by simp
  have m2' := (bN.cell (p := ⟨w.heap.size + 1, 2, none⟩) hz1).trans m2
  have m3' := (bN.cell (p := ⟨w.heap.size + 1, 3, none⟩) hz1).trans m3
  have q0' := (bN.cell (p := ⟨w.heap.size + 1 + 1, 0, none⟩) hz2).trans q0
  have q1' := (bN.cell (p := ⟨w.heap.size + 1 + 1, 1, none⟩) hz2).trans q1
  have q2' := (bN.cell (p := ⟨w.heap.size + 1 + 1, 2, none⟩) hz2).trans q2
  have q3' := (bN.cell (p := ⟨w.heap.size + 1 + 1, 3, none⟩) hz2).trans q3
  have fq0' := (bN.frozen (p := ⟨w.heap.size + 1 + 1, 0, none⟩) hz2).trans fq0
  have fq1' := (bN.frozen (p := ⟨w.heap.size + 1 + 1, 1, none⟩) hz2).trans fq1
  have fq2' := (bN.frozen (p := ⟨w.heap.size + 1 + 1, 2, none⟩) hz2).trans fq2
  have fq3' := (bN.frozen (p := ⟨w.heap.size + 1 + 1, 3, none⟩) hz2).trans fq3
  clear bN k0 k1 k2 m2 m3 q0 q1 q2 q3 fq0 fq1 fq2 fq3
  generalize w1.alloc (.cells #[.int .i64 (x + dx), .int .i64 (y + dy)] 28) = w2 at *
  generalize w1.heap.size = bP at *
  have hz2' : w.heap.size + 1 + 1 < w2.heap.size := by omega
  have hz1' : w.heap.size + 1 < w2.heap.size := by omega
  refine (implTurn _ W H A n c f (x + dx) (y + dy) (HR.out.below HL2.out (Nat.le_refl _)) HN.out hW hH h3).mono ?_
  rintro e w3 ⟨rfl, b3⟩
  rw [HK.out]
  have HT3 := Lib.hid (HT2.out.below b3 HT2.out.1)
  have HL3 := Lib.hid (HL2.out.trans (b3.mono HL2.out.size))
  have HP3 := Lib.hid (HP.out.below b3 HP.out.1)
  have m2'' := (b3.cell (p := ⟨w.heap.size + 1, 2, none⟩) hz1').trans m2'
  have m3'' := (b3.cell (p := ⟨w.heap.size + 1, 3, none⟩) hz1').trans m3'
  have q0'' := (b3.cell (p := ⟨w.heap.size + 1 + 1, 0, none⟩) hz2').trans q0'
  have q1'' := (b3.cell (p := ⟨w.heap.size + 1 + 1, 1, none⟩) hz2').trans q1'
  have q2'' := (b3.cell (p := ⟨w.heap.size + 1 + 1, 2, none⟩) hz2').trans q2'
  have q3'' := (b3.cell (p := ⟨w.heap.size + 1 + 1, 3, none⟩) hz2').trans q3'
  have fq0'' := (b3.frozen (p := ⟨w.heap.size + 1 + 1, 0, none⟩) hz2').trans fq0'
  have fq1'' := (b3.frozen (p := ⟨w.heap.size + 1 + 1, 1, none⟩) hz2').trans fq1'
  have fq2'' := (b3.frozen (p := ⟨w.heap.size + 1 + 1, 2, none⟩) hz2').trans fq2'
  have fq3'' := (b3.frozen (p := ⟨w.heap.size + 1 + 1, 3, none⟩) hz2').trans fq3'
  have z3 := b3.size
  clear b3 m2' m3' q0' q1' q2' q3' fq0' fq1' fq2' fq3'
  have p0 := HP3.out.2 0 _ rfl
  have p1 := HP3.out.2 1 _ rfl
  have hp3 := Nat.ne_of_lt HP3.out.1
  have hp4 := HP3.out.1
  have hp5 : w.heap.size + 1 < w3.heap.size := by omega
  have hp6 : w.heap.size + 1 + 1 < w3.heap.size := by omega
  have g0 := HT3.out.2 4 _ rfl
  have g1 := HT3.out.2 5 _ rfl
  have hne1 : w.heap.size + 1 ≠ w3.heap.size := by omega
  have hne2 : w.heap.size + 1 + 1 ≠ w3.heap.size := by omega
  go_wp2
  refine bodyPost_ret ?_ rfl ⟨rfl, ((((HL3.out.setCell (by first | (simp; done) | (simp; omega)) _).setCell (by first | (simp; done) | (simp; omega)) _).setCell (by first | (simp; done) | (simp; omega)) _).setCell (by first | (simp; done) | (simp; omega)) _).alloc (by first | (simp; done) | (simp; omega)) _⟩
  simp [results, Tryd.results67, go_sem, q0'', q1'', q2'', q3'', hp6, World.cell?_alloc_lt]

theorem implStep (w : World) (W H : Int) (A : Option Addr) (n c : Nat) (f : Nat → Int) (x y dx dy : Int) (hr : Row .i64 w A n c f) (hT : Cel w 0 [.int .i64 1, .int .i64 1, .int .i64 (-1), .int .i64 1, .int .i64 1, .int .i64 (-1)]) (hn : (n : Int) = inner W H) (hW : sideB W = true) (hH : sideB H = true) (x1 : 0 ≤ x) (x2 : x ≤ 16) (y1 : 0 ≤ y) (y2 : y ≤ 16) (hx : signB dx = true) (hy : signB dy = true)
    (h3 : hasB W H (x + dx) (y + dy) = true) (hK : kindsB n f = true) :
    Calls Tryd.prog 67 #[.agg #[.int .i64 W, .int .i64 H, .slice A n c], .agg #[.int .i64 x, .int .i64 y, .int .i64 dx, .int .i64 dy]] w (Gives (.agg #[.int .i64 (x + dx), .int .i64 (y + dy), .int .i64 (stDX W H f x y dx dy), .int .i64 (stDY W H f x y dx dy)]) w) := by
  unfold stDX stDY
  rcases tk_kind hn hK hW hH h3 with h | h | h
  · rw [h, if_neg (by omega), if_neg (by omega)]
    exact implStep0 w W H A n c f x y dx dy hr hT hn hW hH x1 x2 y1 y2 hx hy h3 h
  · rw [h, if_pos rfl, if_neg (by omega)]
    exact implStep1 w W H A n c f x y dx dy hr hT hn hW hH x1 x2 y1 y2 hx hy h3 h
  · rw [h, if_neg (by omega), if_pos rfl]
    exact implStep2 w W H A n c f x y dx dy hr hT hn hW hH x1 x2 y1 y2 hx hy h3 h

set_option maxHeartbeats 1000000 in
theorem impl_stepWalker (w : World) (W H : Int) (A : Option Addr) (n c : Nat) (f : Nat → Int) (x y dx dy : Int) (hr : Row .i64 w A n c f) (hT : Cel w 0 [.int .i64 1, .int .i64 1, .int .i64 (-1), .int .i64 1, .int .i64 1, .int .i64 (-1)]) :
    Calls Tryd.prog 16 #[.agg #[.int .i64 W, .int .i64 H, .slice A n c], .agg #[.int .i64 x, .int .i64 y, .int .i64 dx, .int .i64 dy]] w (Gives (.tuple #[.agg #[.int .i64 (bkV W H n f x y dx dy (x + dx)), .int .i64 (bkV W H n f x y dx dy (y + dy)), .int .i64 (bkV W H n f x y dx dy (stDX W H f x y dx dy)), .int .i64 (bkV W H n f x y dx dy (stDY W H f x y dx dy))], .int .i64 (wkC W H n f x y dx dy)]) w) := by
  have HL := Lib.hid (show Below w.heap.size w (((w.alloc (.cells #[.int .i64 W, .int .i64 H, .slice A n c] 26)).alloc (.cells #[.int .i64 x, .int .i64 y, .int .i64 dx, .int .i64 dy] 30)).alloc (.cells #[.int .i64 0, .int .i64 0, .int .i64 0, .int .i64 0] 30)) from (((Below.refl _ _).alloc (Nat.le_refl _) _).alloc (by simp) _).alloc (by simp; omega) _)
  have HR := Lib.hid hr
  have HT := Lib.hid (hT.below HL.out hT.1)
  clear hr hT
  cases hw : wkB W H n f x y dx dy
  · simp only [bkV_no hw, wkC_no hw]
    have HC := Lib.hid hw
    clear hw
    go_enter Tryd.func16, Tryd.ntmps16
    go_wp2_with fail
    refine (implW_is HC.out (HR.out.below HL.out (Nat.le_refl _))).mono ?_
    rintro e w1 ⟨rfl, b1⟩
    obtain ⟨hc1, hf1⟩ := bcell b1
    go_wp2
    refine bodyPost_ret ?_ rfl ⟨rfl, ((((HL.out.trans (b1.mono (by first | (simp; done) | (simp; omega)))).setCell (by first | (simp; done) | (simp; omega)) _).setCell (by first | (simp; done) | (simp; omega)) _).setCell (by first | (simp; done) | (simp; omega)) _).setCell (by first | (simp; done) | (simp; omega)) _⟩
    simp [results, Tryd.results16, go_sem, hc1]
  · obtain ⟨hW, hH, x1, x2, y1, y2, g1, g2⟩ := goW hw
    obtain ⟨h4, -⟩ := goNext hw
    obtain ⟨hn, hK⟩ := goAll hw
    simp only [bkV_yes hw, wkC_yes hw]
    have HC := Lib.hid hw
    have HN := Lib.hid hn
    clear hw hn
    go_enter Tryd.func16, Tryd.ntmps16
    go_wp2_with fail
    refine (implW_is HC.out (HR.out.below HL.out (Nat.le_refl _))).mono ?_
    rintro e w1 ⟨rfl, b1⟩
    obtain ⟨hc1, hf1⟩ := bcell b1
    have HT1 := Lib.hid (HT.out.below b1 HT.out.1)
    have HB1 := Lib.hid (HL.out.trans (b1.mono (by first | (simp; done) | (simp; omega))))
    go_wp2_with fail
    refine (implStep _ W H A n c f x y dx dy (HR.out.below HB1.out (Nat.le_refl _)) HT1.out HN.out hW hH x1 x2 y1 y2 g1 g2 h4 hK).mono ?_
    rintro e w2 ⟨rfl, b2⟩
    have b12 := b1.trans (b2.mono b1.size)
    clear hc1 hf1
    obtain ⟨hc1, hf1⟩ := bcell b12
    clear b1 b2
    go_wp2
    refine bodyPost_ret ?_ rfl ⟨rfl, ((((HL.out.trans (b12.mono (by first | (simp; done) | (simp; omega)))).setCell (by first | (simp; done) | (simp; omega)) _).setCell (by first | (simp; done) | (simp; omega)) _).setCell (by first | (simp; done) | (simp; omega)) _).setCell (by first | (simp; done) | (simp; omega)) _⟩
    simp [results, Tryd.results16, go_sem, hc1]
end Go.Proofs.YtfkodbpkfoecoaaDoor.Base
