/-
  The program's reader of pictures: the size of a picture.
-/
import Derived.Test.YtdofeonkgaceeacDoorFlm
import Derived.Test.YtdofeonkgaceeacDoorFls
import Derived.Test.YtdofeonkgaceeacDoorBase
namespace Go.Proofs.YtdofeonkgaceeacDoor.Base
open Go Go.RowKit
open Go.PlainAid (bt get_bt bt_nonneg bt_le)
set_option linter.unusedVariables false
set_option linter.unusedSimpArgs false

/-- what pictureSize answers -/
def SizeOut (n : Nat) (g : Nat → ByteArray) (w : World) (e : Ending) (w' : World) : Prop :=
  ∃ a b : Int, e = .returned (.tuple #[.agg #[.int .i64 a, .int .i64 b], .bool (szB n g)]) ∧ (szB n g = true → a = (((g 0).size / 2 : Nat) : Int) ∧ b = ((n / 2 : Nat) : Int)) ∧ Below w.heap.size w w'
set_option maxHeartbeats 1000000 in
theorem impl_picSize (w : World) (A : Option Addr) (n c : Nat) (g : Nat → ByteArray) (hr : VRow w A n c (fun i => .string (g i))) (hn : n ≤ 1048576) (hg : ∀ i, i < n → (g i).size ≤ 1048576) :
    Calls Tryd.prog 77 #[.slice A n c] w (SizeOut n g w) := by
  have hm := tmod2 n
  have bN := (Below.refl w.heap.size w).alloc (Nat.le_refl _) (.cells #[.int .i64 0, .int .i64 0] 84)
  have HL := Lib.hid bN
  by_cases h1 : n % 2 = 0
  · have HF : szB n g = false := by simp [szB, h1]
    have e1 : ((n : Int).tmod 2 == 0) = true := by rw [hm, decide_eq_true h1]
    have e2 : ((n : Int) % 2 == 0) = true := beq_iff_eq.2 (by omega)
    unfold SizeOut
    rw [HF]
    clear hm h1 hg bN HF
    go_enter Tryd.func77, Tryd.ntmps77
    go_wp2
    refine bodyPost_ret ?_ rfl ⟨0, 0, rfl, (fun h => by cases h), HL.out⟩
    simp [results, Tryd.results77, go_sem]
  · have e1 : ((n : Int).tmod 2 == 0) = false := by rw [hm, decide_eq_false h1]
    have e2 : ((n : Int) % 2 == 0) = false := beq_eq_false_iff_ne.2 (by omega)
    have e3 : (n : Int).tdiv 2 = ((n / 2 : Nat) : Int) := rfl
    obtain ⟨b, hb⟩ : ∃ b, n / 2 = b := ⟨_, rfl⟩
    rw [hb] at e3
    have hb20 : b ≤ 1048576 := by omega
    have hn0 : 0 < n := by omega
    obtain ⟨bA, oA, rfl, hbA, hcA⟩ := hr.2.2 hn0
    have hnc := hr.1
    have hcm := hr.2.1
    unfold maxLen at hcm
    have s0 : w.cell? ⟨bA, oA + 0, none⟩ = some (.string (g 0)) := hcA 0 hn0
    have hg0 := hg 0 hn0
    obtain ⟨M, hM⟩ : ∃ M, (g 0).size = M := ⟨_, rfl⟩
    have hm2 := tmod2 M
    rw [hM] at hg0
    have hi0 : (0 : Int) < (n : Int) := by omega
    obtain ⟨g0, hg00⟩ : ∃ x, g 0 = x := ⟨_, rfl⟩
    rw [hg00] at s0
    have hM0 : g0.size = M := by rw [← hg00]; exact hM
    have s1 : (w.alloc (.cells #[.int .i64 0, .int .i64 0] 84)).cell? ⟨bA, oA, none⟩ = some (.string g0) := cell_be s0 bN hbA
    have hbA1 : bA < w.heap.size + 1 := by omega
    by_cases k1 : M % 2 = 0
    · have HF : szB n g = false := by simp [szB, hM, k1]
      have e4 : ((M : Int).tmod 2 == 0) = true := by rw [hm2, decide_eq_true k1]
      have e5 : ((M : Int) % 2 == 0) = true := beq_iff_eq.2 (by omega)
      unfold SizeOut
      rw [HF]
      clear hm hm2 k1 h1 hg hcA hb hM hr hg00 bN HF s0
      go_enter Tryd.func77, Tryd.ntmps77
      go_wp2
      refine bodyPost_ret ?_ rfl ⟨0, 0, rfl, (fun h => by cases h), HL.out⟩
      simp [results, Tryd.results77, go_sem]
    · have e4 : ((M : Int).tmod 2 == 0) = false := by rw [hm2, decide_eq_false k1]
      have e5 : ((M : Int) % 2 == 0) = false := beq_eq_false_iff_ne.2 (by omega)
      have e6 : (M : Int).tdiv 2 = ((M / 2 : Nat) : Int) := rfl
      obtain ⟨a, ha⟩ : ∃ a, M / 2 = a := ⟨_, rfl⟩
      rw [ha] at e6
      have ha20 : a ≤ 1048576 := by omega
      have HF : szB n g = (sideB (a : Int) && sideB (b : Int)) := by
        have p1 : n % 2 = 1 := by omega
        have p2 : M % 2 = 1 := by omega
        simp [szB, hM, ha, hb, p1, p2, Bool.and_comm]
      have HF2 := Lib.hid HF
      have HAB : Hid ((((g 0).size / 2 : Nat) : Int) = (a : Int) ∧ ((n / 2 : Nat) : Int) = (b : Int)) := Lib.hid ⟨by rw [hM, ha], by rw [hb]⟩
      unfold SizeOut
      rw [HF]
      obtain ⟨v, hv⟩ : ∃ v, (sideB (a : Int) && sideB (b : Int)) = v := ⟨_, rfl⟩
      rw [hv]
      have HVv := Lib.hid hv
      clear hm hm2 k1 h1 hg hcA hb hM hr hg00 HF s0 hv ha
      have bN2 := (Below.refl _ (w.alloc (.cells #[.int .i64 0, .int .i64 0] 84))).alloc (Nat.le_refl _) (.cells #[.int .i64 (a : Int), .int .i64 (b : Int)] 84)
      have HS := Lib.hid (Cel.new (w.alloc (.cells #[.int .i64 0, .int .i64 0] 84)) [.int .i64 (a : Int), .int .i64 (b : Int)] 84)
      have HR0 := Lib.hid ((At.new w #[.int .i64 0, .int .i64 0] 84).below bN2 (by simp))
      rw [World.size_alloc] at HS
      have HB := Lib.hid (HL.out.trans (bN2.mono (by simp)))
      clear bN bN2
      have k0 := HS.out.2 0 _ rfl
      have k1 := HS.out.2 1 _ rfl
      have kz := HS.out.1
      go_enter Tryd.func77, Tryd.ntmps77
      go_wp2_with fail
      generalize hw2 : (w.alloc (.cells #[.int .i64 0, .int .i64 0] 84)).alloc (.cells #[.int .i64 (a : Int), .int .i64 (b : Int)] 84) = w2 at *
      clear hw2 s1
      have rz := HR0.out.lt
      go_region_with (first
        | (go_at_call 109; (with_reducible refine (HVv.out ▸ valid_any (a : Int) (b : Int) _).mono ?_); rintro e wv ⟨rfl, bv⟩; have HV : Hid (Below w2.heap.size w2 wv) := Lib.hid (((Below.refl w2.heap.size w2).drew).trans bv); have m0 := cell_be k0 HV.out kz; have m1 := cell_be k1 HV.out kz; have HAv := Lib.hid (HR0.out.below HV.out rz); have t0 := HAv.out.cellv (i := 0) rfl; have t1 := HAv.out.cellv (i := 1) rfl; have u0 := HAv.out.frozen 0; have u1 := HAv.out.frozen 1; have hvz := HV.out.size))
      all_goals
        have HBv := Lib.hid (HB.out.trans (HV.out.mono (by omega)))
        clear k0 k1 m0 m1
        go_wp2
        refine bodyPost_ret ?_ rfl ⟨a, b, rfl, (fun _ => ⟨HAB.out.1.symm, HAB.out.2.symm⟩), (HBv.out.setCell (by simp) _).setCell (by simp) _⟩
        simp [results, Tryd.results77, go_sem, t0, t1]
end Go.Proofs.YtdofeonkgaceeacDoor.Base
