/-
  The panel of a size with a number: its digits, and the model's.
-/
import Derived.Test.YtjgclemfehfgiaaPcn
import Derived.Test.YtjgclemfehfgiaaSetB
import Derived.Test.YtjgclemfehfgiaaHeap
namespace Go.Proofs.Ytjgclemfehfgiaa.Base
open Go Go.RowKit
set_option linter.unusedVariables false
set_option linter.unusedSimpArgs false

/-- x divided by 3 so many times -/
def dvs : Nat → Int → Int
  | 0, x => x
  | j + 1, x => dvs j x / 3
theorem dvs_bd {x : Int} (h0 : 0 ≤ x) : ∀ j, 0 ≤ dvs j x ∧ dvs j x ≤ x
  | 0 => ⟨h0, Int.le_refl _⟩
  | j + 1 => by
    have := dvs_bd h0 j
    show 0 ≤ dvs j x / 3 ∧ dvs j x / 3 ≤ x
    omega
/-- digit i of x, of N digits -/
def dgF (N : Nat) (x : Int) (i : Nat) : Int := dvs (N - 1 - i) x % 3
/-- the last j digits of x, of N digits; 0 ahead of them -/
def pwS (N j : Nat) (x : Int) (i : Nat) : Int := if N - j ≤ i then dgF N x i else 0
theorem pwS_put {N j : Nat} {x : Int} (hj : j < N) {i : Nat} (hi : i < N) : putF (pwS N j x) (N - 1 - j) (dvs j x % 3) i = pwS N (j + 1) x i := by
  unfold putF pwS
  by_cases e : i = N - 1 - j
  · rw [if_pos e, if_pos (by omega)]
    unfold dgF
    rw [show N - 1 - i = j by omega]
  · rw [if_neg e]
    by_cases h : N - j ≤ i
    · rw [if_pos h, if_pos (by omega)]
    · rw [if_neg h, if_neg (by omega)]
theorem pwS_all (N : Nat) (x : Int) (i : Nat) : pwS N N x i = dgF N x i := by unfold pwS; rw [if_pos (by omega)]
theorem pwS_none (N : Nat) (x : Int) {i : Nat} (hi : i < N) : pwS N 0 x i = 0 := by unfold pwS; rw [if_neg (by omega)]
theorem OwnRow.congP {w : World} {base : Nat} {A : Option Addr} {n c : Nat} {f g : Nat → Int} (h : OwnRow w base A n c f) (e : ∀ t, t < n → f t = g t) : OwnRow w base A n c g :=
  ⟨h.1, h.2.1, fun i hi => by rw [← e i hi]; exact h.2.2.1 i hi, fun hn => by
    obtain ⟨b, o, h1, h2, h3, h4⟩ := h.2.2.2 hn
    exact ⟨b, o, h1, h2, h3, fun i hi => by rw [← e i hi]; exact h4 i hi⟩⟩
set_option maxHeartbeats 2000000 in
theorem spec_at12 (w : World) (W H x : Int) (N : Nat) (hW : sideB W = true) (hH : sideB H = true) (hN : (N : Int) = inner W H) (hx : 0 ≤ x) (hx2 : x ≤ 100000) :
    Calls Try.prog 26 #[.int .i64 W, .int .i64 H, .int .i64 x] w (PanelMade W H N (dgF N x) w) := by
  have hN2 : N ≤ 112 := by have := (inner_bd' hW hH).2; omega
  have HC := Lib.hid (specNew (w.alloc (.cells #[.int .i64 0, .int .i64 0, .slice none 0 0] 30)) W H N hW hH hN)
  have HZ := Lib.hid (At.new w #[.int .i64 0, .int .i64 0, .slice none 0 0] 30)
  have HBD := Lib.hid (fun j => dvs_bd hx j)
  clear hN hW hH
  go_enter Try.func26, Try.ntmps26
  go_wp2_with fail
  refine HC.out.mono ?_
  rintro e w1 ⟨A, c, rfl, ho, b1⟩
  have b0 := (Below.refl w.heap.size w).alloc (Nat.le_refl _) (.cells #[.int .i64 0, .int .i64 0, .slice none 0 0] 30)
  have bN := (Below.refl w1.heap.size w1).alloc (Nat.le_refl _) (.cells #[.int .i64 W, .int .i64 H, .slice A N c] 30)
  have hz0 : (w.alloc (.cells #[.int .i64 0, .int .i64 0, .slice none 0 0] 30)).heap.size = w.heap.size + 1 := by simp
  have HB := Lib.hid (b0.trans ((b1.trans (bN.mono b1.size)).mono b0.size))
  have HZ2 := Lib.hid ((HZ.out.below b1 HZ.out.lt).below bN (Nat.lt_of_lt_of_le HZ.out.lt b1.size))
  have HX := Lib.hid (At.new w1 #[.int .i64 W, .int .i64 H, .slice A N c] 30)
  have HO := Lib.hid (((ho.below bN (Nat.le_refl _)).mono (base' := w.heap.size + 1) (by omega)).congP (g := pwS N 0 x) (fun t ht => (pwS_none N x ht).symm))
  have HLT : Hid (0 < N → ∀ b, blk A = some b → b < w1.heap.size) := Lib.hid (fun hn b hb => by obtain ⟨b', o', e1, h1, h2, h3⟩ := ho.2.2.2 hn; rw [e1] at hb; simp [blk] at hb; omega)
  have hnc := ho.1
  have hcm := ho.2.1
  unfold maxLen at hcm
  have hz1 : w.heap.size + 1 ≤ w1.heap.size := by have := b1.size; omega
  clear ho b0 b1 bN HC HZ hz0
  obtain ⟨x0, x1, x2, xz⟩ : ((w1.alloc (.cells #[.int .i64 W, .int .i64 H, .slice A N c] 30)).cell? ⟨w1.heap.size, 0, none⟩ = some (.int .i64 W)) ∧ ((w1.alloc (.cells #[.int .i64 W, .int .i64 H, .slice A N c] 30)).cell? ⟨w1.heap.size, 1, none⟩ = some (.int .i64 H)) ∧ ((w1.alloc (.cells #[.int .i64 W, .int .i64 H, .slice A N c] 30)).cell? ⟨w1.heap.size, 2, none⟩ = some (.slice A N c)) ∧ w1.heap.size < (w1.alloc (.cells #[.int .i64 W, .int .i64 H, .slice A N c] 30)).heap.size := ⟨HX.out.cellv (i := 0) rfl, HX.out.cellv (i := 1) rfl, HX.out.cellv (i := 2) rfl, HX.out.lt⟩
  go_wp2
  clear x0 x1 x2 xz
  generalize w1.alloc (.cells #[.int .i64 W, .int .i64 H, .slice A N c] 30) = w2 at *
  obtain ⟨bx, hbx⟩ : ∃ bx, w1.heap.size = bx := ⟨_, rfl⟩
  rw [hbx] at HX HLT hz1 ⊢
  clear hbx
  go_loopw [2, 8] (fun nv kv wr => ∃ (j : Nat) (y : Int), j ≤ N ∧ nv = .int .i64 y ∧ 0 ≤ y ∧ y ≤ 100000 ∧ Hid (y = dvs j x) ∧ kv = .int .i64 ((N : Int) - 1 - (j : Int)) ∧ Hid (OwnRow wr (w.heap.size + 1) A N c (pwS N j x)) ∧ Hid (At wr bx #[.int .i64 W, .int .i64 H, .slice A N c] 30) ∧ Hid (At wr w.heap.size #[.int .i64 0, .int .i64 0, .slice none 0 0] 30) ∧ Hid (Below w.heap.size w wr)) (fun _ kv _ => (intOf kv + 1).toNat)
  case atStart => exact ⟨0, x, Nat.zero_le _, rfl, hx, hx2, Lib.hid rfl, by simp, HO, HX, HZ2, HB⟩
  case round =>
    clear HO HX HZ2 HB
    obtain ⟨j, y, hj, rfl, y1, y2, HY, rfl, HO, HX, HZ, HB⟩ := hrel
    have x0 : wr.cell? ⟨bx, 0, none⟩ = some (.int .i64 W) := HX.out.cellv (i := 0) rfl
    have x1 : wr.cell? ⟨bx, 1, none⟩ = some (.int .i64 H) := HX.out.cellv (i := 1) rfl
    have x2 : wr.cell? ⟨bx, 2, none⟩ = some (.slice A N c) := HX.out.cellv (i := 2) rfl
    have xz := HX.out.lt
    by_cases hlt : j < N
    · obtain ⟨i, hi⟩ : ∃ i : Nat, N - 1 - j = i := ⟨_, rfl⟩
      have hii : (N : Int) - 1 - (j : Int) = (i : Int) := by omega
      have hin : i < N := by omega
      have HI := Lib.hid hi
      obtain ⟨b, o, rfl, hb1, hb2, hc⟩ := HO.out.2.2.2 (by omega)
      obtain ⟨hck, hfk⟩ := hc i hin
      have hbb := HLT.out (by omega) b rfl
      have hbx : b ≠ bx := by omega
      have hbw : b ≠ w.heap.size := by omega
      have e1 : (i : Int) < (N : Int) := by omega
      have e2 : (0 : Int) ≤ (i : Int) := by omega
      have HO2 := Lib.hid ((HO.out.put hin (y % 3) (WalkArith.wf_i64 (by omega))).congP (g := pwS N (j + 1) x) (fun t ht => by rw [← HI.out, HY.out]; exact pwS_put hlt ht))
      have HX2 := Lib.hid (HX.out.setOther (a := ⟨b, o + i, none⟩) hbx (.int .i64 (y % 3)))
      have HZ2 := Lib.hid (HZ.out.setOther (a := ⟨b, o + i, none⟩) hbw (.int .i64 (y % 3)))
      have HB2 := Lib.hid (HB.out.setCell (p := ⟨b, o + i, none⟩) (by show w.heap.size ≤ b; omega) (.int .i64 (y % 3)))
      have HY2 := Lib.hid (show y / 3 = dvs (j + 1) x by rw [HY.out]; rfl)
      have HIN := Lib.hid hii
      rw [hii]
      clear hc HO HX HZ HB hi hii
      go_wp2
      go_roundw
      case rel => exact ⟨j + 1, y / 3, by omega, by first | rfl | (congr 1; omega), by omega, by omega, HY2, by have := HIN.out; first | rfl | (congr 1; omega), HO2, HX2, HZ2, HB2⟩
      case measure => (simp [intOf]; try omega)
    · obtain rfl : j = N := by omega
      have hz : (j : Int) - 1 - (j : Int) = -1 := by omega
      rw [hz]
      have z0 : wr.cell? ⟨w.heap.size, 0, none⟩ = some (.int .i64 0) := HZ.out.cellv (i := 0) rfl
      have z1 : wr.cell? ⟨w.heap.size, 1, none⟩ = some (.int .i64 0) := HZ.out.cellv (i := 1) rfl
      have z2 : wr.cell? ⟨w.heap.size, 2, none⟩ = some (.slice none 0 0) := HZ.out.cellv (i := 2) rfl
      have f0 := HZ.out.frozen 0
      have f1 := HZ.out.frozen 1
      have f2 := HZ.out.frozen 2
      have zz := HZ.out.lt
      go_wp2
      refine bodyPost_ret ?_ rfl ⟨A, c, rfl, (ownRow_setBox (HO.out.congP (fun t _ => pwS_all j x t)) (Nat.lt_succ_self _) _ _ _).mono (Nat.le_succ _), ((HB.out.setCell (by simp) _).setCell (by simp) _).setCell (by simp) _⟩
      simp [results, Try.results26, go_sem, z0, z1, z2, zz]
/-- the code of a size and a number -/
def pwC (W H x : Int) : Int := if pcC W H = 0 then (if inB x 0 (mnP W H - 1) then 0 else 3) else pcC W H
theorem pwC_ok {W H x : Int} (h : pwC W H x = 0) : pcC W H = 0 ∧ inB x 0 (mnP W H - 1) = true := by
  unfold pwC at h
  by_cases e : pcC W H = 0
  · rw [if_pos e] at h
    refine ⟨e, ?_⟩
    cases hb : inB x 0 (mnP W H - 1)
    · rw [hb] at h; simp at h
    · rfl
  · rw [if_neg e] at h; exact absurd h e
set_option maxHeartbeats 1000000 in
theorem spec_panelWith_bad (w : World) (W H x : Int) (hc : pwC W H x ≠ 0) :
    Calls Try.prog 13 #[.int .i64 W, .int .i64 H, .int .i64 x] w (PanelOut 0 0 0 (fun _ => 0) (pwC W H x) w) := by
  have HZ := Lib.hid (At.new w #[.int .i64 0, .int .i64 0, .slice none 0 0] 30)
  have hB := (Below.refl w.heap.size w).alloc (Nat.le_refl _) (.cells #[.int .i64 0, .int .i64 0, .slice none 0 0] 30)
  have HCD := Lib.hid (fun w' : World => spec_code12 W H w')
  by_cases e : pcC W H = 0
  · obtain ⟨hW, hH, hm, -⟩ := pc_zero e
    have HM := Lib.hid (fun w' : World => spec_many W H w' hW hH)
    have hm1 := mn3_bd (inner W H).toNat
    have hb : inB x 0 (mnP W H - 1) = false := by
      cases hb : inB x 0 (mnP W H - 1)
      · rfl
      · exact absurd (by unfold pwC; rw [if_pos e, hb]; rfl) hc
    have e2 : pwC W H x = 3 := by unfold pwC; rw [if_pos e, hb]; rfl
    have hm2 : 1 ≤ mnP W H ∧ mnP W H ≤ 2501 := hm1
    rw [e2]
    rw [e] at HCD
    obtain ⟨m, hmm⟩ : ∃ m, mnP W H = m := ⟨_, rfl⟩
    rw [hmm] at HM hb hm2
    have HI := Lib.hid (fun w' : World => by have h := in_any x 0 (m - 1) w'; rw [hb] at h; exact h)
    clear hW hH hm hm1 hb e2 e hc hmm
    go_enter Try.func13, Try.ntmps13
    go_wp2_with fail
    refine (HCD.out _).mono ?_
    rintro e w1 ⟨rfl, rfl⟩
    go_wp2_with fail
    refine (HM.out _).mono ?_
    rintro e w1 ⟨rfl, rfl⟩
    go_wp2_with fail
    refine (HI.out _).mono ?_
    rintro e w1 ⟨rfl, rfl⟩
    go_wp2
    refine bodyPost_ret ?_ rfl ⟨none, 0, rfl, ownRow_nil _ _ _, by go_grown⟩
    simp [results, Try.results13, go_sem]
  · have e2 : pwC W H x = pcC W H := by unfold pwC; rw [if_neg e]
    rw [e2]
    obtain ⟨q, hq⟩ : ∃ q, pcC W H = q := ⟨_, rfl⟩
    rw [hq] at HCD e ⊢
    clear hq e2 hc
    go_enter Try.func13, Try.ntmps13
    go_wp2_with fail
    refine (HCD.out _).mono ?_
    rintro e w1 ⟨rfl, rfl⟩
    go_wp2
    refine bodyPost_ret ?_ rfl ⟨none, 0, rfl, ownRow_nil _ _ _, by go_grown⟩
    simp [results, Try.results13, go_sem]
set_option maxHeartbeats 1000000 in
theorem spec_panelWith_ok (w : World) (W H x : Int) (N : Nat) (hc : pwC W H x = 0) (hN : (N : Int) = inner W H) :
    Calls Try.prog 13 #[.int .i64 W, .int .i64 H, .int .i64 x] w (PanelOut W H N (dgF N x) 0 w) := by
  obtain ⟨e, hb⟩ := pwC_ok hc
  obtain ⟨hW, hH, hm, -⟩ := pc_zero e
  have HCD := Lib.hid (fun w' : World => spec_code12 W H w')
  have HM := Lib.hid (fun w' : World => spec_many W H w' hW hH)
  have hm2 : 1 ≤ mnP W H ∧ mnP W H ≤ 2501 := mn3_bd (inner W H).toNat
  have hx := in_yes hb
  have HA := Lib.hid (fun w' : World => spec_at12 w' W H x N hW hH hN hx.1 (by omega))
  rw [e] at HCD
  obtain ⟨m, hmm⟩ : ∃ m, mnP W H = m := ⟨_, rfl⟩
  rw [hmm] at HM hb hm2
  have HI := Lib.hid (fun w' : World => by have h := in_any x 0 (m - 1) w'; rw [hb] at h; exact h)
  clear hW hH hm hb e hc hmm hx hN
  go_enter Try.func13, Try.ntmps13
  go_wp2_with fail
  refine (HCD.out _).mono ?_
  rintro e w1 ⟨rfl, rfl⟩
  go_wp2_with fail
  refine (HM.out _).mono ?_
  rintro e w1 ⟨rfl, rfl⟩
  go_wp2_with fail
  refine (HI.out _).mono ?_
  rintro e w1 ⟨rfl, rfl⟩
  go_wp2_with fail
  refine (HA.out _).mono ?_
  rintro e w1 ⟨A, c, rfl, hr, b1⟩
  obtain ⟨q0, q1, q2, f0, f1, f2, hB, hz⟩ := out_cells b1
  have HR := Lib.hid hr
  clear hr b1
  go_wp2
  refine bodyPost_ret ?_ rfl ⟨A, c, rfl, (ownRow_setBox HR.out (by simp) _ _ _).mono (by simp), ((hB.setCell (by simp) _).setCell (by simp) _).setCell (by simp) _⟩
  simp [results, Try.results13, go_sem, q0, q1, q2]
end Go.Proofs.Ytjgclemfehfgiaa.Base
