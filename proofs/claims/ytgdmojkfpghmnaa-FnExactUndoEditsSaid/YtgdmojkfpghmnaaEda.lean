/-
  The panel behind edits: the specification's ApplyEdits, the program's.
-/
import Derived.Test.YtgdmojkfpghmnaaEdv
import Derived.Test.YtgdmojkfpghmnaaOwt
import Derived.Test.YtgdmojkfpghmnaaPld
import Derived.Test.YtgdmojkfpghmnaaSetB
namespace Go.Proofs.Ytgdmojkfpghmnaa.Base
open Go Go.RowKit
set_option linter.unusedVariables false
set_option linter.unusedSimpArgs false

/-- an own row of integers as a row of the laws -/
theorem ownRow_cells {w : World} {base n c : Nat} {A : Option Addr} {f : Nat → Int} (h : w.ownsRow base 2 1 (.slice A n c) n (cellsOfF n f)) (hw : ∀ i, i < n → (Lit.int .i64 (f i)).wf = true) : OwnRow w base A n c f := by
  by_cases hn : 0 < n
  · obtain ⟨A', c', e, h1⟩ := ownRow_of_owns h hn hw
    cases e
    exact h1
  · obtain rfl : n = 0 := by omega
    rcases h.2 with ⟨e, -⟩ | ⟨g, cap, cur, e, hb, hg, hnc, hcm, -, -⟩
    · cases e; exact ownRow_nil w base f
    · cases e
      exact ⟨hnc, hcm, fun i hi => absurd hi (Nat.not_lt_zero _), fun h => absurd h (Nat.lt_irrefl _)⟩
theorem ap_step {f g : Nat → Int} {k : Nat} : apF f g (k + 1) = putF (apF f g k) (g (k * 2)).toNat (g (k * 2 + 1)) := rfl
theorem ap_wf {n m : Nat} {f g : Nat → Int} (hw : ∀ i, i < n → (Lit.int .i64 (f i)).wf = true) (hg : ∀ i, i < m * 2 → (Lit.int .i64 (g i)).wf = true) : ∀ k, k ≤ m → ∀ i, i < n → (Lit.int .i64 (apF f g k i)).wf = true
  | 0, _, i, hi => hw i hi
  | k + 1, hk, i, hi => by
    show (Lit.int .i64 (if i = (g (k * 2)).toNat then g (k * 2 + 1) else apF f g k i)).wf = true
    split
    · exact hg _ (by omega)
    · exact ap_wf hw hg k (by omega) i hi
set_option maxHeartbeats 4000000 in
set_option maxRecDepth 100000 in
theorem spec_apply (w : World) (p : Nat) (W H : Int) (A : Option Addr) (n c : Nat) (f : Nat → Int) (E : Option Addr) (m d : Nat) (g : Nat → Int) (hb : Box w p W H A n c) (hr : Row .i64 w A n c f) (hE : RowS 2 w E m d g) (hn2 : n ≤ 1048576) (hk : edB n f g m = true) :
    Calls Try.prog 36 #[.pointer (some ⟨p, 0, none⟩), .slice E m d] w (PanelMade W H n (apF f g m) w) := by
  have hmd := hE.1
  have hmc := hE.2.1
  unfold maxLen at hmc
  have HX := Lib.hid hb
  have HR := Lib.hid hr
  have HE := Lib.hid hE
  have HK := Lib.hid hk
  have HWF := Lib.hid hE.2.2.1
  have hp0 := hb.1
  have HL := Lib.hid (show Below w.heap.size w (w.alloc (.cells #[.int .i64 0, .int .i64 0, .slice none 0 0] 29)) from (Below.refl _ _).alloc (Nat.le_refl _) _)
  clear hb hr hE hk
  go_enter Try.func36, Try.ntmps36
  go_wp2_with fail
  refine (spec_own2 _ p W H A n c f (HX.out.below HL.out hp0) (HR.out.below HL.out (Nat.le_refl _)) hn2).mono ?_
  rintro e w1 ⟨A1, c1, rfl, h1, b1⟩
  have bN := (Below.refl w1.heap.size w1).alloc (Nat.le_refl _) (.cells #[.int .i64 W, .int .i64 H, .slice A1 n c1] 29)
  have HS0 : Hid (LSt w w1.heap.size W H n (apF f g 0) A1 c1 (w1.alloc (.cells #[.int .i64 W, .int .i64 H, .slice A1 n c1] 29))) := Lib.hid
    ⟨((At.new w _ _).below b1 (by simp)).below bN (by have := b1.size; simp at this; omega), At.new w1 _ _, (OwnRow.mono (base' := w.heap.size + 1) h1 (by simp)).below bN (Nat.le_refl _), (HL.out.trans (b1.mono (by simp))).trans (bN.mono (by have := b1.size; simp at this; omega)), by have := b1.size; simp at this; omega⟩
  have HQ : Hid (0 < n → ∀ b, blk A1 = some b → b < w1.heap.size) := Lib.hid (fun hn b hb => by obtain ⟨b', e1, _, e3⟩ := h1.base_le hn; rw [hb] at e1; injection e1 with e1; omega)
  clear bN b1 h1
  go_wp2
  go_loopw [6] (fun kv wr => ∃ k : Nat, k ≤ m ∧ kv = .int .i64 (k : Int) ∧ Hid (LSt w w1.heap.size W H n (apF f g k) A1 c1 wr)) (fun kv _ => m - (intOf kv).toNat)
  case atStart => exact ⟨0, Nat.zero_le _, rfl, HS0⟩
  case round =>
    clear HS0
    obtain ⟨k, hk, rfl, HS⟩ := hrel
    have hbz := HS.out.bel.size
    by_cases hlt : k < m
    · obtain ⟨b, o, rfl, hbl, hc⟩ := HE.out.2.2.2 (by omega)
      obtain ⟨a0, a1⟩ := ed_num HK.out hlt
      obtain ⟨a, ha⟩ : ∃ a : Nat, g (k * 2) = a := ⟨(g (k * 2)).toNat, by omega⟩
      obtain ⟨z, hz⟩ : ∃ z, g (k * 2 + 1) = z := ⟨_, rfl⟩
      have c0 := (HS.out.bel.cell (p := ⟨b, o + k * 2, none⟩) hbl).trans (hc (k * 2) (by omega))
      have c1' : wr.cell? ⟨b, o + k * 2 + 1, none⟩ = some (.int .i64 (g (k * 2 + 1))) := (HS.out.bel.cell (p := ⟨b, o + k * 2 + 1, none⟩) hbl).trans (hc (k * 2 + 1) (by omega))
      rw [ha] at c0 a0 a1
      rw [hz] at c1'
      have HA := Lib.hid ha
      have HZ := Lib.hid hz
      have hwz := HWF.out (k * 2 + 1) (by omega)
      have HWZ : Hid ((Lit.int .i64 z).wf = true) := Lib.hid (by rw [← hz]; exact hwz)
      clear ha hz hc hwz
      have hn0 : 0 < n := by omega
      have han : a < n := by omega
      obtain ⟨b2, o2, rfl, hb1, hb2, hcell⟩ := HS.out.row.2.2.2 hn0
      obtain ⟨e2, f2⟩ := hcell a han
      have hbo : b2 < w1.heap.size := HQ.out hn0 b2 rfl
      clear hcell
      have hoz := HS.out.pan.lt
      have x2 := HS.out.pan.cellv (i := 2) rfl
      have bz : b < wr.heap.size := by omega
      have hlo := HS.out.lo
      have t0 : (wr.setCell ⟨b2, o2 + a, none⟩ (.int .i64 z)).cell? ⟨w1.heap.size, 2, none⟩ = some (.slice (some ⟨b2, o2, none⟩) n c1) := by rw [World.cell?_setCell_other _ _ _ _ (fun e => by injection e; omega)]; exact x2
      have t1 : (wr.setCell ⟨b2, o2 + a, none⟩ (.int .i64 z)).cell? ⟨b, o + k * 2, none⟩ = some (.int .i64 (a : Int)) := by rw [World.cell?_setCell_other _ _ _ _ (fun e => by injection e; omega)]; exact c0
      have t2 : (wr.setCell ⟨b2, o2 + a, none⟩ (.int .i64 z)).cell? ⟨b, o + k * 2 + 1, none⟩ = some (.int .i64 z) := by rw [World.cell?_setCell_other _ _ _ _ (fun e => by injection e; omega)]; exact c1'
      have HN : Hid (LSt w w1.heap.size W H n (apF f g (k + 1)) (some ⟨b2, o2, none⟩) c1 (wr.setCell ⟨b2, o2 + a, none⟩ (.int .i64 z)).drew) := Lib.hid (by
        rw [ap_step, HA.out, HZ.out, Int.toNat_natCast]
        exact ⟨HS.out.res.setOther (a := ⟨b2, o2 + a, none⟩) (by show b2 ≠ _; omega) _, HS.out.pan.setOther (a := ⟨b2, o2 + a, none⟩) (by show b2 ≠ _; omega) _, HS.out.row.put han z HWZ.out, (HS.out.bel.setCell (p := ⟨b2, o2 + a, none⟩) (by show _ ≤ b2; omega) _).drew, hlo⟩)
      go_wp2_with fail
      go_region_held3 (fun w' => w'.cell? ⟨w1.heap.size, 2, none⟩ = some (.slice (some ⟨b2, o2, none⟩) n c1) ∧ w'.cell? ⟨b, o + k * 2, none⟩ = some (.int .i64 (a : Int)) ∧ w'.cell? ⟨b, o + k * 2 + 1, none⟩ = some (.int .i64 z))
        (first | exact ⟨x2, c0, c1'⟩ | exact ⟨t0, t1, t2⟩ | go_keep | assumption)
        (fail)
      all_goals
        rename_i hSx
        clear hSx x2 c0 c1' t0 t1 t2 e2 f2
        go_wp2
        go_roundw
        case rel => exact ⟨k + 1, by omega, by go_num, HN⟩
        case measure => simp [intOf]; omega
    · obtain rfl : k = m := by omega
      have HQ := Lib.hid (HS.out.out (.int .i64 W) (.int .i64 H) (.slice A1 n c1))
      obtain ⟨rz, oz, o0, o1, o2, -, -, -, q0, q1, q2, g0, g1, g2⟩ := HS.out.cells
      go_wp2
      refine bodyPost_ret ?_ rfl ⟨A1, c1, rfl, HQ.out.1, HQ.out.2⟩
      simp [results, Try.results36, go_sem, q0, q1, q2]
def zF : Nat → Int := fun _ => 0
theorem spec_apply_bad (w : World) (W H : Int) (A : Option Addr) (n c : Nat) (f : Nat → Int) (E : Option Addr) (m d : Nat) (g : Nat → Int) (hr : Row .i64 w A n c f) (hE : RowS 2 w E m d g) (hv : edV W H n f g m = false) :
    Calls Try.prog 15 #[.agg #[.int .i64 W, .int .i64 H, .slice A n c], .slice E m d] w (PanelOut 0 0 0 f 1 w) := by
  have HL := Lib.hid (show Below w.heap.size w ((w.alloc (.cells #[.int .i64 W, .int .i64 H, .slice A n c] 29)).alloc (.cells #[.int .i64 0, .int .i64 0, .slice none 0 0] 29)) from by go_grown)
  have HR := Lib.hid (hr.below HL.out (Nat.le_refl _))
  have HE := Lib.hid (hE.below HL.out (Nat.le_refl _))
  have HV := Lib.hid hv
  have HT := Lib.hid ((At.new (w.alloc (.cells #[.int .i64 W, .int .i64 H, .slice A n c] 29)) #[.int .i64 0, .int .i64 0, .slice none 0 0] 29))
  clear hr hE hv
  go_enter Try.func15, Try.ntmps15
  go_wp2_with fail
  refine (specValidEdits_is HV.out HR.out HE.out).mono ?_
  rintro e w1 ⟨rfl, b1⟩
  have HT1 := Lib.hid (HT.out.below b1 HT.out.lt)
  have HL1 := Lib.hid (HL.out.trans (b1.mono HL.out.size))
  clear b1
  have hz : (w.alloc (.cells #[.int .i64 W, .int .i64 H, .slice A n c] 29)).heap.size = w.heap.size + 1 := by simp
  rw [hz] at HT1
  have q0 := HT1.out.cellv (i := 0) rfl
  have q1 := HT1.out.cellv (i := 1) rfl
  have q2 := HT1.out.cellv (i := 2) rfl
  have g0 := HT1.out.frozen 0
  have g1 := HT1.out.frozen 1
  have g2 := HT1.out.frozen 2
  have qz := HT1.out.lt
  go_wp2
  refine bodyPost_ret ?_ rfl ⟨none, 0, rfl, ownRow_nil _ _ _, ((HL1.out.setCell (by simp) _).setCell (by simp) _).setCell (by simp) _⟩
  simp [results, Try.results15, go_sem, q0, q1, q2]
theorem spec_apply_ok (w : World) (W H : Int) (A : Option Addr) (n c : Nat) (f : Nat → Int) (E : Option Addr) (m d : Nat) (g : Nat → Int) (hr : Row .i64 w A n c f) (hE : RowS 2 w E m d g) (hn2 : n ≤ 1048576) (hv : edV W H n f g m = true) :
    Calls Try.prog 15 #[.agg #[.int .i64 W, .int .i64 H, .slice A n c], .slice E m d] w (PanelOut W H n (apF f g m) 0 w) := by
  have HL := Lib.hid (show Below w.heap.size w ((w.alloc (.cells #[.int .i64 W, .int .i64 H, .slice A n c] 29)).alloc (.cells #[.int .i64 0, .int .i64 0, .slice none 0 0] 29)) from by go_grown)
  have HR := Lib.hid (hr.below HL.out (Nat.le_refl _))
  have HE := Lib.hid (hE.below HL.out (Nat.le_refl _))
  have HV := Lib.hid hv
  have hk : edB n f g m = true := by simp [edV] at hv; exact hv.2
  have HK := Lib.hid hk
  have HX := Lib.hid ((Box.new w 29 W H A n c).below ((Below.refl _ (w.alloc (.cells #[.int .i64 W, .int .i64 H, .slice A n c] 29))).alloc (Nat.le_refl _) (.cells #[.int .i64 0, .int .i64 0, .slice none 0 0] 29)) (by simp))
  have HT := Lib.hid ((At.new (w.alloc (.cells #[.int .i64 W, .int .i64 H, .slice A n c] 29)) #[.int .i64 0, .int .i64 0, .slice none 0 0] 29))
  clear hr hE hv hk
  go_enter Try.func15, Try.ntmps15
  go_wp2_with fail
  refine (specValidEdits_is HV.out HR.out HE.out).mono ?_
  rintro e w1 ⟨rfl, b1⟩
  have HT1 := Lib.hid (HT.out.below b1 HT.out.lt)
  have HX1 := Lib.hid (HX.out.below b1 HX.out.1)
  have HR1 := Lib.hid (HR.out.below b1 (Nat.le_refl _))
  have HE1 := Lib.hid (HE.out.below b1 (Nat.le_refl _))
  have HL1 := Lib.hid (HL.out.trans (b1.mono HL.out.size))
  have z1 := b1.size
  clear b1
  go_wp2_with fail
  refine (spec_apply _ w.heap.size W H A n c f E m d g HX1.out HR1.out HE1.out hn2 HK.out).mono ?_
  rintro e w2 ⟨A2, c2, rfl, hO, b2⟩
  have HT2 := Lib.hid (HT1.out.below b2 HT1.out.lt)
  have HL2 := Lib.hid (HL1.out.trans (b2.mono HL1.out.size))
  have HO := Lib.hid hO
  clear b2 hO
  have hz : (w.alloc (.cells #[.int .i64 W, .int .i64 H, .slice A n c] 29)).heap.size = w.heap.size + 1 := by simp
  have hz2 : ((w.alloc (.cells #[.int .i64 W, .int .i64 H, .slice A n c] 29)).alloc (.cells #[.int .i64 0, .int .i64 0, .slice none 0 0] 29)).heap.size = w.heap.size + 2 := by simp
  rw [hz] at HT2
  have q0 := HT2.out.cellv (i := 0) rfl
  have q1 := HT2.out.cellv (i := 1) rfl
  have q2 := HT2.out.cellv (i := 2) rfl
  have g0 := HT2.out.frozen 0
  have g1 := HT2.out.frozen 1
  have g2 := HT2.out.frozen 2
  have qz := HT2.out.lt
  go_wp2
  refine bodyPost_ret ?_ rfl ⟨A2, c2, rfl, (ownRow_setBox HO.out (by omega) _ _ _).mono (by omega), ((HL2.out.setCell (by simp) _).setCell (by simp) _).setCell (by simp) _⟩
  simp [results, Try.results15, go_sem, q0, q1, q2]
end Go.Proofs.Ytgdmojkfpghmnaa.Base
