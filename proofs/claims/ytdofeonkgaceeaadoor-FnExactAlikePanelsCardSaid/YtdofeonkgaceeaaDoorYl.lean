/-
  CanonicalPanel: the specification's.
-/
import Derived.Test.YtdofeonkgaceeaaDoorYj
import Derived.Test.YtdofeonkgaceeaaDoorCps
import Derived.Test.YtdofeonkgaceeaaDoorGrp
import Derived.Test.YtdofeonkgaceeaaDoorOwn
import Derived.Laws.AppendOwnNone
import Derived.Test.YtdofeonkgaceeaaDoorSame
import Derived.Test.YtdofeonkgaceeaaDoorCln
namespace Go.Proofs.YtdofeonkgaceeaaDoor.Base
open Go Go.RowKit
set_option linter.unusedVariables false
set_option linter.unusedSimpArgs false

/-- the panels of two symmetries compared -/
def lsC (W H : Int) (n : Nat) (f : Nat → Int) (a b : Nat) : Int := cmpP (mvW W H a) (mvH W H a) n (mpF W H a f) (mvW W H b) (mvH W H b) n (mpF W H b f)
/-- the first symmetry to k with the least panel -/
def lsI (W H : Int) (n : Nat) (f : Nat → Int) : Nat → Nat
  | 0 => 0
  | k + 1 => if lsC W H n f (k + 1) (lsI W H n f k) < 0 then k + 1 else lsI W H n f k
section
variable {W H : Int} {n : Nat} {f : Nat → Int}
theorem lsI_yes {k : Nat} (h : lsC W H n f (k + 1) (lsI W H n f k) < 0) : lsI W H n f (k + 1) = k + 1 := if_pos h
theorem lsI_no {k : Nat} (h : ¬ lsC W H n f (k + 1) (lsI W H n f k) < 0) : lsI W H n f (k + 1) = lsI W H n f k := if_neg h
theorem lsI_le : ∀ k, lsI W H n f k ≤ k
  | 0 => Nat.le_refl _
  | k + 1 => by
    have := lsI_le k
    by_cases h : lsC W H n f (k + 1) (lsI W H n f k) < 0
    · rw [lsI_yes h]; omega
    · rw [lsI_no h]; omega
end
theorem run_append_none0 {P : Program} {w : World} (base : Nat) (t ty e : TypeId) (i : TypeInfo) (size : Nat) (ht : P.underlying t = some (.slice e)) (hi : P.info? e = some i)
    (v : Value) (n : Nat) (xs : List Value) (hown : w.ownsRow base e size v n xs) (c : Nat) :
    (Builtin.append_ #[t, t] ty #[v, .slice none 0 c]).run P w = .ok v w := by
  rcases hown.2 with ⟨rfl, rfl⟩ | ⟨g, cap, cur, rfl, _, _, hnc, _⟩
  · simp [Builtin.append_, run_underlying ht, sizeOf, typeInfo, hi, Builtin.lenOf, Builtin.firstCells]
  · simp [Builtin.append_, run_underlying ht, sizeOf, typeInfo, hi, Builtin.lenOf, Builtin.firstCells, hnc, storeCells]
theorem wpList_append_none0 {P : Program} {w : World} {ops : Array Oper} {rest : List Oper} {o : Oper} {a : Act} {Q : Exit → Act → World → Prop} (hgd : o.guard = none) (s x : Operand) (t : TypeId)
    (ho : o.op = .call { callee := .builtin .append, args := #[s, x], argTypes := #[t, t] })
    (base : Nat) (e : TypeId) (i : TypeInfo) (size : Nat) (ht : P.underlying t = some (.slice e)) (hi : P.info? e = some i)
    (v : Value) (n : Nat) (xs : List Value) (hs : a.eval s = v) (hown : w.ownsRow base e size v n xs) (c : Nat) (hx : a.eval x = .slice none 0 c)
    (h : wpList P ops Q rest (a.put o.dst v) w) : wpList P ops Q (o :: rest) a w := by
  refine wpList_plain hgd fun K hK => ?_
  have hrun := run_append_none0 (P := P) (w := w) base t o.type e i size ht hi v n xs hown c
  unfold Oper.wp
  simp [execOp, ho, resolve, invoke, builtin, hs, hx, hrun, Result.andThen]
  exact hK _ _ h
theorem ownRow_zero {w : World} {base : Nat} {A : Option Addr} {c : Nat} {f : Nat → Int} (h : c ≤ maxLen) : OwnRow w base A 0 c f :=
  ⟨Nat.zero_le _, h, fun i hi => absurd hi (Nat.not_lt_zero _), fun h => absurd h (Nat.lt_irrefl _)⟩
theorem OwnRow.cong2 {w : World} {base : Nat} {A : Option Addr} {n c : Nat} {f g : Nat → Int} (h : OwnRow w base A n c f) (e : ∀ t, t < n → f t = g t) : OwnRow w base A n c g :=
  ⟨h.1, h.2.1, fun i hi => by rw [← e i hi]; exact h.2.2.1 i hi, fun hn => by
    obtain ⟨b, o, h1, h2, h3, h4⟩ := h.2.2.2 hn
    exact ⟨b, o, h1, h2, h3, fun i hi => by rw [← e i hi]; exact h4 i hi⟩⟩
theorem spec_own0 (w : World) (A : Option Addr) (c : Nat) (f : Nat → Int) :
    Calls Tryd.prog 111 #[.slice A 0 c] w (SliceOut 0 f w) := by
  obtain ⟨i0, hi, hz0, hz1, hz2⟩ := info_parts infoI64
  have HBL := Lib.hid (show Below w.heap.size w (w.alloc (.cells #[] 2)) from (Below.refl _ _).alloc (Nat.le_refl _) _)
  cases A with
  | none =>
    go_enter Tryd.func111, Tryd.ntmps111
    go_wp2_with (at_builtin; refine wpList_append_none0 rfl (.tmp 3) (.tmp 4) 22 rfl w.heap.size 2 i0 1 Tryd.underlying22 hi _ 0 [] rfl (owns_empty w _) c rfl ?_)
    go_ret
    exact ⟨some ⟨w.heap.size, 0, none⟩, 0, rfl, ownRow_zero (Nat.zero_le _), HBL.out⟩
  | some ad =>
    go_enter Tryd.func111, Tryd.ntmps111
    go_wp2_with (at_builtin; refine wpList_append_own _ rfl (.tmp 3) (.tmp 4) 22 rfl w.heap.size 2 i0 (.int .i64 0) 1 8 Tryd.underlying22 hi hz0 hz1 hz2 rfl (by decide) _ 0 [] rfl (owns_empty w _) ad 0 c [] rfl rfl (fun j u hj => by simp at hj) (fun u hu => by simp at hu) (by decide) (by decide) (by simp) ?_)
    intro v' w1 hown hg _
    have hB : Below w.heap.size w w1 := HBL.out.grown hg (by simp) (fun k hk => by simp [Value.ownBlock] at hk; omega)
    have HBB := Lib.hid hB
    have hS : ∃ A' c', v' = .slice A' 0 c' ∧ c' ≤ maxLen := by
      rcases hown.2 with ⟨rfl, -⟩ | ⟨g, cap, cur, rfl, -, -, -, hcm, -⟩
      · exact ⟨none, 0, rfl, Nat.zero_le _⟩
      · exact ⟨_, cap, rfl, hcm⟩
    obtain ⟨A', c', rfl, hm⟩ := hS
    clear hown hg hB
    go_wp2
    go_ret
    exact ⟨A', c', rfl, ownRow_zero hm, HBB.out⟩
theorem spec_own_any (w : World) (A : Option Addr) (n c : Nat) (f : Nat → Int) (hr : Row .i64 w A n c f) (hn2 : n ≤ 1048576) :
    Calls Tryd.prog 111 #[.slice A n c] w (SliceOut n f w) := by
  by_cases h : 0 < n
  · exact spec_own w A n c f hr h hn2
  · obtain rfl : n = 0 := by omega
    exact spec_own0 w A c f
set_option maxHeartbeats 4000000 in
theorem spec_own2 (w : World) (p : Nat) (W H : Int) (A : Option Addr) (n c : Nat) (f : Nat → Int) (hb : Box w p W H A n c) (hr : Row .i64 w A n c f) (hn2 : n ≤ 1048576) :
    Calls Tryd.prog 72 #[.pointer (some ⟨p, 0, none⟩)] w (PanelMade W H n f w) := by
  have HR := Lib.hid hr
  have hbel : Below w.heap.size w (w.alloc (.cells #[.int .i64 0, .int .i64 0, .slice none 0 0] 26)) := (Below.refl _ _).alloc (Nat.le_refl _) _
  have HL := Lib.hid hbel
  have HX := Lib.hid (hb.below hbel hb.1)
  obtain ⟨hp, k0, k1, k2⟩ := hb
  clear hr hbel
  go_enter Tryd.func72, Tryd.ntmps72
  go_wp2
  first | (go_region_with (go_at_call 111; refine (spec_own_any _ A n c f ?_ hn2).mono ?_; exact HR.out.below HL.out.drew (Nat.le_refl _); rintro e w1 ⟨A', c', rfl, hO, b1⟩; have b1' := ((Below.refl _ (w.alloc (.cells #[.int .i64 0, .int .i64 0, .slice none 0 0] 26))).drew).trans b1; have HO := Lib.hid hO; have HB1 := Lib.hid b1'; obtain ⟨q0, q1, q2, f0, f1, f2, hB, hz⟩ := out_cells b1'; obtain ⟨-, x0, x1, x2⟩ := HX.out.below b1' HX.out.1; clear b1 b1' hO)) | fail
  all_goals go_wp2
  all_goals
    refine bodyPost_ret ?_ rfl ⟨A', c', rfl, (ownRow_setBox HO.out (by simp) _ _ _).mono (by simp), ((hB.setCell (by simp) _).setCell (by simp) _).setCell (by simp) _⟩
    simp [results, Tryd.results72, go_sem, q0, q1, q2]
/-- a box of a panel with a row of its own -/
structure LSt (w0 : World) (o : Nat) (W H : Int) (n : Nat) (f : Nat → Int) (A : Option Addr) (c : Nat) (w : World) : Prop where
  res : At w w0.heap.size #[.int .i64 0, .int .i64 0, .slice none 0 0] 26
  pan : At w o #[.int .i64 W, .int .i64 H, .slice A n c] 26
  row : OwnRow w (w0.heap.size + 1) A n c f
  bel : Below w0.heap.size w0 w
  lo : w0.heap.size < o
section
variable {w0 w w' : World} {o : Nat} {W H : Int} {n : Nat} {f : Nat → Int} {A : Option Addr} {c : Nat}
theorem LSt.next (h : LSt w0 o W H n f A c w) (b : Below w.heap.size w w') : LSt w0 o W H n f A c w' :=
  ⟨h.res.below b h.res.lt, h.pan.below b h.pan.lt, h.row.below b (Nat.le_refl _), h.bel.trans (b.mono h.bel.size), h.lo⟩
theorem LSt.box (h : LSt w0 o W H n f A c w) : Box w o W H A n c := ⟨h.pan.lt, h.pan.cellv (i := 0) rfl, h.pan.cellv (i := 1) rfl, h.pan.cellv (i := 2) rfl⟩
/-- another panel put into the box -/
theorem LSt.put (h : LSt w0 o W H n f A c w) {W' H' : Int} {n' : Nat} {f' : Nat → Int} {A' : Option Addr} {c' : Nat} {b : Nat} (ho : OwnRow w b A' n' c' f') (hb : o < b) :
    LSt w0 o W' H' n' f' A' c' (((w.setCell ⟨o, 0, none⟩ (.int .i64 W')).setCell ⟨o, 1, none⟩ (.int .i64 H')).setCell ⟨o, 2, none⟩ (.slice A' n' c')) :=
  ⟨((h.res.setOther (a := ⟨o, 0, none⟩) (by have := h.lo; show o ≠ w0.heap.size; omega) _).setOther (a := ⟨o, 1, none⟩) (by have := h.lo; show o ≠ w0.heap.size; omega) _).setOther (a := ⟨o, 2, none⟩) (by have := h.lo; show o ≠ w0.heap.size; omega) _,
   ((h.pan.set 0 _).set 1 _).set 2 _,
   (ownRow_setBox ho hb _ _ _).mono (by have := h.lo; omega),
   ((h.bel.setCell (p := ⟨o, 0, none⟩) (by have := h.lo; show w0.heap.size ≤ o; omega) _).setCell (p := ⟨o, 1, none⟩) (by have := h.lo; show w0.heap.size ≤ o; omega) _).setCell (p := ⟨o, 2, none⟩) (by have := h.lo; show w0.heap.size ≤ o; omega) _, h.lo⟩
theorem LSt.cells (h : LSt w0 o W H n f A c w) : w0.heap.size < w.heap.size ∧ o < w.heap.size ∧ w.cell? ⟨o, 0, none⟩ = some (.int .i64 W) ∧ w.cell? ⟨o, 1, none⟩ = some (.int .i64 H) ∧ w.cell? ⟨o, 2, none⟩ = some (.slice A n c) ∧
    w.frozen? ⟨o, 0, none⟩ = false ∧ w.frozen? ⟨o, 1, none⟩ = false ∧ w.frozen? ⟨o, 2, none⟩ = false ∧
    w.cell? ⟨w0.heap.size, 0, none⟩ = some (.int .i64 0) ∧ w.cell? ⟨w0.heap.size, 1, none⟩ = some (.int .i64 0) ∧ w.cell? ⟨w0.heap.size, 2, none⟩ = some (.slice none 0 0) ∧
    w.frozen? ⟨w0.heap.size, 0, none⟩ = false ∧ w.frozen? ⟨w0.heap.size, 1, none⟩ = false ∧ w.frozen? ⟨w0.heap.size, 2, none⟩ = false :=
  ⟨h.res.lt, h.pan.lt, h.pan.cellv (i := 0) rfl, h.pan.cellv (i := 1) rfl, h.pan.cellv (i := 2) rfl, h.pan.frozen 0, h.pan.frozen 1, h.pan.frozen 2, h.res.cellv (i := 0) rfl, h.res.cellv (i := 1) rfl, h.res.cellv (i := 2) rfl, h.res.frozen 0, h.res.frozen 1, h.res.frozen 2⟩
theorem LSt.out (h : LSt w0 o W H n f A c w) (x y z : Value) : OwnRow (((w.setCell ⟨w0.heap.size, 0, none⟩ x).setCell ⟨w0.heap.size, 1, none⟩ y).setCell ⟨w0.heap.size, 2, none⟩ z) w0.heap.size A n c f ∧ Below w0.heap.size w0 (((w.setCell ⟨w0.heap.size, 0, none⟩ x).setCell ⟨w0.heap.size, 1, none⟩ y).setCell ⟨w0.heap.size, 2, none⟩ z) :=
  ⟨(ownRow_setBox h.row (Nat.lt_succ_self _) _ _ _).mono (Nat.le_succ _), ((h.bel.setCell (p := ⟨w0.heap.size, 0, none⟩) (Nat.le_refl _) _).setCell (p := ⟨w0.heap.size, 1, none⟩) (Nat.le_refl _) _).setCell (p := ⟨w0.heap.size, 2, none⟩) (Nat.le_refl _) _⟩
end
set_option maxHeartbeats 1500000 in
set_option maxRecDepth 100000 in
theorem spec_least (w : World) (p : Nat) (W H : Int) (A : Option Addr) (n c : Nat) (f : Nat → Int) (hb : Box w p W H A n c) (hr : Row .i64 w A n c f) (hv : validB W H n f = true) :
    Calls Tryd.prog 68 #[.pointer (some ⟨p, 0, none⟩)] w (PanelMade (mvW W H (lsI W H n f 7)) (mvH W H (lsI W H n f 7)) n (mpF W H (lsI W H n f 7) f) w) := by
  obtain ⟨hW, hH, hn, hK⟩ := validB_yes hv
  have HX := Lib.hid hb
  have HR := Lib.hid hr
  have HV := Lib.hid hv
  have HWf : Hid (∀ s : Nat, (Lit.int .i64 (mvW W H s)).wf = true ∧ (Lit.int .i64 (mvH W H s)).wf = true) := Lib.hid fun s => by
    obtain ⟨s1, s2⟩ := mv_side (s := s) hW hH
    have := side_mk s1
    have := side_mk s2
    exact ⟨WalkArith.wf_i64 (by omega), WalkArith.wf_i64 (by omega)⟩
  have hn2 : n ≤ 1048576 := by have := inner_bd' hW hH; omega
  have HZ : Hid (∀ i, i < n → f i = mpF W H (0 : Nat) f i) := Lib.hid fun i hi => (mpF_zero hW hH hn i hi).symm
  have hp0 := hb.1
  have HL := Lib.hid (show Below w.heap.size w (w.alloc (.cells #[.int .i64 0, .int .i64 0, .slice none 0 0] 26)) from (Below.refl _ _).alloc (Nat.le_refl _) _)
  clear hb hr hv hW hH hn hK
  go_enter Tryd.func68, Tryd.ntmps68
  go_wp2_with fail
  refine (spec_own2 _ p W H A n c f (HX.out.below HL.out hp0) (HR.out.below HL.out (Nat.le_refl _)) hn2).mono ?_
  rintro e w1 ⟨A1, c1, rfl, h1, b1⟩
  have bN := (Below.refl w1.heap.size w1).alloc (Nat.le_refl _) (.cells #[.int .i64 W, .int .i64 H, .slice A1 n c1] 26)
  have HS0 : Hid (LSt w w1.heap.size (mvW W H (lsI W H n f 0 : Nat)) (mvH W H (lsI W H n f 0 : Nat)) n (mpF W H (lsI W H n f 0 : Nat) f) A1 c1 (w1.alloc (.cells #[.int .i64 W, .int .i64 H, .slice A1 n c1] 26))) := Lib.hid
    ⟨((At.new w _ _).below b1 (by simp)).below bN (by have := b1.size; simp at this; omega), At.new w1 _ _, ((OwnRow.mono (base' := w.heap.size + 1) h1 (by simp)).cong2 HZ.out).below bN (Nat.le_refl _), (HL.out.trans (b1.mono (by simp))).trans (bN.mono (by have := b1.size; simp at this; omega)), by have := b1.size; simp at this; omega⟩
  clear bN b1 h1
  go_wp2
  go_loopw [4] (fun kv wr => ∃ k : Nat, k ≤ 7 ∧ kv = .int .i64 ((k : Int) + 1) ∧ ∃ (A2 : Option Addr) (c2 : Nat), Hid (LSt w w1.heap.size (mvW W H (lsI W H n f k : Nat)) (mvH W H (lsI W H n f k : Nat)) n (mpF W H (lsI W H n f k : Nat) f) A2 c2 wr)) (fun kv _ => 8 - (intOf kv).toNat)
  case atStart => exact ⟨0, Nat.zero_le _, rfl, A1, c1, HS0⟩
  case round =>
    clear HS0
    obtain ⟨k, hk, rfl, A2, c2, HS⟩ := hrel
    have hjl := lsI_le (W := W) (H := H) (n := n) (f := f) k
    have hbz := HS.out.bel.size
    by_cases hlt : k < 7
    · have hdec : decide ((k : Int) + 1 < 8) = true := decide_eq_true (by omega)
      have hs : inB ((k : Int) + 1) 0 7 = true := decide_eq_true ⟨by omega, by omega⟩
      have HM := Lib.hid (spec_map wr p W H A n c f ((k : Int) + 1) (HX.out.below HS.out.bel hp0) (HR.out.below HS.out.bel (Nat.le_refl _)) HV.out hs)
      go_wp2_with fail
      refine HM.out.mono ?_
      rintro e wa ⟨A3, c3, rfl, ho3, ba⟩
      have bN := (Below.refl wa.heap.size wa).alloc (Nat.le_refl _) (.cells #[.int .i64 (mvW W H ((k : Int) + 1)), .int .i64 (mvH W H ((k : Int) + 1)), .slice A3 n c3] 26)
      have HBx := Lib.hid (Box.new wa 26 (mvW W H ((k : Int) + 1)) (mvH W H ((k : Int) + 1)) A3 n c3)
      have HOx := Lib.hid (ho3.below bN (Nat.le_refl _))
      have HSq := Lib.hid (HS.out.next (ba.trans (bN.mono ba.size)))
      have hop := HS.out.pan.lt
      obtain ⟨v, hv⟩ : ∃ v, lsC W H n f (k + 1) (lsI W H n f k) = v := ⟨_, rfl⟩
      have HVV := Lib.hid hv
      have HC : Hid (Calls Tryd.prog 85 #[.pointer (some ⟨wa.heap.size, 0, none⟩), .pointer (some ⟨w1.heap.size, 0, none⟩)] (wa.alloc (.cells #[.int .i64 (mvW W H ((k : Int) + 1)), .int .i64 (mvH W H ((k : Int) + 1)), .slice A3 n c3] 26)) (Gives (.int .i64 v) (wa.alloc (.cells #[.int .i64 (mvW W H ((k : Int) + 1)), .int .i64 (mvH W H ((k : Int) + 1)), .slice A3 n c3] 26)))) :=
        Lib.hid (hv ▸ spec_compare _ wa.heap.size w1.heap.size _ _ _ _ A3 A2 n c3 n c2 (mpF W H ((k : Int) + 1) f) _ HBx.out HSq.out.box HOx.out.row HSq.out.row.row (HWf.out (k + 1)).1 (HWf.out (k + 1)).2 (HWf.out _).1 (HWf.out _).2)
      clear bN ho3 ba hv HM
      go_wp2_with fail
      refine HC.out.mono ?_
      rintro e wq ⟨rfl, bq⟩
      have HSr := Lib.hid (HSq.out.next bq)
      have HBr := Lib.hid (HBx.out.below bq HBx.out.1)
      have HOr := Lib.hid (HOx.out.below bq (Nat.le_refl _))
      obtain ⟨xz, x0, x1, x2⟩ := HBr.out
      obtain ⟨rz, oz, o0, o1, o2, f0, f1, f2, -, -, -, -, -, -⟩ := HSr.out.cells
      clear bq HSq HBx HOx HC HS
      by_cases hneg : v < 0
      · have e := lsI_yes (W := W) (H := H) (n := n) (f := f) (k := k) (by rw [HVV.out]; exact hneg)
        have HP := Lib.hid (HSr.out.put (W' := mvW W H ((k : Int) + 1)) (H' := mvH W H ((k : Int) + 1)) HOr.out hop)
        go_wp2
        go_roundw
        case rel => exact ⟨k + 1, by omega, by go_num, A3, c3, Lib.hid (by rw [e]; exact HP.out)⟩
        case measure => simp [intOf]; omega
      · have e := lsI_no (W := W) (H := H) (n := n) (f := f) (k := k) (by rw [HVV.out]; exact hneg)
        go_wp2
        go_roundw
        case rel => exact ⟨k + 1, by omega, by go_num, A2, c2, Lib.hid (by rw [e]; exact HSr.out)⟩
        case measure => simp [intOf]; omega
    · obtain rfl : k = 7 := by omega
      have hdec : decide ((((7 : Nat) : Int) + 1) < 8) = false := rfl
      have HQ := Lib.hid (HS.out.out (.int .i64 (mvW W H (lsI W H n f 7 : Nat))) (.int .i64 (mvH W H (lsI W H n f 7 : Nat))) (.slice A2 n c2))
      obtain ⟨rz, oz, o0, o1, o2, -, -, -, q0, q1, q2, g0, g1, g2⟩ := HS.out.cells
      go_wp2
      refine bodyPost_ret ?_ rfl ⟨A2, c2, rfl, HQ.out.1, HQ.out.2⟩
      simp [results, Tryd.results68, go_sem, q0, q1, q2]
end Go.Proofs.YtdofeonkgaceeaaDoor.Base

namespace Go.Proofs.YtdofeonkgaceeaaDoor.Base
open Go Go.RowKit
set_option linter.unusedVariables false
set_option linter.unusedSimpArgs false

def cqI (W H : Int) (n : Nat) (f : Nat → Int) : Int := (lsI W H n f 7 : Nat)
def cqW (W H : Int) (n : Nat) (f : Nat → Int) : Int := if validB W H n f then mvW W H (cqI W H n f) else 0
def cqH (W H : Int) (n : Nat) (f : Nat → Int) : Int := if validB W H n f then mvH W H (cqI W H n f) else 0
def cqN (W H : Int) (n : Nat) (f : Nat → Int) : Nat := if validB W H n f then n else 0
def cqF (W H : Int) (n : Nat) (f : Nat → Int) : Nat → Int := if validB W H n f then mpF W H (cqI W H n f) f else fun _ => 0
def cqC (W H : Int) (n : Nat) (f : Nat → Int) : Int := if validB W H n f then 0 else 1
theorem cq_ok {W H : Int} {n : Nat} {f : Nat → Int} (h : validB W H n f = true) : cqW W H n f = mvW W H (cqI W H n f) ∧ cqH W H n f = mvH W H (cqI W H n f) ∧ cqN W H n f = n ∧ cqF W H n f = mpF W H (cqI W H n f) f ∧ cqC W H n f = 0 := by simp [cqW, cqH, cqN, cqF, cqC, h]
theorem cq_no {W H : Int} {n : Nat} {f : Nat → Int} (h : validB W H n f = false) : cqW W H n f = 0 ∧ cqH W H n f = 0 ∧ cqN W H n f = 0 ∧ cqF W H n f = (fun _ => 0) ∧ cqC W H n f = 1 := by simp [cqW, cqH, cqN, cqF, cqC, h]
set_option maxHeartbeats 1000000 in
theorem spec_canonicalPanel (w : World) (W H : Int) (A : Option Addr) (n c : Nat) (f : Nat → Int) (hr : Row .i64 w A n c f) :
    Calls Tryd.prog 29 #[.agg #[.int .i64 W, .int .i64 H, .slice A n c]] w (PanelOut (cqW W H n f) (cqH W H n f) (cqN W H n f) (cqF W H n f) (cqC W H n f) w) := by
  have HS0 := Lib.hid (PSt.mk2 w W H A n c)
  have HR := Lib.hid (hr.below (PSt.mk2 w W H A n c).bel (Nat.le_refl _))
  clear hr
  cases hv : validB W H n f
  · rw [(cq_no hv).1, (cq_no hv).2.1, (cq_no hv).2.2.1, (cq_no hv).2.2.2.1, (cq_no hv).2.2.2.2]
    have HC : Hid (∀ (w : World) (p : Nat), Box w p W H A n c → Row .i64 w A n c f → Calls Tryd.prog 54 #[.pointer (some ⟨p, 0, none⟩)] w (Gives (.bool false) w)) := Lib.hid fun w p hb h => (specOk_is hv hb h).mono fun _ _ h => drew_gives h
    clear hv
    go_enter Tryd.func29, Tryd.ntmps29
    go_wp2_with fail
    refine (HC.out _ _ HS0.out.box HR.out).mono ?_
    rintro e w1 ⟨rfl, b1⟩
    have HS1 := Lib.hid (HS0.out.next b1)
    obtain ⟨zA, zB, k0, k1, k2, r0, r1, r2, f0, f1, f2⟩ := HS1.out.cells
    clear b1
    go_wp2
    refine bodyPost_ret ?_ rfl ⟨none, 0, rfl, ownRow_nil _ _ _, HS1.out.out _ _ _⟩
    simp [results, Tryd.results29, go_sem, r0, r1, r2]
  · rw [(cq_ok hv).1, (cq_ok hv).2.1, (cq_ok hv).2.2.1, (cq_ok hv).2.2.2.1, (cq_ok hv).2.2.2.2]
    have HC : Hid (∀ (w : World) (p : Nat), Box w p W H A n c → Row .i64 w A n c f → Calls Tryd.prog 54 #[.pointer (some ⟨p, 0, none⟩)] w (Gives (.bool true) w)) := Lib.hid fun w p hb h => (specOk_is hv hb h).mono fun _ _ h => drew_gives h
    have HM : Hid (∀ (w : World) (p : Nat), Box w p W H A n c → Row .i64 w A n c f → Calls Tryd.prog 68 #[.pointer (some ⟨p, 0, none⟩)] w (PanelMade (mvW W H (cqI W H n f)) (mvH W H (cqI W H n f)) n (mpF W H (cqI W H n f) f) w)) := Lib.hid fun w p hb h => spec_least w p W H A n c f hb h hv
    clear hv
    go_enter Tryd.func29, Tryd.ntmps29
    go_wp2_with fail
    refine (HC.out _ _ HS0.out.box HR.out).mono ?_
    rintro e w1 ⟨rfl, b1⟩
    have HS1 := Lib.hid (HS0.out.next b1)
    have HR1 := Lib.hid (HR.out.below b1 (Nat.le_refl _))
    clear b1
    go_wp2_with fail
    refine (HM.out _ _ HS1.out.box HR1.out).mono ?_
    rintro e w2 ⟨A2, c2, rfl, ho, b2⟩
    have HS2 := Lib.hid (HS1.out.next b2)
    have HO := Lib.hid ho
    have hz1 := HS1.out.res.lt
    obtain ⟨zA, zB, k0, k1, k2, r0, r1, r2, f0, f1, f2⟩ := HS2.out.cells
    clear b2 ho
    go_wp2
    refine bodyPost_ret ?_ rfl ⟨A2, c2, rfl, (ownRow_setBox HO.out hz1 _ _ _).mono (by have := HS1.out.bel.size; omega), HS2.out.out _ _ _⟩
    simp [results, Tryd.results29, go_sem, r0, r1, r2]
/-- both valid, their canonical panels equal -/
def alB (W H : Int) (n : Nat) (f : Nat → Int) (W' H' : Int) (n' : Nat) (f' : Nat → Int) : Bool :=
  validB W H n f && validB W' H' n' f' && sameB (mvW W H (cqI W H n f)) (mvH W H (cqI W H n f)) n (mpF W H (cqI W H n f) f) (mvW W' H' (cqI W' H' n' f')) (mvH W' H' (cqI W' H' n' f')) n' (mpF W' H' (cqI W' H' n' f') f')
set_option maxHeartbeats 2000000 in
theorem spec_alikePanels (w : World) (W H W' H' : Int) (A A' : Option Addr) (n c n' c' : Nat) (f f' : Nat → Int) (hr : Row .i64 w A n c f) (hr' : Row .i64 w A' n' c' f') :
    Calls Tryd.prog 31 #[.agg #[.int .i64 W, .int .i64 H, .slice A n c], .agg #[.int .i64 W', .int .i64 H', .slice A' n' c']] w (Gives (.bool (alB W H n f W' H' n' f')) w) := by
  have hbel : Below w.heap.size w ((w.alloc (.cells #[.int .i64 W, .int .i64 H, .slice A n c] 26)).alloc (.cells #[.int .i64 W', .int .i64 H', .slice A' n' c'] 26)) := by go_grown
  have HL := Lib.hid hbel
  have HX := Lib.hid (box_two w 26 W H W' H' A A' n c n' c')
  have HR := Lib.hid (hr.below hbel (Nat.le_refl _))
  have HR' := Lib.hid (hr'.below hbel (Nat.le_refl _))
  clear hr hr' hbel
  cases hv : validB W H n f
  · have e : alB W H n f W' H' n' f' = false := by simp [alB, hv]
    rw [e]
    have HV := Lib.hid hv
    clear e hv
    go_enter Tryd.func31, Tryd.ntmps31
    go_wp2_with fail
    refine (specOk_is HV.out HX.out.1 HR.out).mono ?_
    rintro e w1 ⟨m, rfl, rfl⟩
    go_wp2
    go_ret
    exact ⟨rfl, below_drewN HL.out m⟩
  · cases hv' : validB W' H' n' f'
    · have e : alB W H n f W' H' n' f' = false := by simp [alB, hv']
      rw [e]
      have HV := Lib.hid hv
      have HV' := Lib.hid hv'
      clear e hv hv'
      go_enter Tryd.func31, Tryd.ntmps31
      go_wp2_with fail
      refine (specOk_is HV.out HX.out.1 HR.out).mono ?_
      rintro e w1 ⟨m, rfl, rfl⟩
      have HB1 := Lib.hid (drewB ((w.alloc (.cells #[.int .i64 W, .int .i64 H, .slice A n c] 26)).alloc (.cells #[.int .i64 W', .int .i64 H', .slice A' n' c'] 26)) m)
      go_wp2_with fail
      refine (specOk_is HV'.out (HX.out.2.below HB1.out HX.out.2.1) (HR'.out.below HB1.out (Nat.le_refl _))).mono ?_
      rintro e w2 ⟨m2, rfl, rfl⟩
      go_wp2
      go_ret
      exact ⟨rfl, below_drewN HL.out (m + m2)⟩
    · obtain ⟨v, hvv⟩ : ∃ v, alB W H n f W' H' n' f' = v := ⟨_, rfl⟩
      rw [hvv]
      have HVV : Hid (sameB (mvW W H (cqI W H n f)) (mvH W H (cqI W H n f)) n (mpF W H (cqI W H n f) f) (mvW W' H' (cqI W' H' n' f')) (mvH W' H' (cqI W' H' n' f')) n' (mpF W' H' (cqI W' H' n' f') f') = v) := Lib.hid (by rw [← hvv]; simp [alB, hv, hv'])
      have HV := Lib.hid hv
      have HV' := Lib.hid hv'
      clear hvv hv hv'
      go_enter Tryd.func31, Tryd.ntmps31
      go_wp2_with fail
      refine (specOk_is HV.out HX.out.1 HR.out).mono ?_
      rintro e w1 ⟨m, rfl, rfl⟩
      have HB1 := Lib.hid (drewB ((w.alloc (.cells #[.int .i64 W, .int .i64 H, .slice A n c] 26)).alloc (.cells #[.int .i64 W', .int .i64 H', .slice A' n' c'] 26)) m)
      go_wp2_with fail
      refine (specOk_is HV'.out (HX.out.2.below HB1.out HX.out.2.1) (HR'.out.below HB1.out (Nat.le_refl _))).mono ?_
      rintro e w2 ⟨m2, rfl, rfl⟩
      go_wp2_with fail
      have b2 := drewB ((w.alloc (.cells #[.int .i64 W, .int .i64 H, .slice A n c] 26)).alloc (.cells #[.int .i64 W', .int .i64 H', .slice A' n' c'] 26)) (m + m2)
      have HX2 := Lib.hid (And.intro (HX.out.1.below b2 HX.out.1.1) (HX.out.2.below b2 HX.out.2.1))
      have HR2 := Lib.hid (HR.out.below b2 (Nat.le_refl _))
      have HR2' := Lib.hid (HR'.out.below b2 (Nat.le_refl _))
      have HL2 := Lib.hid (below_drewN HL.out (m + m2))
      generalize ((w.alloc (.cells #[.int .i64 W, .int .i64 H, .slice A n c] 26)).alloc (.cells #[.int .i64 W', .int .i64 H', .slice A' n' c'] 26)).drewN (m + m2) = w2 at *
      clear HB1 b2 HX HR HR' HL
      refine (spec_least w2 w.heap.size W H A n c f HX2.out.1 HR2.out HV.out).mono ?_
      rintro e w3 ⟨A3, c3, rfl, h3, b3⟩
      have a3 := (Below.refl w3.heap.size w3).alloc (Nat.le_refl _) (.cells #[.int .i64 (mvW W H (cqI W H n f)), .int .i64 (mvH W H (cqI W H n f)), .slice A3 n c3] 26)
      have HX3 := Lib.hid (Box.new w3 26 (mvW W H (cqI W H n f)) (mvH W H (cqI W H n f)) A3 n c3)
      have HO3 := Lib.hid (h3.row.below a3 (Nat.le_refl _))
      have b3' := b3.trans (a3.mono b3.size)
      have HX4 := Lib.hid (HX2.out.2.below b3' HX2.out.2.1)
      have HR4 := Lib.hid (HR2'.out.below b3' (Nat.le_refl _))
      have HL4 := Lib.hid (HL2.out.trans (b3'.mono HL2.out.size))
      clear a3 h3 b3 b3' HX2 HR2 HR2' HL2
      go_wp2_with fail
      refine (spec_least _ (w.heap.size + 1) W' H' A' n' c' f' HX4.out HR4.out HV'.out).mono ?_
      rintro e w5 ⟨A5, c5, rfl, h5, b5⟩
      have a5 := (Below.refl w5.heap.size w5).alloc (Nat.le_refl _) (.cells #[.int .i64 (mvW W' H' (cqI W' H' n' f')), .int .i64 (mvH W' H' (cqI W' H' n' f')), .slice A5 n' c5] 26)
      have HX6' := Lib.hid (Box.new w5 26 (mvW W' H' (cqI W' H' n' f')) (mvH W' H' (cqI W' H' n' f')) A5 n' c5)
      have HO6' := Lib.hid (h5.row.below a5 (Nat.le_refl _))
      have b5' := b5.trans (a5.mono b5.size)
      have HX6 := Lib.hid (HX3.out.below b5' HX3.out.1)
      have HO6 := Lib.hid (HO3.out.below b5' (Nat.le_refl _))
      have HL6 := Lib.hid (HL4.out.trans (b5'.mono HL4.out.size))
      clear a5 h5 b5 b5' HX3 HO3 HX4 HR4 HL4
      have HSm : Hid (Calls Tryd.prog 71 #[.pointer (some ⟨w3.heap.size, 0, none⟩), .pointer (some ⟨w5.heap.size, 0, none⟩)] (w5.alloc (.cells #[.int .i64 (mvW W' H' (cqI W' H' n' f')), .int .i64 (mvH W' H' (cqI W' H' n' f')), .slice A5 n' c5] 26)) (Drew (.bool v) (w5.alloc (.cells #[.int .i64 (mvW W' H' (cqI W' H' n' f')), .int .i64 (mvH W' H' (cqI W' H' n' f')), .slice A5 n' c5] 26)))) :=
        Lib.hid (HVV.out ▸ specSame _ w3.heap.size w5.heap.size _ _ _ _ A3 A5 n c3 n' c5 _ _ HX6.out HX6'.out HO6.out HO6'.out)
      go_wp2_with fail
      refine HSm.out.mono ?_
      rintro e w7 ⟨m7, rfl, rfl⟩
      go_wp2
      go_ret
      exact ⟨rfl, below_drewN HL6.out m7⟩
end Go.Proofs.YtdofeonkgaceeaaDoor.Base

namespace Go.Proofs.YtdofeonkgaceeaaDoor.Base
open Go Go.RowKit
set_option linter.unusedVariables false
set_option linter.unusedSimpArgs false

/-- eight panels in block b: those of the symmetries -/
structure Eight (w : World) (b : Nat) (W H : Int) (n : Nat) (f : Nat → Int) (A : Nat → Option Addr) (c : Nat → Nat) : Prop where
  lt : b < w.heap.size
  cells : ∀ k, k < 8 → w.cell? ⟨b, k * 3, none⟩ = some (.int .i64 (mvW W H k)) ∧ w.cell? ⟨b, k * 3 + 1, none⟩ = some (.int .i64 (mvH W H k)) ∧ w.cell? ⟨b, k * 3 + 2, none⟩ = some (.slice (A k) n (c k))
  rows : ∀ k, k < 8 → Row .i64 w (A k) n (c k) (mpF W H k f)
theorem Eight.below {w w' : World} {b : Nat} {W H : Int} {n : Nat} {f : Nat → Int} {A : Nat → Option Addr} {c : Nat → Nat} {B : Nat} (h : Eight w b W H n f A c) (e : Below B w w') (hB : w.heap.size ≤ B) : Eight w' b W H n f A c :=
  ⟨Nat.lt_of_lt_of_le h.lt e.size, fun k hk => by
    obtain ⟨h1, h2, h3⟩ := h.cells k hk
    have hb : b < B := Nat.lt_of_lt_of_le h.lt hB
    exact ⟨(e.cell (p := ⟨b, k * 3, none⟩) hb).trans h1, (e.cell (p := ⟨b, k * 3 + 1, none⟩) hb).trans h2, (e.cell (p := ⟨b, k * 3 + 2, none⟩) hb).trans h3⟩, fun k hk => (h.rows k hk).below e hB⟩
/-- the boxes of MinFunc -/
structure NSt (w0 : World) (o : Nat) (W H : Int) (n : Nat) (A : Option Addr) (c : Nat) (w : World) : Prop where
  res : At w w0.heap.size #[.int .i64 0, .int .i64 0, .slice none 0 0] 26
  pan : At w o #[.int .i64 W, .int .i64 H, .slice A n c] 26
  bel : Below w0.heap.size w0 w
  lo : w0.heap.size < o
section
variable {w0 w w' : World} {o : Nat} {W H : Int} {n : Nat} {A : Option Addr} {c : Nat}
theorem NSt.next (h : NSt w0 o W H n A c w) (b : Below w.heap.size w w') : NSt w0 o W H n A c w' :=
  ⟨h.res.below b h.res.lt, h.pan.below b h.pan.lt, h.bel.trans (b.mono h.bel.size), h.lo⟩
theorem NSt.put (h : NSt w0 o W H n A c w) (W' H' : Int) (n' : Nat) (A' : Option Addr) (c' : Nat) :
    NSt w0 o W' H' n' A' c' (((w.setCell ⟨o, 0, none⟩ (.int .i64 W')).setCell ⟨o, 1, none⟩ (.int .i64 H')).setCell ⟨o, 2, none⟩ (.slice A' n' c')) :=
  ⟨((h.res.setOther (a := ⟨o, 0, none⟩) (by have := h.lo; show o ≠ w0.heap.size; omega) _).setOther (a := ⟨o, 1, none⟩) (by have := h.lo; show o ≠ w0.heap.size; omega) _).setOther (a := ⟨o, 2, none⟩) (by have := h.lo; show o ≠ w0.heap.size; omega) _,
   ((h.pan.set 0 _).set 1 _).set 2 _,
   ((h.bel.setCell (p := ⟨o, 0, none⟩) (by have := h.lo; show w0.heap.size ≤ o; omega) _).setCell (p := ⟨o, 1, none⟩) (by have := h.lo; show w0.heap.size ≤ o; omega) _).setCell (p := ⟨o, 2, none⟩) (by have := h.lo; show w0.heap.size ≤ o; omega) _, h.lo⟩
theorem NSt.cells (h : NSt w0 o W H n A c w) : w0.heap.size < w.heap.size ∧ o < w.heap.size ∧ w.cell? ⟨o, 0, none⟩ = some (.int .i64 W) ∧ w.cell? ⟨o, 1, none⟩ = some (.int .i64 H) ∧ w.cell? ⟨o, 2, none⟩ = some (.slice A n c) ∧
    w.frozen? ⟨o, 0, none⟩ = false ∧ w.frozen? ⟨o, 1, none⟩ = false ∧ w.frozen? ⟨o, 2, none⟩ = false ∧
    w.cell? ⟨w0.heap.size, 0, none⟩ = some (.int .i64 0) ∧ w.cell? ⟨w0.heap.size, 1, none⟩ = some (.int .i64 0) ∧ w.cell? ⟨w0.heap.size, 2, none⟩ = some (.slice none 0 0) ∧
    w.frozen? ⟨w0.heap.size, 0, none⟩ = false ∧ w.frozen? ⟨w0.heap.size, 1, none⟩ = false ∧ w.frozen? ⟨w0.heap.size, 2, none⟩ = false :=
  ⟨h.res.lt, h.pan.lt, h.pan.cellv (i := 0) rfl, h.pan.cellv (i := 1) rfl, h.pan.cellv (i := 2) rfl, h.pan.frozen 0, h.pan.frozen 1, h.pan.frozen 2, h.res.cellv (i := 0) rfl, h.res.cellv (i := 1) rfl, h.res.cellv (i := 2) rfl, h.res.frozen 0, h.res.frozen 1, h.res.frozen 2⟩
theorem NSt.out (h : NSt w0 o W H n A c w) (x y z : Value) : Below w0.heap.size w0 (((w.setCell ⟨w0.heap.size, 0, none⟩ x).setCell ⟨w0.heap.size, 1, none⟩ y).setCell ⟨w0.heap.size, 2, none⟩ z) :=
  ((h.bel.setCell (p := ⟨w0.heap.size, 0, none⟩) (Nat.le_refl _) _).setCell (p := ⟨w0.heap.size, 1, none⟩) (Nat.le_refl _) _).setCell (p := ⟨w0.heap.size, 2, none⟩) (Nat.le_refl _) _
end
set_option maxHeartbeats 1500000 in
set_option maxRecDepth 100000 in
theorem lib_minFunc (w : World) (b cap : Nat) (W H : Int) (n : Nat) (f : Nat → Int) (A : Nat → Option Addr) (c : Nat → Nat) (hE : Eight w b W H n f A c) :
    Calls Tryd.prog 69 #[.slice (some ⟨b, 0, none⟩) 8 cap, .func (.func 70) #[] #[]] w
      fun e w' => e = .returned (.agg #[.int .i64 (mvW W H (lsI W H n f 7 : Nat)), .int .i64 (mvH W H (lsI W H n f 7 : Nat)), .slice (A (lsI W H n f 7)) n (c (lsI W H n f 7))]) ∧ Below w.heap.size w w' := by
  have HE := Lib.hid hE
  have hbw := hE.lt
  obtain ⟨e0, e1, e2⟩ := hE.cells 0 (by omega)
  have HL := Lib.hid (show Below w.heap.size w (w.alloc (.cells #[.int .i64 0, .int .i64 0, .slice none 0 0] 26)) from (Below.refl _ _).alloc (Nat.le_refl _) _)
  have bN := (Below.refl (w.heap.size + 1) (w.alloc (.cells #[.int .i64 0, .int .i64 0, .slice none 0 0] 26))).alloc (by simp) (.cells #[.int .i64 (mvW W H (0 : Nat)), .int .i64 (mvH W H (0 : Nat)), .slice (A 0) n (c 0)] 26)
  have hAn := At.new (w.alloc (.cells #[.int .i64 0, .int .i64 0, .slice none 0 0] 26)) #[.int .i64 (mvW W H (0 : Nat)), .int .i64 (mvH W H (0 : Nat)), .slice (A 0) n (c 0)] 26
  rw [World.size_alloc] at hAn
  have HS0 : Hid (NSt w (w.heap.size + 1) (mvW W H (lsI W H n f 0 : Nat)) (mvH W H (lsI W H n f 0 : Nat)) n (A (lsI W H n f 0)) (c (lsI W H n f 0)) ((w.alloc (.cells #[.int .i64 0, .int .i64 0, .slice none 0 0] 26)).alloc (.cells #[.int .i64 (mvW W H (0 : Nat)), .int .i64 (mvH W H (0 : Nat)), .slice (A 0) n (c 0)] 26))) := Lib.hid
    ⟨(At.new w _ _).below bN (by simp), hAn, HL.out.trans (bN.mono (by simp)), Nat.lt_succ_self _⟩
  clear hE bN hAn
  go_enter Tryd.func69, Tryd.ntmps69
  go_wp2
  go_loopw [6] (fun kv wr => ∃ k : Nat, k ≤ 7 ∧ kv = .int .i64 ((k : Int) + 1) ∧ Hid (NSt w (w.heap.size + 1) (mvW W H (lsI W H n f k : Nat)) (mvH W H (lsI W H n f k : Nat)) n (A (lsI W H n f k)) (c (lsI W H n f k)) wr)) (fun kv _ => 8 - (intOf kv).toNat)
  case atStart => exact ⟨0, Nat.zero_le _, rfl, HS0⟩
  case round =>
    clear HS0 e0 e1 e2
    obtain ⟨k, hk, rfl, HS⟩ := hrel
    have hjl := lsI_le (W := W) (H := H) (n := n) (f := f) k
    have hbz := HS.out.bel.size
    by_cases hlt : k < 7
    · have hdec : decide ((k : Int) + 1 < 8) = true := decide_eq_true (by omega)
      have hneg : ¬ (k : Int) + 1 < 0 := by omega
      have hin : (k : Int) + 1 < 8 := by omega
      have htn : ((k : Int) + 1).toNat = k + 1 := by omega
      have hcast : ((k : Int) + 1) = ((k + 1 : Nat) : Int) := by omega
      have HEr := Lib.hid (HE.out.below HS.out.bel (Nat.le_refl _))
      have hbr := HEr.out.lt
      obtain ⟨q0, q1, q2⟩ := HEr.out.cells (k + 1) (by omega)
      obtain ⟨rz, oz, o0, o1, o2, f0, f1, f2, -, -, -, -, -, -⟩ := HS.out.cells
      obtain ⟨v, hv⟩ : ∃ v, lsC W H n f (k + 1) (lsI W H n f k) = v := ⟨_, rfl⟩
      have HVV := Lib.hid hv
      have HC : Hid (∀ w' : World, Below wr.heap.size wr w' → Calls Tryd.prog 70 #[.agg #[.int .i64 (mvW W H (k + 1 : Nat)), .int .i64 (mvH W H (k + 1 : Nat)), .slice (A (k + 1)) n (c (k + 1))], .agg #[.int .i64 (mvW W H (lsI W H n f k : Nat)), .int .i64 (mvH W H (lsI W H n f k : Nat)), .slice (A (lsI W H n f k)) n (c (lsI W H n f k))]] w' (Gives (.int .i64 v) w')) :=
        Lib.hid (fun w' hb' => hv ▸ impl_cmp w' _ _ _ _ _ _ n _ n _ _ _ ((HEr.out.rows (k + 1) (by omega)).below hb' (Nat.le_refl _)) ((HEr.out.rows _ (by omega)).below hb' (Nat.le_refl _)))
      have OL := Lib.hid (Old.mk_ (Below.refl wr.heap.size wr).drew)
      clear hv hcast
      go_wp2
      go_region_held3 (fun w' => (∀ b o, b < (wr).heap.size → w'.cell? ⟨b, o, none⟩ = (wr).cell? ⟨b, o, none⟩) ∧ Below (wr).heap.size (wr) w') (first | assumption | exact OL.out | exact Old.trans (by assumption) (by assumption))
        (first | (go_at_call 70; refine (HC.out _ ?_).mono ?_; exact OL.out.2; rintro e wa ⟨rfl, ba⟩))
      rename_i hS
      have bw := hS.2
      have HSr := Lib.hid (HS.out.next bw)
      have HEq := Lib.hid (HEr.out.below bw (Nat.le_refl _))
      clear hS HS HEr OL HC q0 q1 q2 o0 o1 o2 f0 f1 f2 rz oz
      obtain ⟨q0, q1, q2⟩ := HEq.out.cells (k + 1) (by omega)
      have hbq := HEq.out.lt
      obtain ⟨rz, oz, o0, o1, o2, f0, f1, f2, -, -, -, -, -, -⟩ := HSr.out.cells
      by_cases hvn : v < 0
      · have e := lsI_yes (W := W) (H := H) (n := n) (f := f) (k := k) (by rw [HVV.out]; exact hvn)
        have HE2 := Lib.hid e
        have HP := Lib.hid (HSr.out.put (mvW W H (k + 1 : Nat)) (mvH W H (k + 1 : Nat)) n (A (k + 1)) (c (k + 1)))
        clear e
        go_wp2
        go_roundw
        case rel => exact ⟨k + 1, by omega, by go_num, Lib.hid (by rw [HE2.out]; exact HP.out)⟩
        case measure => simp [intOf]; omega
      · have HE2 := Lib.hid (lsI_no (W := W) (H := H) (n := n) (f := f) (k := k) (by rw [HVV.out]; exact hvn))
        go_wp2
        go_roundw
        case rel => exact ⟨k + 1, by omega, by go_num, Lib.hid (by rw [HE2.out]; exact HSr.out)⟩
        case measure => simp [intOf]; omega
    · obtain rfl : k = 7 := by omega
      have hdec : decide ((((7 : Nat) : Int) + 1) < 8) = false := rfl
      have HQ := Lib.hid (HS.out.out (.int .i64 (mvW W H (lsI W H n f 7 : Nat))) (.int .i64 (mvH W H (lsI W H n f 7 : Nat))) (.slice (A (lsI W H n f 7)) n (c (lsI W H n f 7))))
      obtain ⟨rz, oz, o0, o1, o2, -, -, -, q0, q1, q2, g0, g1, g2⟩ := HS.out.cells
      go_wp2
      refine bodyPost_ret ?_ rfl ⟨rfl, HQ.out⟩
      simp [results, Tryd.results69, go_sem, q0, q1, q2]
end Go.Proofs.YtdofeonkgaceeaaDoor.Base

namespace Go.Proofs.YtdofeonkgaceeaaDoor.Base
open Go Go.RowKit
set_option linter.unusedVariables false
set_option linter.unusedSimpArgs false

theorem infoPanel : (Tryd.prog.info? 26).map (fun i => (i.zero, i.size, i.bytes)) = some (some (.agg #[.int .i64 0, .int .i64 0, .slice none 0 0]), 3, 40) := by kernel_rfl
/-- the cells of the first k panels -/
def pnc (W H : Int) (n : Nat) (A : Nat → Option Addr) (c : Nat → Nat) : Nat → List Value
  | 0 => []
  | k + 1 => pnc W H n A c k ++ [.int .i64 (mvW W H k), .int .i64 (mvH W H k), .slice (A k) n (c k)]
def upd {α : Type} (A : Nat → α) (k : Nat) (v : α) (i : Nat) : α := if i = k then v else A i
theorem upd_eq {α : Type} (A : Nat → α) (k : Nat) (v : α) : upd A k v k = v := if_pos rfl
theorem upd_ne {α : Type} (A : Nat → α) {k i : Nat} (v : α) (h : i < k) : upd A k v i = A i := if_neg (by omega)
section
variable {W H : Int} {n : Nat} {A A' : Nat → Option Addr} {c c' : Nat → Nat}
theorem pnc_len : ∀ k, (pnc W H n A c k).length = k * 3
  | 0 => rfl
  | k + 1 => by
    show (pnc W H n A c k ++ _).length = _
    rw [List.length_append, pnc_len k]
    simp
    omega
theorem pnc_congr : ∀ k, (∀ i, i < k → A i = A' i ∧ c i = c' i) → pnc W H n A c k = pnc W H n A' c' k
  | 0, _ => rfl
  | k + 1, h => by
    show pnc W H n A c k ++ _ = pnc W H n A' c' k ++ _
    rw [pnc_congr k (fun i hi => h i (by omega)), (h k (by omega)).1, (h k (by omega)).2]
theorem pnc_at : ∀ k i, i < k → (pnc W H n A c k)[i * 3]? = some (.int .i64 (mvW W H i)) ∧ (pnc W H n A c k)[i * 3 + 1]? = some (.int .i64 (mvH W H i)) ∧ (pnc W H n A c k)[i * 3 + 2]? = some (.slice (A i) n (c i))
  | 0, i, h => absurd h (Nat.not_lt_zero _)
  | k + 1, i, h => by
    have hl := pnc_len (W := W) (H := H) (n := n) (A := A) (c := c) k
    by_cases e : i = k
    · subst e
      show (pnc W H n A c i ++ _)[_]? = _ ∧ (pnc W H n A c i ++ _)[_]? = _ ∧ (pnc W H n A c i ++ _)[_]? = _
      rw [List.getElem?_append_right (by omega), List.getElem?_append_right (by omega), List.getElem?_append_right (by omega), hl]
      rw [Nat.sub_self, Nat.add_sub_cancel_left, Nat.add_sub_cancel_left]
      exact ⟨rfl, rfl, rfl⟩
    · obtain ⟨h1, h2, h3⟩ := pnc_at k i (by omega)
      show (pnc W H n A c k ++ _)[_]? = _ ∧ (pnc W H n A c k ++ _)[_]? = _ ∧ (pnc W H n A c k ++ _)[_]? = _
      rw [List.getElem?_append_left (by omega), List.getElem?_append_left (by omega), List.getElem?_append_left (by omega)]
      exact ⟨h1, h2, h3⟩
end
/-- behind k rounds -/
structure KSt (w0 : World) (W H : Int) (n : Nat) (f : Nat → Int) (A0 : Option Addr) (c0 k : Nat) (A : Nat → Option Addr) (c : Nat → Nat) (u : Value) (w : World) : Prop where
  st : PSt w0 W H A0 n c0 w
  own : w.ownsRow (w0.heap.size + 2) 26 3 u k (pnc W H n A c k)
  rows : ∀ i, i < k → OwnRow w (w0.heap.size + 2) (A i) n (c i) (mpF W H i f)
  far : ∀ i, i < k → ∀ b, 0 < n → blk (A i) = some b → u.ownBlock = some b → False
section
variable {w0 w w' : World} {W H : Int} {n : Nat} {f : Nat → Int} {A0 : Option Addr} {c0 k : Nat} {A : Nat → Option Addr} {c : Nat → Nat} {u : Value}
theorem KSt.next (h : KSt w0 W H n f A0 c0 k A c u w) (b : Below w.heap.size w w') : KSt w0 W H n f A0 c0 k A c u w' :=
  ⟨h.st.next b, owns_belowS h.own b, fun i hi => (h.rows i hi).below b (Nat.le_refl _), h.far⟩
theorem PSt.grown {A1 : Option Addr} {c1 : Nat} {r : Option Nat} (h : PSt w0 W H A1 n c1 w) (g : w.grownBy w' r) (hr : ∀ b, r = some b → w0.heap.size + 2 ≤ b) : PSt w0 W H A1 n c1 w' :=
  ⟨h.pan.grown g (fun e => by have := hr _ e.symm; omega), h.res.grown g (fun e => by have := hr _ e.symm; omega), h.bel.grown g h.bel.size (fun b e => by have := hr b e; omega)⟩
theorem KSt.app {X w6 : World} {A2 : Option Addr} {c2 g cap base : Nat} (h : KSt w0 W H n f A0 c0 k A c u X) (hu : ∀ b, u.ownBlock = some b → b < base) (hb : w0.heap.size + 2 ≤ base) (hrow : OwnRow X base A2 n c2 (mpF W H k f))
    (how : w6.ownsRow (w0.heap.size + 2) 26 3 (.slice (some ⟨g, 0, none⟩) (k + 1) cap) (k + 1) (pnc W H n A c k ++ [.int .i64 (mvW W H k), .int .i64 (mvH W H k), .slice A2 n c2]))
    (hg : X.grownBy w6 u.ownBlock) (hat : u.ownBlock = some g ∨ g = X.heap.size) : KSt w0 W H n f A0 c0 (k + 1) (upd A k A2) (upd c k c2) (.slice (some ⟨g, 0, none⟩) (k + 1) cap) w6 := by
  refine ⟨h.st.grown hg (fun b e => (h.own.lt b e).1), ?_, fun i hi => ?_, fun i hi b hn hb' e => ?_⟩
  · have e : pnc W H n (upd A k A2) (upd c k c2) (k + 1) = pnc W H n A c k ++ [.int .i64 (mvW W H k), .int .i64 (mvH W H k), .slice A2 n c2] := by
      show pnc W H n (upd A k A2) (upd c k c2) k ++ _ = _
      rw [pnc_congr (A' := A) (c' := c) k (fun i hi => ⟨upd_ne A A2 hi, upd_ne c c2 hi⟩), upd_eq, upd_eq]
    rw [e]
    exact how
  · by_cases e : i = k
    · subst e
      rw [upd_eq, upd_eq]
      exact (hrow.grownR hg (fun b hn hb' e => by have := (hrow.base_lt hn b hb').1; have := hu b e; omega)).mono hb
    · rw [upd_ne A A2 (by omega), upd_ne c c2 (by omega)]
      exact (h.rows i (by omega)).grownR hg (fun b hn hb' e => h.far i (by omega) b hn hb' e)
  · have e' : g = b := by simpa [Value.ownBlock] using e
    subst e'
    by_cases ei : i = k
    · subst ei
      rw [upd_eq] at hb'
      have := hrow.base_lt hn g hb'
      rcases hat with h1 | h1
      · have := hu g h1; omega
      · omega
    · rw [upd_ne A A2 (by omega)] at hb'
      have := (h.rows i (by omega)).base_lt hn g hb'
      rcases hat with h1 | h1
      · exact h.far i (by omega) g hn hb' h1
      · omega
theorem KSt.eight {b cap : Nat} (h : KSt w0 W H n f A0 c0 8 A c (.slice (some ⟨b, 0, none⟩) 8 cap) w) : Eight w b W H n f A c := by
  refine ⟨(h.own.lt b rfl).2, fun k hk => ?_, fun k hk => (h.rows k hk).row⟩
  obtain ⟨h1, h2, h3⟩ := pnc_at (W := W) (H := H) (n := n) (A := A) (c := c) 8 k hk
  exact ⟨(h.own.cellAt _ (by omega)).trans h1, (h.own.cellAt _ (by omega)).trans h2, (h.own.cellAt _ (by omega)).trans h3⟩
end
set_option maxHeartbeats 2000000 in
set_option maxRecDepth 100000 in
theorem impl_canonicalPanel (w : World) (W H : Int) (A : Option Addr) (n c : Nat) (f : Nat → Int) (hr : Row .i64 w A n c f) (hT : Cel w 0 [.int .i64 0, .int .i64 2, .int .i64 1]) :
    Calls Tryd.prog 30 #[.agg #[.int .i64 W, .int .i64 H, .slice A n c]] w (PanelOut (cqW W H n f) (cqH W H n f) (cqN W H n f) (cqF W H n f) (cqC W H n f) w) := by
  have HS0 := Lib.hid (PSt.mk2 w W H A n c)
  have HR := Lib.hid hr
  have HT := Lib.hid hT
  clear hr hT
  cases hv : validB W H n f
  · rw [(cq_no hv).1, (cq_no hv).2.1, (cq_no hv).2.2.1, (cq_no hv).2.2.2.1, (cq_no hv).2.2.2.2]
    have HV := Lib.hid hv
    clear hv
    obtain ⟨zA, zB, k0, k1, k2, r0, r1, r2, f0, f1, f2⟩ := HS0.out.cells
    go_enter Tryd.func30, Tryd.ntmps30
    go_wp2_with fail
    refine (implOk_is HV.out (HR.out.below HS0.out.bel (Nat.le_refl _))).mono ?_
    clear zA zB k0 k1 k2 r0 r1 r2 f0 f1 f2
    rintro e w1 ⟨rfl, b1⟩
    have HS1 := Lib.hid (HS0.out.next b1)
    obtain ⟨zA, zB, k0, k1, k2, r0, r1, r2, f0, f1, f2⟩ := HS1.out.cells
    clear b1
    go_wp2
    refine bodyPost_ret ?_ rfl ⟨none, 0, rfl, ownRow_nil _ _ _, HS1.out.out _ _ _⟩
    simp [results, Tryd.results30, go_sem, r0, r1, r2]
  · rw [(cq_ok hv).1, (cq_ok hv).2.1, (cq_ok hv).2.2.1, (cq_ok hv).2.2.2.1, (cq_ok hv).2.2.2.2]
    have HV := Lib.hid hv
    clear hv
    obtain ⟨i2, hi2, hz0, hz1, hz2⟩ := info_parts infoPanel
    obtain ⟨zA, zB, k0, k1, k2, r0, r1, r2, f0, f1, f2⟩ := HS0.out.cells
    go_enter Tryd.func30, Tryd.ntmps30
    go_wp2_with fail
    refine (implOk_is HV.out (HR.out.below HS0.out.bel (Nat.le_refl _))).mono ?_
    clear zA zB k0 k1 k2 r0 r1 r2 f0 f1 f2
    rintro e w1 ⟨rfl, b1⟩
    have HS1 := Lib.hid (HS0.out.next b1)
    have hs1 : w.heap.size + 2 ≤ w1.heap.size := by have := b1.size; simpa using this
    clear b1 HS0
    go_wp2_with (first
      | (at_make; refine wpList_make_own _ rfl (.const (.int .i64 0)) (.const (.int .i64 8)) 83 rfl (w.heap.size + 2) 26 i2 _ 3 Tryd.underlying83 hi2 hz0 hz1 .i64 .i64 (8 : Int) 8 (by rfl) (by rfl) (by rfl) (by rw [hz2]; omega) (by unfold maxLen; omega) (by simpa using hs1) ?_; intro w4 hown4 hgrow4; have HK0 : Hid (KSt w W H n f A c 0 (fun _ => none) (fun _ => 0) (.slice (some ⟨w1.heap.size, 0, none⟩) 0 8) w4) := Lib.hid ⟨HS1.out.grown hgrow4 (fun b e => by cases e), hown4, fun i hi => absurd hi (Nat.not_lt_zero _), fun i hi => absurd hi (Nat.not_lt_zero _)⟩; clear hown4 hgrow4))
    go_loopw [4, 11] (fun u kv wr => ∃ k : Nat, k ≤ 8 ∧ kv = .int .i64 k ∧ ∃ (As : Nat → Option Addr) (cs : Nat → Nat), Hid (KSt w W H n f A c k As cs u wr)) (fun _ kv _ => 8 - (intOf kv).toNat)
    case atStart => exact ⟨0, Nat.zero_le _, rfl, _, _, HK0⟩
    case round =>
      clear HK0 HS1
      obtain ⟨k, hk, rfl, As, cs, HK⟩ := hrel
      obtain ⟨Ao, co, rfl⟩ := owns_slice HK.out.own
      have hbz := HK.out.st.bel.size
      obtain ⟨zA, zB, k0, k1, k2, r0, r1, r2, f0, f1, f2⟩ := HK.out.st.cells
      by_cases hlt : k < 8
      · have hdec : decide ((k : Int) < 8) = true := decide_eq_true (by omega)
        have hs : inB (k : Int) 0 7 = true := decide_eq_true ⟨by omega, by omega⟩
        have HM := Lib.hid (impl_moved wr W H A n c f k (HR.out.below HK.out.st.bel (Nat.le_refl _)) HV.out hs (HT.out.below HK.out.st.bel HT.out.1))
        go_wp2_with fail
        clear zA k0 k1 k2 r0 r1 r2 f0 f1 f2
        refine HM.out.mono ?_
        rintro e wa ⟨A2, c2, rfl, ho, ba⟩
        have hXa := (Below.refl wa.heap.size wa).alloc (Nat.le_refl _) (.cells #[.int .i64 (mvW W H k), .int .i64 (mvH W H k), .slice A2 n c2] 26)
        have HKx := Lib.hid (HK.out.next (ba.trans (hXa.mono ba.size)))
        have HOx := Lib.hid (ho.below hXa (Nat.le_refl _))
        have HUb := Lib.hid (fun b e => (HK.out.own.lt b e).2)
        have hwa := ba.size
        clear hXa ba ho HM HK
        go_wp2_with (first
          | (at_builtin; refine wpList_append_lies _ (by rfl) _ _ _ (by rfl) (w.heap.size + 2) 26 i2 _ 3 40 Tryd.underlying83 hi2 hz0 hz1 hz2 rfl (by omega) _ k (pnc W H n As cs k) (by rfl) HKx.out.own ⟨wa.heap.size, 0, none⟩ 1 1 [.int .i64 (mvW W H k), .int .i64 (mvH W H k), .slice A2 n c2] (by rfl) (by rfl) (World.news_of_block (cs := #[.int .i64 (mvW W H k), .int .i64 (mvH W H k), .slice A2 n c2]) (t := 26) (fr := (0, 0)) (heap_alloc_new wa _)) (fun u hu => by simp at hu; rcases hu with rfl | rfl | rfl <;> rfl) (by omega) (by unfold maxLen; omega) (by omega) (by simp; omega) (wa.heap.size + 1) (by simp) ?_; intro g6 cap6 w6 hown6 hgrow6 hat6 hlt6; have HKn := Lib.hid (HKx.out.app HUb.out (by omega) HOx.out hown6 hgrow6 (by simpa using hat6)); clear hown6 hgrow6 hat6))
        go_roundw
        case rel => exact ⟨k + 1, by omega, by go_num, _, _, HKn⟩
        case measure => simp [intOf]; omega
      · obtain rfl : k = 8 := by omega
        have hdec : decide (((8 : Nat) : Int) < 8) = false := rfl
        clear zA zB k0 k1 k2 r0 r1 r2 f0 f1 f2
        obtain ⟨b, rfl⟩ : ∃ b, Ao = some ⟨b, 0, none⟩ := by
          rcases HK.out.own.2 with ⟨-, e⟩ | ⟨g, cap, cur, e, -⟩
          · cases e
          · cases e; exact ⟨_, rfl⟩
        have HF := Lib.hid (lib_minFunc wr b co W H n f As cs HK.out.eight)
        go_wp2_with fail
        refine HF.out.mono ?_
        rintro e w7 ⟨rfl, b7⟩
        have HK7 := Lib.hid (HK.out.next b7)
        have hj := lsI_le (W := W) (H := H) (n := n) (f := f) 7
        have HO7 := Lib.hid (HK7.out.rows (lsI W H n f 7) (by omega))
        clear b7 HF HK
        obtain ⟨zA, zB, k0, k1, k2, r0, r1, r2, f0, f1, f2⟩ := HK7.out.st.cells
        go_wp2
        refine bodyPost_ret ?_ rfl ⟨As (lsI W H n f 7), cs (lsI W H n f 7), rfl, (ownRow_setBox HO7.out (by omega) _ _ _).mono (by omega), HK7.out.st.out _ _ _⟩
        simp [results, Tryd.results30, go_sem, r0, r1, r2, cqI]
end Go.Proofs.YtdofeonkgaceeaaDoor.Base

namespace Go.Proofs.YtdofeonkgaceeaaDoor.Base
open Go Go.RowKit
set_option linter.unusedVariables false
set_option linter.unusedSimpArgs false

set_option maxHeartbeats 2000000 in
set_option maxRecDepth 100000 in
theorem alike_core (w : World) (W H W' H' : Int) (A A' : Option Addr) (n c n' c' : Nat) (f f' : Nat → Int) (X1 Y1 C1 X2 Y2 C2 : Int) (N1 N2 : Nat) (F1 F2 : Nat → Int) (hr : Row .i64 w A n c f) (hr' : Row .i64 w A' n' c' f') (hT : Cel w 0 [.int .i64 0, .int .i64 2, .int .i64 1])
    (HC1 : Hid (∀ w : World, Row .i64 w A n c f → Cel w 0 [.int .i64 0, .int .i64 2, .int .i64 1] → Calls Tryd.prog 30 #[.agg #[.int .i64 W, .int .i64 H, .slice A n c]] w (PanelOut X1 Y1 N1 F1 C1 w)))
    (HC2 : Hid (∀ w : World, Row .i64 w A' n' c' f' → Cel w 0 [.int .i64 0, .int .i64 2, .int .i64 1] → Calls Tryd.prog 30 #[.agg #[.int .i64 W', .int .i64 H', .slice A' n' c']] w (PanelOut X2 Y2 N2 F2 C2 w))) :
    Calls Tryd.prog 32 #[.agg #[.int .i64 W, .int .i64 H, .slice A n c], .agg #[.int .i64 W', .int .i64 H', .slice A' n' c']] w (Gives (.bool (decide (C1 = 0) && decide (C2 = 0) && sameB X1 Y1 N1 F1 X2 Y2 N2 F2)) w) := by
  have hbel : Below w.heap.size w ((w.alloc (.cells #[.int .i64 W, .int .i64 H, .slice A n c] 26)).alloc (.cells #[.int .i64 W', .int .i64 H', .slice A' n' c'] 26)) := by go_grown
  have HL := Lib.hid hbel
  obtain ⟨⟨za, a0, a1, a2⟩, zb, b0, b1, b2⟩ := box_two w 26 W H W' H' A A' n c n' c'
  have HR := Lib.hid (hr.below hbel (Nat.le_refl _))
  have HR' := Lib.hid (hr'.below hbel (Nat.le_refl _))
  have HT := Lib.hid (hT.below hbel hT.1)
  obtain ⟨v, hv⟩ : ∃ v, sameB X1 Y1 N1 F1 X2 Y2 N2 F2 = v := ⟨_, rfl⟩
  have HSm : Hid (∀ (w : World) (P1 P2 : Option Addr) (c1 c2 : Nat), Row .i64 w P1 N1 c1 F1 → Row .i64 w P2 N2 c2 F2 → Calls Tryd.prog 57 #[.agg #[.int .i64 X1, .int .i64 Y1, .slice P1 N1 c1], .agg #[.int .i64 X2, .int .i64 Y2, .slice P2 N2 c2]] w (Gives (.bool v) w)) :=
    Lib.hid (fun w P1 P2 c1 c2 h h' => hv ▸ impl_samePanel w X1 Y1 X2 Y2 P1 P2 N1 c1 N2 c2 F1 F2 h h')
  rw [hv]
  have HBx := Lib.hid (box_two w 26 W H W' H' A A' n c n' c').2
  clear hr hr' hT hbel hv
  go_enter Tryd.func32, Tryd.ntmps32
  go_wp2_with fail
  refine (HC1.out _ HR.out HT.out).mono ?_
  rintro e w1 ⟨P1, c1, rfl, o1, q1⟩
  have x1 := (Below.refl w1.heap.size w1).alloc (Nat.le_refl _) (.cells #[.int .i64 X1, .int .i64 Y1, .slice P1 N1 c1] 26)
  have HX1 := Lib.hid (Box.new w1 26 X1 Y1 P1 N1 c1)
  have HO1 := Lib.hid (o1.row.below x1 (Nat.le_refl _))
  have y1 := q1.trans (x1.mono q1.size)
  have HL1 := Lib.hid (HL.out.trans (y1.mono HL.out.size))
  have HR1 := Lib.hid (HR'.out.below y1 (Nat.le_refl _))
  have HT1 := Lib.hid (HT.out.below y1 HT.out.1)
  clear za a0 a1 a2 zb b0 b1 b2
  obtain ⟨zb, b0, b1, b2⟩ := HBx.out.below y1 HBx.out.1
  clear x1 o1 q1 y1 HL HR HR' HT HBx
  go_wp2_with fail
  refine (HC2.out _ HR1.out HT1.out).mono ?_
  rintro e w3 ⟨P2, c2, rfl, o3, q3⟩
  have x3 := (Below.refl w3.heap.size w3).alloc (Nat.le_refl _) (.cells #[.int .i64 X2, .int .i64 Y2, .slice P2 N2 c2] 26)
  have HX3 := Lib.hid (Box.new w3 26 X2 Y2 P2 N2 c2)
  have HO3 := Lib.hid (o3.row.below x3 (Nat.le_refl _))
  have y3 := q3.trans (x3.mono q3.size)
  have HX1' := Lib.hid (HX1.out.below y3 HX1.out.1)
  have HO1' := Lib.hid (HO1.out.below y3 (Nat.le_refl _))
  have HL3 := Lib.hid (HL1.out.trans (y3.mono HL1.out.size))
  clear zb b0 b1 b2 x3 o3 q3 y3 HX1 HO1 HL1 HR1 HT1
  obtain ⟨zd, d0, d1, d2⟩ := HX1'.out
  obtain ⟨ze, e0, e1, e2⟩ := HX3.out
  by_cases h1 : C1 = 0
  · subst h1
    by_cases h2 : C2 = 0
    · subst h2
      go_wp2_with fail
      refine (HSm.out _ _ _ _ _ HO1'.out HO3.out).mono ?_
      rintro e w5 ⟨rfl, q5⟩
      go_wp2
      go_ret
      exact ⟨rfl, HL3.out.trans (q5.mono HL3.out.size)⟩
    · have g1 : (C2 == 0) = false := beq_false_of_ne h2
      have g2 : decide (C2 = 0) = false := decide_eq_false h2
      go_wp2
      go_ret
      exact ⟨by simp [g2], HL3.out⟩
  · have g1 : (C1 == 0) = false := beq_false_of_ne h1
    have g2 : decide (C1 = 0) = false := decide_eq_false h1
    go_wp2
    go_ret
    exact ⟨by simp [g2], HL3.out⟩
theorem impl_alikePanels (w : World) (W H W' H' : Int) (A A' : Option Addr) (n c n' c' : Nat) (f f' : Nat → Int) (hr : Row .i64 w A n c f) (hr' : Row .i64 w A' n' c' f') (hT : Cel w 0 [.int .i64 0, .int .i64 2, .int .i64 1]) :
    Calls Tryd.prog 32 #[.agg #[.int .i64 W, .int .i64 H, .slice A n c], .agg #[.int .i64 W', .int .i64 H', .slice A' n' c']] w (Gives (.bool (alB W H n f W' H' n' f')) w) := by
  have h := alike_core w W H W' H' A A' n c n' c' f f' _ _ _ _ _ _ _ _ _ _ hr hr' hT (Lib.hid fun w h ht => impl_canonicalPanel w W H A n c f h ht) (Lib.hid fun w h ht => impl_canonicalPanel w W' H' A' n' c' f' h ht)
  have e : (decide (cqC W H n f = 0) && decide (cqC W' H' n' f' = 0) && sameB (cqW W H n f) (cqH W H n f) (cqN W H n f) (cqF W H n f) (cqW W' H' n' f') (cqH W' H' n' f') (cqN W' H' n' f') (cqF W' H' n' f')) = alB W H n f W' H' n' f' := by
    cases hv : validB W H n f
    · simp [alB, hv, cqC]
    · cases hv' : validB W' H' n' f'
      · simp [alB, hv', cqC]
      · simp [alB, hv, hv', cqC, cqW, cqH, cqN, cqF]
  rw [e] at h
  exact h
end Go.Proofs.YtdofeonkgaceeaaDoor.Base
