/-
  The program's iterator over the inner points without a break.
-/
import Derived.Test.YtbpdjmjkjiddjaaDoorNum
import Derived.Test.YtbpdjmjkjiddjaaDoorRfj
import Derived.Test.YtbpdjmjkjiddjaaDoorShape
import Derived.Sort.CutIn
import Derived.Sort.LoopGhostIn
import Derived.Shelf.Abstract
namespace Go.Proofs.YtbpdjmjkjiddjaaDoor.Base
open Go Go.RowKit
set_option linter.unusedVariables false
set_option linter.unusedSimpArgs false
attribute [local go_sem] Oper.semAt_some

/-- the numbers of the inner points without a break among the first k -/
def zl (f : Nat → Int) : Nat → List Nat
  | 0 => []
  | k + 1 => if f k = 0 then zl f k ++ [k] else zl f k
theorem zl_yes {f : Nat → Int} {k : Nat} (h : f k = 0) : zl f (k + 1) = zl f k ++ [k] := if_pos h
theorem zl_no {f : Nat → Int} {k : Nat} (h : f k ≠ 0) : zl f (k + 1) = zl f k := if_neg h
theorem zl_len (f : Nat → Int) : ∀ k, (zl f k).length ≤ k
  | 0 => Nat.le_refl _
  | k + 1 => by
    have := zl_len f k
    by_cases h : f k = 0
    · rw [zl_yes h, List.length_append]; show _ + 1 ≤ _; omega
    · rw [zl_no h]; omega
theorem zl_at {f : Nat → Int} {k : Nat} (h : f k = 0) : ∀ n, k < n → (zl f n)[(zl f k).length]? = some k ∧ (zl f k).length < (zl f n).length
  | 0, hn => absurd hn (by omega)
  | n + 1, hn => by
    rcases Nat.lt_or_ge k n with h' | h'
    · obtain ⟨i1, i2⟩ := zl_at h n h'
      by_cases h2 : f n = 0
      · rw [zl_yes h2, List.getElem?_append_left i2, List.length_append]
        exact ⟨i1, by omega⟩
      · rw [zl_no h2]; exact ⟨i1, i2⟩
    · have e : n = k := by omega
      subst e
      rw [zl_yes h, List.getElem?_append_right (Nat.le_refl _), Nat.sub_self, List.length_append]
      exact ⟨rfl, by show _ < _ + 1; omega⟩
/-- the j-th of these points -/
def zpt (W : Int) (f : Nat → Int) (n j : Nat) : Int × Int := (ptX W (((zl f n).getD j 0 : Nat) : Int), ptY W (((zl f n).getD j 0 : Nat) : Int))
def paggP (v : Int × Int) : Value := .agg #[.int .i64 v.1, .int .i64 v.2]
theorem zpt_at {W : Int} {f : Nat → Int} {n k : Nat} (h : f k = 0) (hk : k < n) : zpt W f n (zl f k).length = (ptX W (k : Int), ptY W (k : Int)) := by
  have e : (zl f n).getD (zl f k).length 0 = k := by rw [List.getD_eq_getElem?_getD, (zl_at h n hk).1]; rfl
  unfold zpt
  rw [e]
/-- what there is to know of the j-th of these points -/
theorem zl_mem {f : Nat → Int} : ∀ {n j : Nat}, j < (zl f n).length → (zl f n).getD j 0 < n ∧ f ((zl f n).getD j 0) = 0
  | 0, j, h => absurd h (by show ¬ j < 0; omega)
  | n + 1, j, h => by
    by_cases h2 : f n = 0
    · rw [zl_yes h2, List.length_append] at h
      rw [zl_yes h2]
      rcases Nat.lt_or_ge j (zl f n).length with h' | h'
      · have e : (zl f n ++ [n]).getD j 0 = (zl f n).getD j 0 := by rw [List.getD_eq_getElem?_getD, List.getD_eq_getElem?_getD, List.getElem?_append_left h']
        rw [e]
        have := zl_mem h'
        exact ⟨by omega, this.2⟩
      · have ej : j = (zl f n).length := by have : j < (zl f n).length + 1 := h; omega
        have e : (zl f n ++ [n]).getD j 0 = n := by rw [ej, List.getD_eq_getElem?_getD, List.getElem?_append_right (Nat.le_refl _), Nat.sub_self]; rfl
        rw [e]
        exact ⟨by omega, h2⟩
    · rw [zl_no h2] at h ⊢
      have := zl_mem h
      exact ⟨by omega, this.2⟩

/-- what impl's crossings leaves: the box that its function has captured -/
def CrossMade (W H : Int) (A : Option Addr) (n c : Nat) (w : World) (e : Ending) (w' : World) : Prop :=
  e = .returned (.func (.func 117) #[] #[.pointer (some ⟨w.heap.size, 0, none⟩)]) ∧ At w' w.heap.size #[.int .i64 W, .int .i64 H, .slice A n c] 35 ∧ Below w.heap.size w w' ∧ w'.heap.size = w.heap.size + 1
theorem impl_crossings (w : World) (W H : Int) (A : Option Addr) (n c : Nat) :
    Calls Tryd.prog 74 #[.agg #[.int .i64 W, .int .i64 H, .slice A n c]] w (CrossMade W H A n c w) := by
  go_enter Tryd.func74, Tryd.ntmps74
  go_wp2
  go_ret
  exact ⟨rfl, At.new _ _ _, (Below.refl _ _).alloc (Nat.le_refl _) _, by simp⟩

set_option maxHeartbeats 4000000 in
theorem cross_iter (nF : Nat) (hn1 : 1 ≤ nF) (w0 w : World) (W H : Int) (A : Option Addr) (n c : Nat) (f : Nat → Int) (p1 : Nat) (hr : Row .i64 w0 A n c f) (hv : validB W H n f = true)
    (hb : Below w0.heap.size w0 w) (h1 : At w p1 #[.int .i64 W, .int .i64 H, .slice A n c] 35) :
    IterY Fence.wide nF Tryd.prog 117 #[.pointer (some ⟨p1, 0, none⟩)] (fun j => #[paggP (zpt W f n j)]) (zl f n).length w0.heap.size [p1] w := fun l J Jx Wa hba hnew hJ hJx hset hY h0 => by
  refine callsIn_of_wp Tryd.func117 rfl trivial ?_ rfl
  simp only [Tryd.ntmps117, List.size_toArray, List.length_cons, List.length_nil, Nat.reduceAdd, Nat.reduceSub, Array.replicate_succ, Array.replicate_zero, List.push_toArray, List.append_toArray, List.nil_append, List.cons_append]
  have HA := Lib.hid (h1.below hba h1.lt)
  obtain ⟨hW, hH, hn, -⟩ := validB_yes hv
  obtain ⟨i0, i1⟩ := inner_bd hW hH
  have hcm := hr.2.1
  have hnc := hr.1
  unfold maxLen at hcm
  have HR := Lib.hid hr
  have HJ0 := Lib.hid h0
  have HJs := Lib.hid hJ
  have HY := Lib.hid hY
  have HB := Lib.hid (hb.trans (hba.mono hb.size))
  clear h1 hr h0 hJ hnew hset hJx hY hb hv
  have k0 : Wa.cell? ⟨p1, 0, none⟩ = some (.int .i64 W) := HA.out.cellv (i := 0) rfl
  have k1 : Wa.cell? ⟨p1, 1, none⟩ = some (.int .i64 H) := HA.out.cellv (i := 1) rfl
  have k2 : Wa.cell? ⟨p1, 2, none⟩ = some (.slice A n c) := HA.out.cellv (i := 2) rfl
  have l1 := HA.out.lt
  gi_wp2
  clear k0 k1 k2 l1
  gi_loopg [8] n (fun g s8 wr => ∃ (k : Nat) (Y : List Nat), s8 = .int .i64 k ∧ k + g = n ∧ Hid (J Y (zl f k).length wr) ∧ Hid (Below w0.heap.size w0 wr) ∧ Hid (At wr p1 #[.int .i64 W, .int .i64 H, .slice A n c] 35))
  case atStart => exact ⟨0, [], rfl, by omega, HJ0, HB, HA⟩
  case round =>
    clear HA HJ0 HB
    obtain ⟨k, Y, rfl, hkg, HJk, HBk, HAk⟩ := hrel
    have k0 : wr.cell? ⟨p1, 0, none⟩ = some (.int .i64 W) := HAk.out.cellv (i := 0) rfl
    have k1 : wr.cell? ⟨p1, 1, none⟩ = some (.int .i64 H) := HAk.out.cellv (i := 1) rfl
    have k2 : wr.cell? ⟨p1, 2, none⟩ = some (.slice A n c) := HAk.out.cellv (i := 2) rfl
    have l1 := HAk.out.lt
    by_cases hlt : k < n
    · obtain ⟨-, -, -, hcell⟩ := HR.out.below HBk.out (Nat.le_refl _)
      obtain ⟨b0, o0, rfl, hbl, hc⟩ := hcell (by omega)
      have hck := hc k hlt
      clear hc hcell
      by_cases hf : f k = 0
      · have HZ := Lib.hid (zpt_at (W := W) hf hlt)
        have HZl := Lib.hid ((zl_at hf n hlt).2)
        have HZy := Lib.hid (show (zl f (k + 1)).length = (zl f k).length + 1 by rw [zl_yes hf, List.length_append]; rfl)
        gi_wp2_with fail
        refine ⟨trivial, (callsIn_wide.2 (sizeOf_any wr W H _ n c)).mono ?_⟩
        rintro e w2 ⟨rfl, b2⟩
        have HJ2 := Lib.hid (HJs.out _ _ _ _ HJk.out b2)
        have HB2 := Lib.hid (HBk.out.trans (b2.mono HBk.out.size))
        have HA2 := Lib.hid (HAk.out.below b2 HAk.out.lt)
        clear b2 HJk HBk HAk k0 k1 k2 l1 hck hbl
        gi_wp2_with fail
        refine ⟨trivial, (callsIn_wide.2 (pointAt_any w2 W H (k : Int) hW (by omega) (by omega))).mono ?_⟩
        rintro e w3 ⟨rfl, b3⟩
        have HJ3 := Lib.hid (HJs.out _ _ _ _ HJ2.out b3)
        have HB3 := Lib.hid (HB2.out.trans (b3.mono HB2.out.size))
        have HA3 := Lib.hid (HA2.out.below b3 HA2.out.lt)
        clear b3 HJ2 HB2 HA2
        obtain ⟨fn, tm, assign, body, hy, hR⟩ := HY.out Y (zl f k).length w3 HZl.out HJ3.out
        rw [HZ.out] at hy
        have hy' : (Instr.yield l #[.agg #[.int .i64 (ptX W (k : Int)), .int .i64 (ptY W (k : Int))]]).run Tryd.prog w3 = .ok (.round l fn tm assign body) w3 := hy
        clear hy
        gi_wp2_with fail
        refine hR.mono ?_
        clear hy' hR
        rintro e W5 (⟨rfl, hJ5, hk5⟩ | ⟨rfl, hJx5⟩)
        · have HA5 := Lib.hid (HA3.out.of_block (hk5.box p1 (by simp) HA3.out.lt))
          have HB5 := Lib.hid (HB3.out.trans hk5.below)
          have HJ5 := Lib.hid hJ5
          clear hJ5 hk5 HA3 HB3 HJ3
          gi_wp2
          gi_roundg (gk - 1)
          case measure => omega
          case rel => exact ⟨k + 1, Y, by go_num, by omega, by rw [HZy.out]; exact HJ5, HB5, HA5⟩
        · have HJ5 := Lib.hid hJx5
          clear hJx5
          gi_wp2
          refine bodyPost_ret (results_none rfl _ _ _) rfl ?_
          exact ⟨⟨_, rfl⟩, .inr ⟨(zl f k).length + 1, HZl.out, HJ5.out⟩⟩
      · have hfb : (f k == 0) = false := beq_eq_false_iff_ne.2 hf
        have HZn := Lib.hid (zl_no hf)
        clear hf
        gi_wp2_with fail
        refine ⟨trivial, ?_⟩
        gi_wp2_with fail
        refine ⟨trivial, ?_⟩
        gi_wp2_with fail
        refine ⟨fun _ _ => trivial, ?_⟩
        gi_wp2
        gi_roundg (gk - 1)
        case measure => omega
        case rel => exact ⟨k + 1, Y, by go_num, by omega, by rw [HZn.out]; exact HJk, HBk, HAk⟩
    · have ek : k = n := by omega
      subst ek
      gi_wp2
      go_end0
      exact ⟨⟨_, rfl⟩, .inl ⟨Y, HJk.out⟩⟩
end Go.Proofs.YtbpdjmjkjiddjaaDoor.Base
