/-
  JoinGroups of the model: joining.
-/
import Derived.Test.YtneknajeecgnoaaJgs
namespace Go.Proofs.Ytneknajeecgnoaa.Base
open Go Go.RowKit
set_option linter.unusedVariables false
set_option linter.unusedSimpArgs false

theorem At.cel {w : World} {p : Nat} {u v : Value} {t : TypeId} (h : At w p #[u, v] t) : Cel w p [u, v] := ⟨h.lt, fun i x hx => h.cellv (by simpa using hx)⟩
theorem vj_wf {n m : Nat} {f g : Nat → Int} (hv : VJ n f m g) : ∀ i, i < n → (Lit.int .i64 (f i)).wf = true := fun i hi => by
  have h1 := hv.pars i hi
  have h2 := hv.n2
  obtain ⟨z, hz⟩ : ∃ z : Nat, f i = z := ⟨(f i).toNat, by omega⟩
  rw [hz]
  exact WalkArith.wf_i64 (by omega)
theorem owns_putJ {w : World} {base n g cap : Nat} {e : TypeId} {xs : List Value} (h : w.ownsRow base e 1 (.slice (some ⟨g, 0, none⟩) n cap) n xs) {i : Nat} (hi : i < n) (u : Value) :
    (w.setCell ⟨g, i, none⟩ u).ownsRow base e 1 (.slice (some ⟨g, 0, none⟩) n cap) n (xs.set i u) := by
  refine ⟨by have := h.1; simpa using this, .inr ?_⟩
  rcases h.2 with ⟨e1, e2⟩ | ⟨g', cap', cur, e1, hb, hg, hnc, hcm, hcs, ht⟩
  · cases e1
  · injection e1 with e2 e3 e4
    injection e2 with e2
    injection e2 with e5
    subst e5 e4
    refine ⟨g, cap, cur.setIfInBounds i u, rfl, hb, ?_, hnc, hcm, by simpa using hcs, ?_⟩
    · simp [World.setCell, Array.getElem?_modify, hg]
    · rw [Array.toList_setIfInBounds, List.take_set, ht]
theorem cells_put (n : Nat) (f : Nat → Int) (i : Nat) (z : Int) : (cellsOfF n f).set i (.int .i64 z) = cellsOfF n (putF f i z) := by
  apply List.ext_getElem?
  intro j
  rw [List.getElem?_set]
  by_cases hj : j < n
  · rw [cellsOfF_at (f := putF f i z) hj]
    by_cases e : i = j
    · subst e
      rw [if_pos rfl, if_pos (by rw [cellsOfF_len]; exact hj)]
      simp [putF]
    · rw [if_neg e, cellsOfF_at hj]
      simp [putF, Ne.symm e]
  · have h1 : (cellsOfF n (putF f i z))[j]? = none := List.getElem?_eq_none (by rw [cellsOfF_len]; omega)
    have h2 : (cellsOfF n f)[j]? = none := List.getElem?_eq_none (by rw [cellsOfF_len]; omega)
    rw [h1]
    split
    · next e =>
      subst e
      rw [if_neg (by rw [cellsOfF_len]; exact hj)]
    · exact h2
/-- parents and log behind the joining of the groups of x and y -/
def JCase (f : Nat → Int) (m : Nat) (g : Nat → Int) (x y : Nat) (f0 : Nat → Int) (m0 : Nat) (g0 : Nat → Int) : Prop :=
  (x = y ∧ f0 = f ∧ m0 = m ∧ g0 = g) ∨ (x ≠ y ∧ f0 = putF f (max x y) (min x y : Nat) ∧ m0 = m + 1 ∧ g0 = putF g m (max x y : Nat))
/-- what the model's joining leaves -/
def JgPost (low base p : Nat) (A : Option Addr) (n c : Nat) (f0 : Nat → Int) (m0 : Nat) (g0 : Nat → Int) (w : World) (e : Ending) (w' : World) : Prop :=
  (∃ v, e = .returned v) ∧ ∃ B d, At w' p #[.slice A n c, .slice B m0 d] 26 ∧ w'.ownsRow base 2 1 (.slice A n c) n (cellsOfF n f0) ∧ w'.ownsRow base 2 1 (.slice B m0 d) m0 (cellsOfF m0 g0) ∧ (∀ q, (Value.slice A n c).ownBlock = some q → (Value.slice B m0 d).ownBlock = some q → False) ∧ Below low w w'
set_option maxHeartbeats 4000000 in
theorem spec_join (w : World) (low base p : Nat) (A : Option Addr) (n c : Nat) (f : Nat → Int) (B : Option Addr) (m d : Nat) (g : Nat → Int) (a b x y : Nat) (f0 : Nat → Int) (m0 : Nat) (g0 : Nat → Int)
    (hb : At w p #[.slice A n c, .slice B m d] 26) (h1 : w.ownsRow base 2 1 (.slice A n c) n (cellsOfF n f)) (h2 : w.ownsRow base 2 1 (.slice B m d) m (cellsOfF m g)) (hap : ∀ q, (Value.slice A n c).ownBlock = some q → (Value.slice B m d).ownBlock = some q → False)
    (hlp : low ≤ p) (hlb : low ≤ base) (hbw : base ≤ w.heap.size) (hpA : ∀ q, (Value.slice A n c).ownBlock = some q → q ≠ p) (hpB : ∀ q, (Value.slice B m d).ownBlock = some q → q ≠ p) (hv : VJ n f m g) (ha : a < n) (hbn : b < n) (hx : upN f m a = x) (hy : upN f m b = y) (hc : JCase f m g x y f0 m0 g0) :
    Calls Try.prog 91 #[.pointer (some ⟨p, 0, none⟩), .int .i64 (a : Int), .int .i64 (b : Int)] w (JgPost low base p A n c f0 m0 g0 w) := by
  have hn2 := hv.n2
  have hm2 := hv.le
  have hxn : x < n := by rw [← hx]; exact up_lt hv ha m
  have hyn : y < n := by rw [← hy]; exact up_lt hv hbn m
  obtain ⟨A', c', e1, hO⟩ := ownRow_of_owns h1 (by omega) (vj_wf hv)
  injection e1 with e1 e2 e3
  subst e1 e3
  have hA : ∃ g1, A = some ⟨g1, 0, none⟩ := by
    rcases h1.2 with ⟨-, e⟩ | ⟨g1, cap, cur, e, -⟩
    · omega
    · injection e with e _ _
      exact ⟨g1, e⟩
  obtain ⟨g1, rfl⟩ := hA
  obtain ⟨b', o', e4, hgb, hgl, hcell⟩ := hO.2.2.2 (by omega)
  injection e4 with e4
  injection e4 with e5 e6 e7
  subst e5 e6
  have HC := Lib.hid (spec_root w p _ n c f B m d g a hb.cel hO.row hv ha)
  have HC2 := Lib.hid (spec_root w p _ n c f B m d g b hb.cel hO.row hv hbn)
  have HB := Lib.hid hb
  have H1 := Lib.hid h1
  have H2 := Lib.hid h2
  have HAP := Lib.hid hap
  have HPB := Lib.hid hpB
  have HCS := Lib.hid hc
  have hgp : g1 ≠ p := hpA g1 rfl
  have hgB : ∀ q, (Value.slice B m d).ownBlock = some q → q ≠ g1 := fun q hq e => hap g1 rfl (by rw [← e]; exact hq)
  have HGB := Lib.hid hgB
  rw [hx] at HC
  rw [hy] at HC2
  have k0 := hb.cellv (i := 0) rfl
  have k1 := hb.cellv (i := 1) rfl
  have kf := hb.frozen 1
  have kz := hb.lt
  obtain ⟨ax, fx⟩ := hcell x hxn
  obtain ⟨ay, fy⟩ := hcell y hyn
  rw [Nat.zero_add] at ax fx ay fy
  have hnc := hO.1
  have hcm := hO.2.1
  unfold maxLen at hcm
  obtain ⟨i0, hi, hz0, hz1, hz2⟩ := info_parts infoI64
  clear hb h1 h2 hap hpA hpB hv hx hy hc hO hcell hgB e2 e7
  go_enter Try.func91, Try.ntmps91
  go_wp2_with fail
  refine HC.out.mono ?_
  rintro e w1 ⟨rfl, rfl⟩
  go_wp2_with fail
  refine HC2.out.mono ?_
  rintro e w1 ⟨rfl, rfl⟩
  rcases HCS.out with ⟨hxy, he⟩ | ⟨hxy, he⟩
  · subst hxy
    obtain ⟨e1, e2, e3⟩ := he
    subst e1 e2 e3
    go_wp2
    refine bodyPost_ret (results_none rfl _ _ _) rfl ?_
    exact ⟨⟨_, rfl⟩, B, d, HB.out, H1.out, H2.out, HAP.out, Below.refl _ _⟩
  · have HEE := Lib.hid he
    clear he
    have n1 : ((x : Int) == (y : Int)) = false := beq_eq_false_iff_ne.2 (by omega)
    by_cases hlt : x < y
    · clear fx ax
      have HEX := Lib.hid (show max x y = y ∧ min x y = x by omega)
      have HB1 := Lib.hid (HB.out.setOther (a := ⟨g1, y, none⟩) (by exact hgp) (.int .i64 (x : Int)))
      have H11 := Lib.hid (owns_putJ H1.out (i := y) (by omega) (.int .i64 (x : Int)))
      have H21 := Lib.hid (H2.out.kept (grown_set w g1 y (.int .i64 (x : Int))) (own_ne HGB.out))
      have HL1 := Lib.hid ((Below.refl low w).setCell (p := ⟨g1, y, none⟩) (by show low ≤ g1; omega) (.int .i64 (x : Int)))
      have hs1 := Lib.hid (show (w.setCell ⟨g1, y, none⟩ (.int .i64 (x : Int))).heap.size = w.heap.size by simp [World.setCell])
      have n2 : decide ((x : Int) < (y : Int)) = true := by simp; omega
      go_upto_region 5 with (fail)
      generalize w.setCell ⟨g1, y, none⟩ (.int .i64 (x : Int)) = w2 at *
      have k1 := HB1.out.cellv (i := 1) rfl
      have kf := HB1.out.frozen 1
      have kz := HB1.out.lt
      have hs2 : w.heap.size ≤ w2.heap.size := Nat.le_of_eq hs1.out.symm
      have hs3 : w2.heap.size ≤ w.heap.size := Nat.le_of_eq hs1.out
      have hXa := Lib.hid ((Below.refl w2.heap.size w2).alloc (Nat.le_refl _) (.cells #[.int .i64 (y : Int)] 2))
      go_wp2_with (first
        | (at_builtin; refine wpList_append_lies _ (by rfl) _ _ _ (by rfl) base 2 i0 _ 1 8 Try.underlying24 hi hz0 hz1 hz2 rfl (by omega) _ m (cellsOfF m g) (by rfl) (owns_belowS H21.out hXa.out) ⟨w2.heap.size, 0, none⟩ 1 1 [.int .i64 (y : Int)] (by rfl) (by rfl) (World.news_of_block (cs := #[.int .i64 (y : Int)]) (t := 2) (fr := (0, 0)) (heap_alloc_new w2 _)) (fun u hu => by simp at hu; subst hu; rfl) (by omega) (by unfold maxLen; omega) (by omega) (by simp; omega) (w2.heap.size + 1) (by simp) ?_; intro g6 cap6 w6 hown6 hgrow6 hat6 hlt6; have HOW := Lib.hid hown6; have HGR := Lib.hid hgrow6; have HAT := Lib.hid hat6; have HB6 := Lib.hid ((HB1.out.below hXa.out HB1.out.lt).grown hgrow6 (fun e => HPB.out p e.symm rfl)); have c6 := HB6.out.cellv (i := 1) rfl; have f6 := HB6.out.frozen 1; have l6 := HB6.out.lt; clear hown6 hgrow6 hat6))
      go_end0
      obtain ⟨e1, e2, e3⟩ := HEE.out
      subst e1 e2 e3
      rw [HEX.out.1, HEX.out.2]
      have hgg : g6 ≠ g1 ∧ g6 ≠ p := by
        rcases HAT.out with h | h
        · exact ⟨HGB.out g6 h, HPB.out g6 h⟩
        · omega
      refine ⟨⟨_, rfl⟩, some ⟨g6, 0, none⟩, cap6, ?_, ?_, ?_, ?_, ?_⟩
      · exact HB6.out.set 1 (.slice (some ⟨g6, 0, none⟩) (m + 1) cap6)
      · have h := ((owns_belowS H11.out hXa.out).kept HGR.out (by
          cases e : (Value.slice B m d).ownBlock with
          | none => exact .inr (fun h => by cases h)
          | some q => exact .inr (fun h => by injection h with h; exact HGB.out q e h.symm))).kept (grown_set w6 p 1 (.slice (some ⟨g6, 0, none⟩) (m + 1) cap6)) (own_ne (fun q hq => by have e5 : g1 = q := (by simpa [Value.ownBlock] using hq); omega))
        rw [cells_put] at h
        exact h
      · have h := HOW.out.kept (grown_set w6 p 1 (.slice (some ⟨g6, 0, none⟩) (m + 1) cap6)) (own_ne (fun q hq => by have e5 : g6 = q := (by simpa [Value.ownBlock] using hq); omega))
        rw [cells_snoc] at h
        exact h
      · intro q h3 h4
        have e5 : g1 = q := (by simpa [Value.ownBlock] using h3)
        have e6 : g6 = q := (by simpa [Value.ownBlock] using h4)
        omega
      · exact ((HL1.out.trans (hXa.out.mono (by omega))).grown HGR.out (by simp; omega) (fun q hq => by have := (H2.out.lt q hq).1; omega)).setCell (by exact hlp) _
    · clear fy ay
      have HEX := Lib.hid (show max x y = x ∧ min x y = y by omega)
      have HB1 := Lib.hid (HB.out.setOther (a := ⟨g1, x, none⟩) (by exact hgp) (.int .i64 (y : Int)))
      have H11 := Lib.hid (owns_putJ H1.out (i := x) (by omega) (.int .i64 (y : Int)))
      have H21 := Lib.hid (H2.out.kept (grown_set w g1 x (.int .i64 (y : Int))) (own_ne HGB.out))
      have HL1 := Lib.hid ((Below.refl low w).setCell (p := ⟨g1, x, none⟩) (by show low ≤ g1; omega) (.int .i64 (y : Int)))
      have hs1 := Lib.hid (show (w.setCell ⟨g1, x, none⟩ (.int .i64 (y : Int))).heap.size = w.heap.size by simp [World.setCell])
      have n2 : decide ((x : Int) < (y : Int)) = false := by simp; omega
      go_upto_region 7 with (fail)
      generalize w.setCell ⟨g1, x, none⟩ (.int .i64 (y : Int)) = w2 at *
      have k1 := HB1.out.cellv (i := 1) rfl
      have kf := HB1.out.frozen 1
      have kz := HB1.out.lt
      have hs2 : w.heap.size ≤ w2.heap.size := Nat.le_of_eq hs1.out.symm
      have hs3 : w2.heap.size ≤ w.heap.size := Nat.le_of_eq hs1.out
      have hXa := Lib.hid ((Below.refl w2.heap.size w2).alloc (Nat.le_refl _) (.cells #[.int .i64 (x : Int)] 2))
      go_wp2_with (first
        | (at_builtin; refine wpList_append_lies _ (by rfl) _ _ _ (by rfl) base 2 i0 _ 1 8 Try.underlying24 hi hz0 hz1 hz2 rfl (by omega) _ m (cellsOfF m g) (by rfl) (owns_belowS H21.out hXa.out) ⟨w2.heap.size, 0, none⟩ 1 1 [.int .i64 (x : Int)] (by rfl) (by rfl) (World.news_of_block (cs := #[.int .i64 (x : Int)]) (t := 2) (fr := (0, 0)) (heap_alloc_new w2 _)) (fun u hu => by simp at hu; subst hu; rfl) (by omega) (by unfold maxLen; omega) (by omega) (by simp; omega) (w2.heap.size + 1) (by simp) ?_; intro g6 cap6 w6 hown6 hgrow6 hat6 hlt6; have HOW := Lib.hid hown6; have HGR := Lib.hid hgrow6; have HAT := Lib.hid hat6; have HB6 := Lib.hid ((HB1.out.below hXa.out HB1.out.lt).grown hgrow6 (fun e => HPB.out p e.symm rfl)); have c6 := HB6.out.cellv (i := 1) rfl; have f6 := HB6.out.frozen 1; have l6 := HB6.out.lt; clear hown6 hgrow6 hat6))
      go_end0
      obtain ⟨e1, e2, e3⟩ := HEE.out
      subst e1 e2 e3
      rw [HEX.out.1, HEX.out.2]
      have hgg : g6 ≠ g1 ∧ g6 ≠ p := by
        rcases HAT.out with h | h
        · exact ⟨HGB.out g6 h, HPB.out g6 h⟩
        · omega
      refine ⟨⟨_, rfl⟩, some ⟨g6, 0, none⟩, cap6, ?_, ?_, ?_, ?_, ?_⟩
      · exact HB6.out.set 1 (.slice (some ⟨g6, 0, none⟩) (m + 1) cap6)
      · have h := ((owns_belowS H11.out hXa.out).kept HGR.out (by
          cases e : (Value.slice B m d).ownBlock with
          | none => exact .inr (fun h => by cases h)
          | some q => exact .inr (fun h => by injection h with h; exact HGB.out q e h.symm))).kept (grown_set w6 p 1 (.slice (some ⟨g6, 0, none⟩) (m + 1) cap6)) (own_ne (fun q hq => by have e5 : g1 = q := (by simpa [Value.ownBlock] using hq); omega))
        rw [cells_put] at h
        exact h
      · have h := HOW.out.kept (grown_set w6 p 1 (.slice (some ⟨g6, 0, none⟩) (m + 1) cap6)) (own_ne (fun q hq => by have e5 : g6 = q := (by simpa [Value.ownBlock] using hq); omega))
        rw [cells_snoc] at h
        exact h
      · intro q h3 h4
        have e5 : g1 = q := (by simpa [Value.ownBlock] using h3)
        have e6 : g6 = q := (by simpa [Value.ownBlock] using h4)
        omega
      · exact ((HL1.out.trans (hXa.out.mono (by omega))).grown HGR.out (by simp; omega) (fun q hq => by have := (H2.out.lt q hq).1; omega)).setCell (by exact hlp) _
end Go.Proofs.Ytneknajeecgnoaa.Base
