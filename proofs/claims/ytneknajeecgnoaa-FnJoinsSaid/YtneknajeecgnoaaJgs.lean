/-
  JoinGroups of the model.
-/
import Derived.Test.YtneknajeecgnoaaGro
import Derived.Test.YtneknajeecgnoaaJo1
import Derived.Test.YtneknajeecgnoaaOwa
import Derived.Test.YtneknajeecgnoaaUdk
import Derived.Test.YtneknajeecgnoaaJnd
namespace Go.Proofs.Ytneknajeecgnoaa.Base
open Go Go.RowKit
set_option linter.unusedVariables false
set_option linter.unusedSimpArgs false

theorem own_owns (w : World) (A : Option Addr) (n c : Nat) (f : Nat → Int) (hr : Row .i64 w A n c f) (hn2 : n ≤ 1048576) :
    Calls Try.prog 96 #[.slice A n c] w (CloneOut n f w) := by
  obtain ⟨hnc, hcm, hwf, hcell⟩ := hr
  obtain ⟨i0, hi, hz0, hz1, hz2⟩ := info_parts infoI64
  have HBL := Lib.hid (show Below w.heap.size w (w.alloc (.cells #[] 2)) from (Below.refl _ _).alloc (Nat.le_refl _) _)
  by_cases hn : 0 < n
  · obtain ⟨b, o, rfl, hb, hc⟩ := hcell hn
    have HC := Lib.hid hc
    clear hcell hc hwf
    go_enter Try.func96, Try.ntmps96
    go_wp2_with (at_builtin; refine wpList_append_own _ rfl (.tmp 3) (.tmp 4) 24 rfl w.heap.size 2 i0 (.int .i64 0) 1 8 Try.underlying24 hi hz0 hz1 hz2 rfl (by decide) _ 0 [] rfl (owns_empty w _) ⟨b, o, none⟩ n c (cellsOfF n f) rfl ?c1 ?c2 ?c3 ?c4 ?c5 ?c6 ?_)
    case c1 => rw [cellsOfF_len]; omega
    case c2 =>
      intro j u hj
      have hjn : j < n := by
        rcases Nat.lt_or_ge j n with h | h
        · exact h
        · rw [List.getElem?_eq_none (by rw [cellsOfF_len]; exact h)] at hj; cases hj
      rw [cellsOfF_at hjn] at hj
      cases hj
      have e : (⟨b, o, none⟩ : Addr).add j = ⟨b, o + j, none⟩ := by unfold Addr.add; split <;> simp_all
      rw [e, HBL.out.cell (p := ⟨b, o + j, none⟩) hb]
      exact HC.out j hjn
    case c3 => intro u hu; simp [cellsOfF] at hu; obtain ⟨i, _, rfl⟩ := hu; rfl
    case c4 => unfold maxLen; omega
    case c5 => omega
    case c6 => simp
    intro v' w1 hown hg _
    have HBB := Lib.hid (HBL.out.grown hg (by simp) (fun k hk => by simp [Value.ownBlock] at hk; omega))
    have HO := Lib.hid hown
    clear hown hg
    go_wp2
    go_ret
    exact ⟨v', rfl, HO.out, HBB.out⟩
  · obtain rfl : n = 0 := by omega
    cases A with
    | none =>
      go_enter Try.func96, Try.ntmps96
      go_wp2_with (at_builtin; refine wpList_append_none0 rfl (.tmp 3) (.tmp 4) 24 rfl w.heap.size 2 i0 1 Try.underlying24 hi _ 0 [] rfl (owns_empty w _) c rfl ?_)
      go_ret
      exact ⟨_, rfl, by rw [cells_zero]; exact owns_empty w _, HBL.out⟩
    | some ad =>
      go_enter Try.func96, Try.ntmps96
      go_wp2_with (at_builtin; refine wpList_append_own _ rfl (.tmp 3) (.tmp 4) 24 rfl w.heap.size 2 i0 (.int .i64 0) 1 8 Try.underlying24 hi hz0 hz1 hz2 rfl (by decide) _ 0 [] rfl (owns_empty w _) ad 0 c [] rfl rfl (fun j u hj => by simp at hj) (fun u hu => by simp at hu) (by decide) (by decide) (by simp) ?_)
      intro v' w1 hown hg _
      have HBB := Lib.hid (HBL.out.grown hg (by simp) (fun k hk => by simp [Value.ownBlock] at hk; omega))
      have HO := Lib.hid hown
      clear hown hg
      go_wp2
      go_ret
      exact ⟨v', rfl, by rw [cells_zero]; exact HO.out, HBB.out⟩
/-- copies of the parents and the log -/
def JnMade2 (n : Nat) (f : Nat → Int) (m : Nat) (g : Nat → Int) (w : World) (e : Ending) (w' : World) : Prop :=
  ∃ A c B d, e = .returned (.agg #[.slice A n c, .slice B m d]) ∧ w'.ownsRow (w.heap.size + 1) 2 1 (.slice A n c) n (cellsOfF n f) ∧ w'.ownsRow (w.heap.size + 1) 2 1 (.slice B m d) m (cellsOfF m g) ∧ (∀ q, (Value.slice A n c).ownBlock = some q → (Value.slice B m d).ownBlock = some q → False) ∧ Below w.heap.size w w'
set_option maxHeartbeats 2000000 in
theorem spec_ownJ2 (w : World) (p : Nat) (A : Option Addr) (n c : Nat) (f : Nat → Int) (B : Option Addr) (m d : Nat) (g : Nat → Int) (hb : Cel w p [.slice A n c, .slice B m d]) (hr : Row .i64 w A n c f) (hr' : Row .i64 w B m d g) (hn : n ≤ 1048576) (hm : m ≤ 1048576) :
    Calls Try.prog 67 #[.pointer (some ⟨p, 0, none⟩)] w (JnMade2 n f m g w) := by
  have HR := Lib.hid hr
  have HR' := Lib.hid hr'
  have hbel := (Below.refl w.heap.size w).alloc (Nat.le_refl _) (.cells #[.slice none 0 0, .slice none 0 0] 26)
  have HL := Lib.hid hbel
  have HX := Lib.hid (hb.below hbel hb.1)
  have HZ := Lib.hid (At.new w #[.slice none 0 0, .slice none 0 0] 26)
  have hp := hb.1
  have hpz := HX.out.1
  have k0 : (w.alloc (.cells #[.slice none 0 0, .slice none 0 0] 26)).cell? ⟨p, 0, none⟩ = some (.slice A n c) := HX.out.2 0 _ rfl
  have k1 : (w.alloc (.cells #[.slice none 0 0, .slice none 0 0] 26)).cell? ⟨p, 1, none⟩ = some (.slice B m d) := HX.out.2 1 _ rfl
  have HRd := Lib.hid (HR.out.below HL.out.drew (Nat.le_refl _))
  have HRd' := Lib.hid (HR'.out.below HL.out.drew (Nat.le_refl _))
  clear hr hr' hb hbel
  go_enter Try.func67, Try.ntmps67
  go_wp2
  go_region_with (first
    | (go_at_call 96; (with_reducible refine (own_owns _ A n c f HRd.out hn).mono ?_); rintro e wa ⟨va, rfl, hO, ba⟩; obtain ⟨A1, c1, rfl⟩ := owns_slice hO; have b1' := ((Below.refl _ (w.alloc (.cells #[.slice none 0 0, .slice none 0 0] 26))).drew).trans ba; have HBa := Lib.hid (HL.out.trans (b1'.mono (by simp))); have HXa := HX.out.below b1' hpz; have hpa := HXa.1; have k1a : wa.cell? ⟨p, 1, none⟩ = some (.slice B m d) := HXa.2 1 _ rfl; have HZa := Lib.hid (HZ.out.below b1' (by simp)); have HO := Lib.hid hO; have HRa := Lib.hid (HR'.out.below HBa.out (Nat.le_refl _)); have HRa' := Lib.hid (HR'.out.below HBa.out.drew (Nat.le_refl _)); have zba := ba.size; clear ba b1' hO HXa)
    | (go_at_call 96; (first | (with_reducible refine (own_owns _ B m d g HRa.out hm).mono ?_) | (with_reducible refine (own_owns _ B m d g HRa'.out hm).mono ?_)); rintro e wb ⟨vb, rfl, hO2, bb⟩; obtain ⟨B1, d1, rfl⟩ := owns_slice hO2; have HZb := Lib.hid (HZa.out.below bb (by first | exact HZa.out.lt | (have := HZa.out.lt; simpa using this))); have HBb := Lib.hid (HBa.out.trans (bb.mono HBa.out.size)); have HO1 := Lib.hid (owns_belowS HO.out bb); have HO2 := Lib.hid hO2; have zbb := bb.size; have lz := HZb.out.lt; have q0 : wb.cell? ⟨w.heap.size, 0, none⟩ = some (.slice none 0 0) := HZb.out.cellv (i := 0) rfl; have q1 : wb.cell? ⟨w.heap.size, 1, none⟩ = some (.slice none 0 0) := HZb.out.cellv (i := 1) rfl; have f0 := HZb.out.frozen 0; have f1 := HZb.out.frozen 1; clear bb hO2))
  all_goals
    have h0 : ∀ q, (Value.slice A1 n c1).ownBlock = some q → w.heap.size + 1 ≤ q ∧ q < wa.heap.size := fun q hq => by have h := HO.out.lt q hq; have h2 := sz_drew w (.cells #[.slice none 0 0, .slice none 0 0] 26); omega
    have h1 : ∀ q, (Value.slice B1 m d1).ownBlock = some q → wa.heap.size ≤ q ∧ w.heap.size + 1 ≤ q := fun q hq => by have h := (HO2.out.lt q hq).1; have h2 := HZa.out.lt; exact ⟨by first | exact h | simpa using h, by omega⟩
    have HO1' := Lib.hid (owns_mono HO1.out (show w.heap.size + 1 ≤ _ by have h2 := sz_drew w (.cells #[.slice none 0 0, .slice none 0 0] 26); omega))
    have HO2' := Lib.hid (owns_mono HO2.out (show w.heap.size + 1 ≤ _ by have h2 := HZa.out.lt; first | omega | (simp; omega)))
    go_wp2
    refine bodyPost_ret (v := .agg #[.slice A1 n c1, .slice B1 m d1]) (by simp [results, Try.results67, go_sem, q0, q1]) rfl ⟨A1, c1, B1, d1, rfl, ?_, ?_, ?_, ?_⟩
    · exact ownsRow_setCell_below (ownsRow_setCell_below HO1'.out (by simp) _) (by simp) _
    · exact ownsRow_setCell_below (ownsRow_setCell_below HO2'.out (by simp) _) (by simp) _
    · intro q h2 h3
      have := h0 q h2
      have := h1 q h3
      omega
    · exact (HBb.out.setCell (by simp) _).setCell (by simp) _
end Go.Proofs.Ytneknajeecgnoaa.Base

namespace Go.Proofs.Ytneknajeecgnoaa.Base
open Go Go.RowKit
set_option linter.unusedVariables false
set_option linter.unusedSimpArgs false

theorem At.cel {w : World} {p : Nat} {u v : Value} {t : TypeId} (h : At w p #[u, v] t) : Cel w p [u, v] := ⟨h.lt, fun i x hx => h.cellv (by simpa using hx)⟩
theorem vj_wf {n m : Nat} {f g : Nat → Int} (hv : VJ n f m g) : ∀ i, i < n → (Lit.int .i64 (f i)).wf = true := fun i hi => by
  have h1 := hv.pars i hi
  have h2 := hv.n2
  obtain ⟨z, hz⟩ : ∃ z : Nat, f i = z := ⟨(f i).toNat, by omega⟩
  rw [hz]
  exact WalkArith.wf_i64 (by omega)
theorem owns_putJ {w : World} {base n g cap : Nat} {e : TypeId} {xs : List Value} (h : w.ownsRow base e 1 (.slice (some ⟨g, 0, none⟩) n cap) n xs) {i : Nat} (hi : i < n) (u : Value) :
    (w.setCell ⟨g, i, none⟩ u).ownsRow base e 1 (.slice (some ⟨g, 0, none⟩) n cap) n (xs.set i u) := by
  refine ⟨by have := h.1; simpa using this, .inr ?_⟩
  rcases h.2 with ⟨e1, e2⟩ | ⟨g', cap', cur, e1, hb, hg, hnc, hcm, hcs, ht⟩
  · cases e1
  · injection e1 with e2 e3 e4
    injection e2 with e2
    injection e2 with e5
    subst e5 e4
    refine ⟨g, cap, cur.setIfInBounds i u, rfl, hb, ?_, hnc, hcm, by simpa using hcs, ?_⟩
    · simp [World.setCell, Array.getElem?_modify, hg]
    · rw [Array.toList_setIfInBounds, List.take_set, ht]
theorem cells_put (n : Nat) (f : Nat → Int) (i : Nat) (z : Int) : (cellsOfF n f).set i (.int .i64 z) = cellsOfF n (putF f i z) := by
  apply List.ext_getElem?
  intro j
  rw [List.getElem?_set]
  by_cases hj : j < n
  · rw [cellsOfF_at (f := putF f i z) hj]
    by_cases e : i = j
    · subst e
      rw [if_pos rfl, if_pos (by rw [cellsOfF_len]; exact hj)]
      simp [putF]
    · rw [if_neg e, cellsOfF_at hj]
      simp [putF, Ne.symm e]
  · have h1 : (cellsOfF n (putF f i z))[j]? = none := List.getElem?_eq_none (by rw [cellsOfF_len]; omega)
    have h2 : (cellsOfF n f)[j]? = none := List.getElem?_eq_none (by rw [cellsOfF_len]; omega)
    rw [h1]
    split
    · next e =>
      subst e
      rw [if_neg (by rw [cellsOfF_len]; exact hj)]
    · exact h2
/-- parents and log behind the joining of the groups of x and y -/
def JCase (f : Nat → Int) (m : Nat) (g : Nat → Int) (x y : Nat) (f0 : Nat → Int) (m0 : Nat) (g0 : Nat → Int) : Prop :=
  (x = y ∧ f0 = f ∧ m0 = m ∧ g0 = g) ∨ (x ≠ y ∧ f0 = putF f (max x y) (min x y : Nat) ∧ m0 = m + 1 ∧ g0 = putF g m (max x y : Nat))
/-- what the model's joining leaves -/
def JgPost (low base p : Nat) (A : Option Addr) (n c : Nat) (f0 : Nat → Int) (m0 : Nat) (g0 : Nat → Int) (w : World) (e : Ending) (w' : World) : Prop :=
  (∃ v, e = .returned v) ∧ ∃ B d, At w' p #[.slice A n c, .slice B m0 d] 26 ∧ w'.ownsRow base 2 1 (.slice A n c) n (cellsOfF n f0) ∧ w'.ownsRow base 2 1 (.slice B m0 d) m0 (cellsOfF m0 g0) ∧ (∀ q, (Value.slice A n c).ownBlock = some q → (Value.slice B m0 d).ownBlock = some q → False) ∧ Below low w w'
set_option maxHeartbeats 4000000 in
theorem spec_join (w : World) (low base p : Nat) (A : Option Addr) (n c : Nat) (f : Nat → Int) (B : Option Addr) (m d : Nat) (g : Nat → Int) (a b x y : Nat) (f0 : Nat → Int) (m0 : Nat) (g0 : Nat → Int)
    (hb : At w p #[.slice A n c, .slice B m d] 26) (h1 : w.ownsRow base 2 1 (.slice A n c) n (cellsOfF n f)) (h2 : w.ownsRow base 2 1 (.slice B m d) m (cellsOfF m g)) (hap : ∀ q, (Value.slice A n c).ownBlock = some q → (Value.slice B m d).ownBlock = some q → False)
    (hlp : low ≤ p) (hlb : low ≤ base) (hbw : base ≤ w.heap.size) (hpA : ∀ q, (Value.slice A n c).ownBlock = some q → q ≠ p) (hpB : ∀ q, (Value.slice B m d).ownBlock = some q → q ≠ p) (hv : VJ n f m g) (ha : a < n) (hbn : b < n) (hx : upN f m a = x) (hy : upN f m b = y) (hc : JCase f m g x y f0 m0 g0) :
    Calls Try.prog 91 #[.pointer (some ⟨p, 0, none⟩), .int .i64 (a : Int), .int .i64 (b : Int)] w (JgPost low base p A n c f0 m0 g0 w) := by
  have hn2 := hv.n2
  have hm2 := hv.le
  have hxn : x < n := by rw [← hx]; exact up_lt hv ha m
  have hyn : y < n := by rw [← hy]; exact up_lt hv hbn m
  obtain ⟨A', c', e1, hO⟩ := ownRow_of_owns h1 (by omega) (vj_wf hv)
  injection e1 with e1 e2 e3
  subst e1 e3
  have hA : ∃ g1, A = some ⟨g1, 0, none⟩ := by
    rcases h1.2 with ⟨-, e⟩ | ⟨g1, cap, cur, e, -⟩
    · omega
    · injection e with e _ _
      exact ⟨g1, e⟩
  obtain ⟨g1, rfl⟩ := hA
  obtain ⟨b', o', e4, hgb, hgl, hcell⟩ := hO.2.2.2 (by omega)
  injection e4 with e4
  injection e4 with e5 e6 e7
  subst e5 e6
  have HC := Lib.hid (spec_root w p _ n c f B m d g a hb.cel hO.row hv ha)
  have HC2 := Lib.hid (spec_root w p _ n c f B m d g b hb.cel hO.row hv hbn)
  have HB := Lib.hid hb
  have H1 := Lib.hid h1
  have H2 := Lib.hid h2
  have HAP := Lib.hid hap
  have HPB := Lib.hid hpB
  have HCS := Lib.hid hc
  have hgp : g1 ≠ p := hpA g1 rfl
  have hgB : ∀ q, (Value.slice B m d).ownBlock = some q → q ≠ g1 := fun q hq e => hap g1 rfl (by rw [← e]; exact hq)
  have HGB := Lib.hid hgB
  rw [hx] at HC
  rw [hy] at HC2
  have k0 := hb.cellv (i := 0) rfl
  have k1 := hb.cellv (i := 1) rfl
  have kf := hb.frozen 1
  have kz := hb.lt
  obtain ⟨ax, fx⟩ := hcell x hxn
  obtain ⟨ay, fy⟩ := hcell y hyn
  rw [Nat.zero_add] at ax fx ay fy
  have hnc := hO.1
  have hcm := hO.2.1
  unfold maxLen at hcm
  obtain ⟨i0, hi, hz0, hz1, hz2⟩ := info_parts infoI64
  clear hb h1 h2 hap hpA hpB hv hx hy hc hO hcell hgB e2 e7
  go_enter Try.func91, Try.ntmps91
  go_wp2_with fail
  refine HC.out.mono ?_
  rintro e w1 ⟨rfl, rfl⟩
  go_wp2_with fail
  refine HC2.out.mono ?_
  rintro e w1 ⟨rfl, rfl⟩
  rcases HCS.out with ⟨hxy, he⟩ | ⟨hxy, he⟩
  · subst hxy
    obtain ⟨e1, e2, e3⟩ := he
    subst e1 e2 e3
    go_wp2
    refine bodyPost_ret (results_none rfl _ _ _) rfl ?_
    exact ⟨⟨_, rfl⟩, B, d, HB.out, H1.out, H2.out, HAP.out, Below.refl _ _⟩
  · have HEE := Lib.hid he
    clear he
    have n1 : ((x : Int) == (y : Int)) = false := beq_eq_false_iff_ne.2 (by omega)
    by_cases hlt : x < y
    · clear fx ax
      have HEX := Lib.hid (show max x y = y ∧ min x y = x by omega)
      have HB1 := Lib.hid (HB.out.setOther (a := ⟨g1, y, none⟩) (by exact hgp) (.int .i64 (x : Int)))
      have H11 := Lib.hid (owns_putJ H1.out (i := y) (by omega) (.int .i64 (x : Int)))
      have H21 := Lib.hid (H2.out.kept (grown_set w g1 y (.int .i64 (x : Int))) (own_ne HGB.out))
      have HL1 := Lib.hid ((Below.refl low w).setCell (p := ⟨g1, y, none⟩) (by show low ≤ g1; omega) (.int .i64 (x : Int)))
      have hs1 := Lib.hid (show (w.setCell ⟨g1, y, none⟩ (.int .i64 (x : Int))).heap.size = w.heap.size by simp [World.setCell])
      have n2 : decide ((x : Int) < (y : Int)) = true := by simp; omega
      go_upto_region 5 with (fail)
      generalize w.setCell ⟨g1, y, none⟩ (.int .i64 (x : Int)) = w2 at *
      have k1 := HB1.out.cellv (i := 1) rfl
      have kf := HB1.out.frozen 1
      have kz := HB1.out.lt
      have hs2 : w.heap.size ≤ w2.heap.size := Nat.le_of_eq hs1.out.symm
      have hs3 : w2.heap.size ≤ w.heap.size := Nat.le_of_eq hs1.out
      have hXa := Lib.hid ((Below.refl w2.heap.size w2).alloc (Nat.le_refl _) (.cells #[.int .i64 (y : Int)] 2))
      go_wp2_with (first
        | (at_builtin; refine wpList_append_lies _ (by rfl) _ _ _ (by rfl) base 2 i0 _ 1 8 Try.underlying24 hi hz0 hz1 hz2 rfl (by omega) _ m (cellsOfF m g) (by rfl) (owns_belowS H21.out hXa.out) ⟨w2.heap.size, 0, none⟩ 1 1 [.int .i64 (y : Int)] (by rfl) (by rfl) (World.news_of_block (cs := #[.int .i64 (y : Int)]) (t := 2) (fr := (0, 0)) (heap_alloc_new w2 _)) (fun u hu => by simp at hu; subst hu; rfl) (by omega) (by unfold maxLen; omega) (by omega) (by simp; omega) (w2.heap.size + 1) (by simp) ?_; intro g6 cap6 w6 hown6 hgrow6 hat6 hlt6; have HOW := Lib.hid hown6; have HGR := Lib.hid hgrow6; have HAT := Lib.hid hat6; have HB6 := Lib.hid ((HB1.out.below hXa.out HB1.out.lt).grown hgrow6 (fun e => HPB.out p e.symm rfl)); have c6 := HB6.out.cellv (i := 1) rfl; have f6 := HB6.out.frozen 1; have l6 := HB6.out.lt; clear hown6 hgrow6 hat6))
      go_end0
      obtain ⟨e1, e2, e3⟩ := HEE.out
      subst e1 e2 e3
      rw [HEX.out.1, HEX.out.2]
      have hgg : g6 ≠ g1 ∧ g6 ≠ p := by
        rcases HAT.out with h | h
        · exact ⟨HGB.out g6 h, HPB.out g6 h⟩
        · omega
      refine ⟨⟨_, rfl⟩, some ⟨g6, 0, none⟩, cap6, ?_, ?_, ?_, ?_, ?_⟩
      · exact HB6.out.set 1 (.slice (some ⟨g6, 0, none⟩) (m + 1) cap6)
      · have h := ((owns_belowS H11.out hXa.out).kept HGR.out (by
          cases e : (Value.slice B m d).ownBlock with
          | none => exact .inr (fun h => by cases h)
          | some q => exact .inr (fun h => by injection h with h; exact HGB.out q e h.symm))).kept (grown_set w6 p 1 (.slice (some ⟨g6, 0, none⟩) (m + 1) cap6)) (own_ne (fun q hq => by have e5 : g1 = q := (by simpa [Value.ownBlock] using hq); omega))
        rw [cells_put] at h
        exact h
      · have h := HOW.out.kept (grown_set w6 p 1 (.slice (some ⟨g6, 0, none⟩) (m + 1) cap6)) (own_ne (fun q hq => by have e5 : g6 = q := (by simpa [Value.ownBlock] using hq); omega))
        rw [cells_snoc] at h
        exact h
      · intro q h3 h4
        have e5 : g1 = q := (by simpa [Value.ownBlock] using h3)
        have e6 : g6 = q := (by simpa [Value.ownBlock] using h4)
        omega
      · exact ((HL1.out.trans (hXa.out.mono (by omega))).grown HGR.out (by simp; omega) (fun q hq => by have := (H2.out.lt q hq).1; omega)).setCell (by exact hlp) _
    · clear fy ay
      have HEX := Lib.hid (show max x y = x ∧ min x y = y by omega)
      have HB1 := Lib.hid (HB.out.setOther (a := ⟨g1, x, none⟩) (by exact hgp) (.int .i64 (y : Int)))
      have H11 := Lib.hid (owns_putJ H1.out (i := x) (by omega) (.int .i64 (y : Int)))
      have H21 := Lib.hid (H2.out.kept (grown_set w g1 x (.int .i64 (y : Int))) (own_ne HGB.out))
      have HL1 := Lib.hid ((Below.refl low w).setCell (p := ⟨g1, x, none⟩) (by show low ≤ g1; omega) (.int .i64 (y : Int)))
      have hs1 := Lib.hid (show (w.setCell ⟨g1, x, none⟩ (.int .i64 (y : Int))).heap.size = w.heap.size by simp [World.setCell])
      have n2 : decide ((x : Int) < (y : Int)) = false := by simp; omega
      go_upto_region 7 with (fail)
      generalize w.setCell ⟨g1, x, none⟩ (.int .i64 (y : Int)) = w2 at *
      have k1 := HB1.out.cellv (i := 1) rfl
      have kf := HB1.out.frozen 1
      have kz := HB1.out.lt
      have hs2 : w.heap.size ≤ w2.heap.size := Nat.le_of_eq hs1.out.symm
      have hs3 : w2.heap.size ≤ w.heap.size := Nat.le_of_eq hs1.out
      have hXa := Lib.hid ((Below.refl w2.heap.size w2).alloc (Nat.le_refl _) (.cells #[.int .i64 (x : Int)] 2))
      go_wp2_with (first
        | (at_builtin; refine wpList_append_lies _ (by rfl) _ _ _ (by rfl) base 2 i0 _ 1 8 Try.underlying24 hi hz0 hz1 hz2 rfl (by omega) _ m (cellsOfF m g) (by rfl) (owns_belowS H21.out hXa.out) ⟨w2.heap.size, 0, none⟩ 1 1 [.int .i64 (x : Int)] (by rfl) (by rfl) (World.news_of_block (cs := #[.int .i64 (x : Int)]) (t := 2) (fr := (0, 0)) (heap_alloc_new w2 _)) (fun u hu => by simp at hu; subst hu; rfl) (by omega) (by unfold maxLen; omega) (by omega) (by simp; omega) (w2.heap.size + 1) (by simp) ?_; intro g6 cap6 w6 hown6 hgrow6 hat6 hlt6; have HOW := Lib.hid hown6; have HGR := Lib.hid hgrow6; have HAT := Lib.hid hat6; have HB6 := Lib.hid ((HB1.out.below hXa.out HB1.out.lt).grown hgrow6 (fun e => HPB.out p e.symm rfl)); have c6 := HB6.out.cellv (i := 1) rfl; have f6 := HB6.out.frozen 1; have l6 := HB6.out.lt; clear hown6 hgrow6 hat6))
      go_end0
      obtain ⟨e1, e2, e3⟩ := HEE.out
      subst e1 e2 e3
      rw [HEX.out.1, HEX.out.2]
      have hgg : g6 ≠ g1 ∧ g6 ≠ p := by
        rcases HAT.out with h | h
        · exact ⟨HGB.out g6 h, HPB.out g6 h⟩
        · omega
      refine ⟨⟨_, rfl⟩, some ⟨g6, 0, none⟩, cap6, ?_, ?_, ?_, ?_, ?_⟩
      · exact HB6.out.set 1 (.slice (some ⟨g6, 0, none⟩) (m + 1) cap6)
      · have h := ((owns_belowS H11.out hXa.out).kept HGR.out (by
          cases e : (Value.slice B m d).ownBlock with
          | none => exact .inr (fun h => by cases h)
          | some q => exact .inr (fun h => by injection h with h; exact HGB.out q e h.symm))).kept (grown_set w6 p 1 (.slice (some ⟨g6, 0, none⟩) (m + 1) cap6)) (own_ne (fun q hq => by have e5 : g1 = q := (by simpa [Value.ownBlock] using hq); omega))
        rw [cells_put] at h
        exact h
      · have h := HOW.out.kept (grown_set w6 p 1 (.slice (some ⟨g6, 0, none⟩) (m + 1) cap6)) (own_ne (fun q hq => by have e5 : g6 = q := (by simpa [Value.ownBlock] using hq); omega))
        rw [cells_snoc] at h
        exact h
      · intro q h3 h4
        have e5 : g1 = q := (by simpa [Value.ownBlock] using h3)
        have e6 : g6 = q := (by simpa [Value.ownBlock] using h4)
        omega
      · exact ((HL1.out.trans (hXa.out.mono (by omega))).grown HGR.out (by simp; omega) (fun q hq => by have := (H2.out.lt q hq).1; omega)).setCell (by exact hlp) _
end Go.Proofs.Ytneknajeecgnoaa.Base

namespace Go.Proofs.Ytneknajeecgnoaa.Base
open Go Go.RowKit
set_option linter.unusedVariables false
set_option linter.unusedSimpArgs false

/-- the code of JoinGroups -/
noncomputable def jgC (n : Nat) (f : Nat → Int) (m : Nat) (g : Nat → Int) (a b : Int) : Int := if goC n f m g (inB a 0 ((n : Int) - 1)) = 0 then goC n f m g (inB b 0 ((n : Int) - 1)) else goC n f m g (inB a 0 ((n : Int) - 1))
theorem ownRow_any {w : World} {base n c : Nat} {f : Nat → Int} {A : Option Addr} {e : TypeId} (h : w.ownsRow base e 1 (.slice A n c) n (cellsOfF n f)) (hw : ∀ i, i < n → (Lit.int .i64 (f i)).wf = true) : OwnRow w base A n c f := by
  by_cases hn : 0 < n
  · obtain ⟨A', c', e1, h1⟩ := ownRow_of_owns h hn hw
    injection e1 with e1 e2 e3
    subst e1 e3
    exact h1
  · obtain rfl : n = 0 := by omega
    refine ownRow_zero ?_
    rcases h.2 with ⟨e1, -⟩ | ⟨g, cap, cur, e1, -, -, -, hm, -⟩
    · injection e1 with _ _ e3
      rw [e3]
      exact Nat.zero_le _
    · injection e1 with _ _ e3
      rw [e3]
      exact hm
theorem jcase_wf {n m m0 x y : Nat} {f g f0 g0 : Nat → Int} (hc : JCase f m g x y f0 m0 g0) (hx : x < 1000000) (hy : y < 1000000) (hf : ∀ i, i < n → (Lit.int .i64 (f i)).wf = true) (hg : ∀ i, i < m → (Lit.int .i64 (g i)).wf = true) :
    (∀ i, i < n → (Lit.int .i64 (f0 i)).wf = true) ∧ (∀ i, i < m0 → (Lit.int .i64 (g0 i)).wf = true) := by
  rcases hc with ⟨-, rfl, rfl, rfl⟩ | ⟨-, rfl, rfl, rfl⟩
  · exact ⟨hf, hg⟩
  · refine ⟨fun i hi => ?_, fun i hi => ?_⟩
    · unfold putF
      split
      · exact WalkArith.wf_i64 (by omega)
      · exact hf i hi
    · unfold putF
      split
      · exact WalkArith.wf_i64 (by omega)
      · exact hg i (by omega)
theorem jgC_ok {n m : Nat} {f g : Nat → Int} {a b : Int} (h : jgC n f m g a b = 0) : vjB n f m g = true ∧ inB a 0 ((n : Int) - 1) = true ∧ inB b 0 ((n : Int) - 1) = true := by
  unfold jgC goC at h
  cases hv : vjB n f m g <;> cases ha : inB a 0 ((n : Int) - 1) <;> cases hb : inB b 0 ((n : Int) - 1) <;> simp [hv, ha, hb] at h ⊢
end Go.Proofs.Ytneknajeecgnoaa.Base

namespace Go.Proofs.Ytneknajeecgnoaa.Base
open Go Go.RowKit
set_option linter.unusedVariables false
set_option linter.unusedSimpArgs false

theorem row_lit2 (w : World) (a b : Int) (ha : (Lit.int .i64 a).wf = true) (hb : (Lit.int .i64 b).wf = true) : Row .i64 (w.alloc (.cells #[.int .i64 a, .int .i64 b] 2)) (some ⟨w.heap.size, 0, none⟩) 2 2 (fun i => if i = 0 then a else b) := by
  refine ⟨Nat.le_refl _, by unfold maxLen; omega, fun i hi => ?_, fun _ => ⟨w.heap.size, 0, rfl, by simp, fun i hi => ?_⟩⟩
  · show (Lit.int .i64 (if i = 0 then a else b)).wf = true
    split
    · exact ha
    · exact hb
  · have h := (Cel.new w [.int .i64 a, .int .i64 b] 2).2
    obtain rfl | rfl : i = 0 ∨ i = 1 := by omega
    · exact h 0 _ rfl
    · exact h 1 _ rfl
theorem jgv_boxes (w : World) (A B : Option Addr) (n c m d : Nat) (a b : Int) : Cel ((((w.alloc (.cells #[.slice A n c, .slice B m d] 26)).alloc (.cells #[.slice none 0 0, .slice none 0 0] 26)).alloc (.cells #[.int .i64 a, .int .i64 b] 2))) w.heap.size [.slice A n c, .slice B m d] ∧ At ((((w.alloc (.cells #[.slice A n c, .slice B m d] 26)).alloc (.cells #[.slice none 0 0, .slice none 0 0] 26)).alloc (.cells #[.int .i64 a, .int .i64 b] 2))) (w.heap.size + 1) #[.slice none 0 0, .slice none 0 0] 26 ∧ Below w.heap.size w ((((w.alloc (.cells #[.slice A n c, .slice B m d] 26)).alloc (.cells #[.slice none 0 0, .slice none 0 0] 26)).alloc (.cells #[.int .i64 a, .int .i64 b] 2))) ∧ ((((w.alloc (.cells #[.slice A n c, .slice B m d] 26)).alloc (.cells #[.slice none 0 0, .slice none 0 0] 26)).alloc (.cells #[.int .i64 a, .int .i64 b] 2))).heap.size = w.heap.size + 3 := by
  refine ⟨?_, ?_, ?_, by simp⟩
  · exact (udj_cel w A B n c m d).below ((Below.refl _ _).alloc (Nat.le_refl _) _) (by simp; omega)
  · have h := (At.new (w.alloc (.cells #[.slice A n c, .slice B m d] 26)) #[.slice none 0 0, .slice none 0 0] 26).below ((Below.refl _ _).alloc (Nat.le_refl _) (.cells #[.int .i64 a, .int .i64 b] 2)) (by simp)
    rw [World.size_alloc] at h
    exact h
  · exact (udj_bel w A B n c m d).alloc (by simp; omega) _
theorem jgC_no {n m : Nat} {f g : Nat → Int} {a b : Int} (h : vjB n f m g = false) : jgC n f m g a b = 1 := by simp [jgC, goC, h]
theorem jgC_in {n m : Nat} {f g : Nat → Int} {a b : Int} (h : vjB n f m g = true) : jgC n f m g a b = if (List.range 2).all (fun i => inB ((fun i : Nat => if i = 0 then a else b) i) 0 ((n : Int) - 1)) then 0 else 2 := by
  cases ha : inB a 0 ((n : Int) - 1) <;> cases hb : inB b 0 ((n : Int) - 1) <;> simp [jgC, goC, h, ha, hb, List.range_succ]
set_option maxHeartbeats 2000000 in
theorem impl_jg_bad (w : World) (A : Option Addr) (n c : Nat) (f : Nat → Int) (B : Option Addr) (m d : Nat) (g : Nat → Int) (a b z : Int) (ha : (Lit.int .i64 a).wf = true) (hb : (Lit.int .i64 b).wf = true)
    (hr : Row .i64 w A n c f) (hr' : Row .i64 w B m d g) (hz : jgC n f m g a b = z) (h0 : z ≠ 0) :
    Calls Try.prog 15 #[.agg #[.slice A n c, .slice B m d], .int .i64 a, .int .i64 b] w (JnOut 0 f 0 g z w) := by
  obtain ⟨x1, x2, x3, x4⟩ := jgv_boxes w A B n c m d a b
  have hrow := row_lit2 ((w.alloc (.cells #[.slice A n c, .slice B m d] 26)).alloc (.cells #[.slice none 0 0, .slice none 0 0] 26)) a b ha hb
  rw [World.size_alloc, World.size_alloc] at hrow
  have HQ := Lib.hid x2
  have HB := Lib.hid x3
  have hHC : Calls Try.prog 57 #[.agg #[.slice A n c, .slice B m d], .slice (some ⟨w.heap.size + 1 + 1, 0, none⟩) 2 2] ((((w.alloc (.cells #[.slice A n c, .slice B m d] 26)).alloc (.cells #[.slice none 0 0, .slice none 0 0] 26)).alloc (.cells #[.int .i64 a, .int .i64 b] 2))) (Gives (.tuple #[.pointer none, .int .i64 z]) ((((w.alloc (.cells #[.slice A n c, .slice B m d] 26)).alloc (.cells #[.slice none 0 0, .slice none 0 0] 26)).alloc (.cells #[.int .i64 a, .int .i64 b] 2)))) := by
    cases hv : vjB n f m g
    · rw [jgC_no hv] at hz
      rw [← hz]
      exact impl_forestWith_no _ A n c f B m d g _ 2 2 (hr.below x3 (Nat.le_refl _)) (hr'.below x3 (Nat.le_refl _)) hv
    · rw [jgC_in hv] at hz
      have h := impl_forestWith _ A n c f B m d g _ 2 2 _ (hr.below x3 (Nat.le_refl _)) (hr'.below x3 (Nat.le_refl _)) hrow hv (by omega) _ rfl
      split at hz
      · exact absurd hz.symm h0
      · next hn =>
        rw [if_neg hn] at h
        rw [← hz]
        exact h
  have HC := Lib.hid hHC
  have e2 : (z != 0) = true := bne_iff_ne.2 h0
  have kx := x1.1
  have k0 : ((((w.alloc (.cells #[.slice A n c, .slice B m d] 26)).alloc (.cells #[.slice none 0 0, .slice none 0 0] 26)).alloc (.cells #[.int .i64 a, .int .i64 b] 2))).cell? ⟨w.heap.size, 0, none⟩ = some (.slice A n c) := x1.2 0 _ rfl
  clear hr hr' ha hb hz h0 x1 x2 x3 hHC hrow k0 kx
  go_enter Try.func15, Try.ntmps15
  go_wp2_with fail
  refine HC.out.mono ?_
  rintro e w2 ⟨rfl, b2⟩
  have hq := HQ.out.lt
  have HQ2 := Lib.hid (HQ.out.below b2 hq)
  have HB2 := Lib.hid (HB.out.trans (b2.mono HB.out.size))
  have lz := HQ2.out.lt
  have q0 : w2.cell? ⟨w.heap.size + 1, 0, none⟩ = some (.slice none 0 0) := HQ2.out.cellv (i := 0) rfl
  have q1 : w2.cell? ⟨w.heap.size + 1, 1, none⟩ = some (.slice none 0 0) := HQ2.out.cellv (i := 1) rfl
  have f0 := HQ2.out.frozen 0
  have f1 := HQ2.out.frozen 1
  clear b2
  go_wp2
  refine bodyPost_ret (v := .tuple #[.agg #[.slice none 0 0, .slice none 0 0], .int .i64 z]) (by simp [results, Try.results15, go_sem, q0, q1]) rfl ⟨none, 0, none, 0, rfl, ⟨ownRow_nilU, ownRow_nilU, fun h1 h2 => absurd h2 (by omega)⟩, ?_⟩
  exact (HB2.out.setCell (by simp) _).setCell (by simp) _
theorem Fst.up {w w' : World} {base F E n : Nat} {lv : Value} {p : Nat → Nat} (h : Fst w base F E n lv (.slice none 0 0) p []) (hb : Below w.heap.size w w') : Fst w' w'.heap.size F E n lv (.slice none 0 0) p [] := by
  have h1 := h.bel hb
  exact ⟨h1.box, h1.elm, ⟨rfl, .inl ⟨rfl, rfl⟩⟩, h1.box.lt, h1.elm.lt, h1.ne, Nat.le_refl _⟩
/-- parents as numbers -/
theorem jcase_nat {m x y m0 : Nat} {f g f0 g0 : Nat → Int} {n : Nat} (hc : JCase f m g x y f0 m0 g0) (hf : ∀ i, i < n → 0 ≤ f i ∧ f i < n) (hx : x < n) (hy : y < n) :
    ∃ p0, ((x = y ∧ p0 = pNat f ∧ m0 = m ∧ g0 = g) ∨ (x ≠ y ∧ p0 = hvP (pNat f) (max x y) (min x y) ∧ m0 = m + 1 ∧ g0 = putF g m (max x y : Nat))) ∧ cellsOfF n (fun k => (p0 k : Int)) = cellsOfF n f0 ∧ ∀ i, i < n → p0 i < n := by
  rcases hc with ⟨h, e1, e2, e3⟩ | ⟨h, e1, e2, e3⟩
  · rw [e1, e2, e3]
    refine ⟨_, .inl ⟨h, rfl, rfl, rfl⟩, ?_, fun i hi => ?_⟩
    · unfold cellsOfF
      refine List.map_congr_left fun i hi => ?_
      have := hf i (List.mem_range.1 hi)
      show Value.int .i64 (((f i).toNat : Nat) : Int) = .int .i64 (f i)
      rw [Int.toNat_of_nonneg this.1]
    · have := hf i hi
      unfold pNat
      omega
  · rw [e1, e2, e3]
    refine ⟨_, .inr ⟨h, rfl, rfl, rfl⟩, ?_, fun i hi => ?_⟩
    · unfold cellsOfF
      refine List.map_congr_left fun i hi => ?_
      have := hf i (List.mem_range.1 hi)
      show Value.int .i64 (((if i = max x y then min x y else (f i).toNat : Nat) : Nat) : Int) = .int .i64 (if i = max x y then ((min x y : Nat) : Int) else f i)
      by_cases e : i = max x y
      · rw [if_pos e, if_pos e]
      · rw [if_neg e, if_neg e, Int.toNat_of_nonneg this.1]
    · have := hf i hi
      unfold hvP pNat
      split <;> omega
set_option maxHeartbeats 2000000 in
theorem impl_jg_ok (w : World) (A : Option Addr) (n c : Nat) (f : Nat → Int) (B : Option Addr) (m d : Nat) (g : Nat → Int) (a b x y : Nat) (f0 : Nat → Int) (m0 : Nat) (g0 : Nat → Int)
    (hr : Row .i64 w A n c f) (hr' : Row .i64 w B m d g) (hz : jgC n f m g a b = 0) (hx : upN f m a = x) (hy : upN f m b = y) (hc : JCase f m g x y f0 m0 g0) :
    Calls Try.prog 15 #[.agg #[.slice A n c, .slice B m d], .int .i64 (a : Int), .int .i64 (b : Int)] w (JnOut n f0 m0 g0 0 w) := by
  obtain ⟨hv, hia, hib⟩ := jgC_ok hz
  obtain ⟨a1, a2⟩ := in_yes hia
  obtain ⟨b1, b2⟩ := in_yes hib
  have han : a < n := by omega
  have hbn : b < n := by omega
  have hvj := vj_yes hv
  have HV := Lib.hid hvj
  have hn1 := hvj.n1
  have hn2 := hvj.n2
  have hm2 := hvj.le
  have hxn : x < n := by rw [← hx]; exact up_lt hvj han m
  have hyn : y < n := by rw [← hy]; exact up_lt hvj hbn m
  have HWF := Lib.hid (jcase_wf (n := n) hc (by omega) (by omega) hr.2.2.1 hr'.2.2.1)
  obtain ⟨p0, hp0, hpc, hpl⟩ := jcase_nat hc (fun i hi => ⟨(hvj.pars i hi).1, (hvj.pars i hi).2.1⟩) hxn hyn
  have HPC := Lib.hid hpc
  have HPL := Lib.hid hpl
  have HP0 := Lib.hid hp0
  have hra := hvj.rt han
  have hrb := hvj.rt hbn
  rw [hx] at hra
  rw [hy] at hrb
  have HRA := Lib.hid hra
  have HRB := Lib.hid hrb
  obtain ⟨x1, x2, x3, x4⟩ := jgv_boxes w A B n c m d a b
  have hrow := row_lit2 ((w.alloc (.cells #[.slice A n c, .slice B m d] 26)).alloc (.cells #[.slice none 0 0, .slice none 0 0] 26)) (a : Int) (b : Int) (WalkArith.wf_i64 (by omega)) (WalkArith.wf_i64 (by omega))
  rw [World.size_alloc, World.size_alloc] at hrow
  have h := impl_forestWith _ A n c f B m d g _ 2 2 _ (hr.below x3 (Nat.le_refl _)) (hr'.below x3 (Nat.le_refl _)) hrow hv (by omega) true (by simp [List.range_succ, hia, hib])
  rw [if_pos rfl] at h
  have HC := Lib.hid h
  have HQ := Lib.hid x2
  have HB := Lib.hid x3
  have HX4 := Lib.hid x4
  clear hr hr' hz hia hib a1 a2 b1 b2 hv hvj hx hy hc hp0 hpc hpl hra hrb x1 x2 x3 x4 hrow h
  go_enter Try.func15, Try.ntmps15
  go_wp2_with fail
  refine HC.out.mono ?_
  rintro e w1 ⟨F, E, lv, base, rfl, hfs, hlo, hne, hF, hE, b1⟩
  rw [HX4.out] at hF hE hlo
  have hq := HQ.out.lt
  have hz1 := b1.size
  rw [HX4.out] at hz1
  have HQ1 := Lib.hid (HQ.out.below b1 hq)
  have HB1 := Lib.hid (HB.out.trans (b1.mono HB.out.size))
  have HFS := Lib.hid hfs
  have HLO := Lib.hid hlo
  have HNE := Lib.hid hne
  clear b1 hfs hlo hne HC HX4 hq
  have bA := (Below.refl w1.heap.size w1).alloc (Nat.le_refl _) (.cells #[.int .i64 (a : Int), .int .i64 (b : Int)] 2)
  have bB := bA.alloc (by simp) (.cells #[.slice (some ⟨w1.heap.size, 0, none⟩) 2 2] 24)
  have hQA := (At.new w1 #[.int .i64 (a : Int), .int .i64 (b : Int)] 2).below ((Below.refl _ _).alloc (Nat.le_refl _) (.cells #[.slice (some ⟨w1.heap.size, 0, none⟩) 2 2] 24)) (by simp)
  have hPA := At.new (w1.alloc (.cells #[.int .i64 (a : Int), .int .i64 (b : Int)] 2)) #[.slice (some ⟨w1.heap.size, 0, none⟩) 2 2] 24
  rw [World.size_alloc] at hPA
  have HBB := Lib.hid bB
  have HQA := Lib.hid hQA
  have HPA := Lib.hid hPA
  have HSZ := Lib.hid (show ((w1.alloc (.cells #[.int .i64 (a : Int), .int .i64 (b : Int)] 2)).alloc (.cells #[.slice (some ⟨w1.heap.size, 0, none⟩) 2 2] 24)).heap.size = w1.heap.size + 2 by simp)
  clear bA bB hQA hPA
  go_wp2_with fail
  generalize (w1.alloc (.cells #[.int .i64 (a : Int), .int .i64 (b : Int)] 2)).alloc (.cells #[.slice (some ⟨w1.heap.size, 0, none⟩) 2 2] 24) = w2 at *
  have hfF := HFS.out.box.lt
  have hfE := HFS.out.elm.lt
  refine (impl_join1 w2 (w.heap.size + 3) w2.heap.size F E (w1.heap.size + 1) w1.heap.size n m lv (fun x => nrN f x m) (pNat f) g a b x y (HFS.out.up HBB.out) (owns_belowS HLO.out HBB.out) (fun q hq => ⟨by have := (HLO.out.lt q hq).2; have := HSZ.out; omega, (HNE.out q hq).2⟩) hF hE HPA.out HQA.out (by have := HSZ.out; omega) (by omega) (by omega) HV.out.fr han hbn HRA.out HRB.out hn2 (by omega) p0 m0 g0 HP0.out (fun x hx => by have := nr_le (f := f) x m; omega)).mono ?_
  rintro e w3 ⟨lv3, v3, rfl, hE3, hF3, hlog3, hfar3, b3⟩
  have HQ2 := Lib.hid (HQ1.out.below HBB.out HQ1.out.lt)
  have hl2 := HQ2.out.lt
  have HQ3 := Lib.hid (HQ2.out.below b3 (by omega))
  have HB3 := Lib.hid ((HB1.out.trans (HBB.out.mono HB1.out.size)).trans (b3.mono (by omega)))
  obtain ⟨B3, d3, rfl⟩ := owns_slice hlog3
  have HE3 := Lib.hid hE3
  have HF3 := Lib.hid hF3
  have HL3 := Lib.hid hlog3
  have hz3 := b3.size
  clear b3 hE3 hF3 hlog3 hfar3 HQ1 HQ2 HB1 HFS HLO HNE HBB HQA HPA
  go_wp2_with fail
  refine (impl_joined w3 F E n B3 m0 d3 p0 HE3.out HF3.out HPL.out hn1 hn2).mono ?_
  rintro e w4 ⟨v4, rfl, hown, b4⟩
  obtain ⟨A4, c4, rfl⟩ := owns_slice hown
  rw [HPC.out] at hown
  have HO4 := Lib.hid hown
  have HQ4 := Lib.hid (HQ3.out.below b4 HQ3.out.lt)
  have HL4 := Lib.hid (owns_belowS HL3.out b4)
  have HB4 := Lib.hid (HB3.out.trans (b4.mono HB3.out.size))
  have HLT := Lib.hid (fun q hq => (HL3.out.lt q hq).2)
  have lz := HQ4.out.lt
  have q0 : w4.cell? ⟨w.heap.size + 1, 0, none⟩ = some (.slice none 0 0) := HQ4.out.cellv (i := 0) rfl
  have q1 : w4.cell? ⟨w.heap.size + 1, 1, none⟩ = some (.slice none 0 0) := HQ4.out.cellv (i := 1) rfl
  have f0' := HQ4.out.frozen 0
  have f1' := HQ4.out.frozen 1
  have hq3 := HQ3.out.lt
  clear b4 hown
  go_wp2
  refine bodyPost_ret (v := .tuple #[.agg #[.slice A4 n c4, .slice B3 m0 d3], .int .i64 0]) (by simp [results, Try.results15, go_sem, q0, q1]) rfl ⟨A4, c4, B3, d3, rfl, ⟨?_, ?_, ?_⟩, ?_⟩
  · exact (((ownRow_any HO4.out HWF.out.1).setLow (by omega) _ _).setLow (by omega) _ _).mono (by omega)
  · exact (((ownRow_any HL4.out HWF.out.2).setLow (by omega) _ _).setLow (by omega) _ _).mono (by omega)
  · intro h1 h2 q hx hy
    have hx' : (Value.slice A4 n c4).ownBlock = some q := by
      cases A4 with
      | none => simp [blk] at hx
      | some ad => simpa [blk, Value.ownBlock] using hx
    have hy' : (Value.slice B3 m0 d3).ownBlock = some q := by
      cases B3 with
      | none => simp [blk] at hy
      | some ad => simpa [blk, Value.ownBlock] using hy
    have := (HO4.out.lt q hx').1
    have := HLT.out q hy'
    omega
  · exact (HB4.out.setCell (by simp) _).setCell (by simp) _
end Go.Proofs.Ytneknajeecgnoaa.Base
