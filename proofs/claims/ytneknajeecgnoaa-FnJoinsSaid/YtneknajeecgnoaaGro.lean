/-
  GroupOf, the model's and the program's.
-/
import Derived.Test.YtneknajeecgnoaaPld
import Derived.Test.YtneknajeecgnoaaCgr
namespace Go.Proofs.Ytneknajeecgnoaa.Base
open Go Go.RowKit
set_option linter.unusedVariables false
set_option linter.unusedSimpArgs false
section
variable {n m : Nat} {f g : Nat → Int}
theorem rt_up : ∀ (j k : Nat), pNat f (upN f j k) = upN f j k → Rt (pNat f) k (upN f j k)
  | 0, k, h => .top h
  | j + 1, k, h => by
    have e : upN f (j + 1) k = upN f j (pNat f k) := by rw [Nat.add_comm j 1, up_add]; rfl
    rw [e] at h ⊢
    by_cases hk : pNat f k = k
    · have h2 := rt_up j (pNat f k) h
      rw [hk] at h2 ⊢
      exact h2
    · exact .up hk (rt_up j (pNat f k) h)
theorem nr_le (x : Nat) : ∀ j, nrN f x j ≤ j
  | 0 => Nat.le_refl _
  | j + 1 => by have := nr_le x j; unfold nrN; split <;> omega
theorem VJ.fr (h : VJ n f m g) : FR n (pNat f) (fun x => nrN f x m) := by
  refine ⟨fun x hx => ?_, fun x hx => ?_⟩
  · have := h.pars x hx
    unfold pNat
    omega
  · by_cases e : pNat f x = x
    · exact .inl e
    · have hp := h.pars x hx
      exact .inr (nr_less h hx (fun e2 => e (by unfold pNat; omega)))
theorem VJ.rt (h : VJ n f m g) {k : Nat} (hk : k < n) : Rt (pNat f) k (upN f m k) := rt_up m k (by
  have := up_stays h hk
  show (f (upN f m k)).toNat = _
  rw [this]; simp)
end
/-- the code of joined elements and numbers of elements -/
noncomputable def goC (n : Nat) (f : Nat → Int) (m : Nat) (g : Nat → Int) (v : Bool) : Int := if vjB n f m g then (if v then 0 else 2) else 1
theorem goC_no {n m : Nat} {f g : Nat → Int} {v : Bool} (h : vjB n f m g = false) : goC n f m g v = 1 := by simp [goC, h]
theorem goC_out {n m : Nat} {f g : Nat → Int} (h : vjB n f m g = true) : goC n f m g false = 2 := by simp [goC, h]
theorem goC_in {n m : Nat} {f g : Nat → Int} (h : vjB n f m g = true) : goC n f m g true = 0 := by simp [goC, h]
noncomputable def goN (n : Nat) (f : Nat → Int) (m : Nat) (g : Nat → Int) (k : Int) : Int := if goC n f m g (inB k 0 ((n : Int) - 1)) = 0 then (upN f m k.toNat : Nat) else 0
/-- what forestWith leaves where the elements are there -/
def Planted (n : Nat) (f : Nat → Int) (m : Nat) (g : Nat → Int) (v : Nat → Value) (w : World) (e : Ending) (w' : World) : Prop :=
  ∃ F E lv base, e = .returned (v F) ∧ Fst w' base F E n lv (.slice none 0 0) (pNat f) [] ∧ w'.ownsRow w.heap.size 2 1 lv m (cellsOfF m g) ∧ (∀ b, lv.ownBlock = some b → b < base ∧ b ≠ F ∧ b ≠ E) ∧ w.heap.size ≤ F ∧ w.heap.size ≤ E ∧ Below w.heap.size w w'
set_option maxHeartbeats 1000000 in
theorem impl_forestWith_no (w : World) (A : Option Addr) (n c : Nat) (f : Nat → Int) (B : Option Addr) (m d : Nat) (g : Nat → Int) (C : Option Addr) (q cq : Nat) (hr : Row .i64 w A n c f) (hr' : Row .i64 w B m d g) (hv : vjB n f m g = false) :
    Calls Try.prog 57 #[.agg #[.slice A n c, .slice B m d], .slice C q cq] w (Gives (.tuple #[.pointer none, .int .i64 1]) w) := by
  have HL := Lib.hid ((Below.refl w.heap.size w).alloc (Nat.le_refl _) (.cells #[.slice A n c, .slice B m d] 26))
  have HX := Lib.hid (Cel.new w [.slice A n c, .slice B m d] 26)
  have HC := Lib.hid (vldJ_is hv (hr.below HL.out (Nat.le_refl _)) (hr'.below HL.out (Nat.le_refl _)))
  clear hr hr' hv
  go_enter Try.func57, Try.ntmps57
  go_wp2_with fail
  refine HC.out.mono ?_
  rintro e w1 ⟨rfl, b1⟩
  go_wp2
  go_ret2
  exact ⟨rfl, HL.out.trans (b1.mono HL.out.size)⟩
set_option maxHeartbeats 2000000 in
theorem impl_forestWith (w : World) (A : Option Addr) (n c : Nat) (f : Nat → Int) (B : Option Addr) (m d : Nat) (g : Nat → Int) (C : Option Addr) (q cq : Nat) (k : Nat → Int) (hr : Row .i64 w A n c f) (hr' : Row .i64 w B m d g) (hq : Row .i64 w C q cq k) (hv : vjB n f m g = true) (h5 : q ≤ 5) (v : Bool) (hk : (List.range q).all (fun i => inB (k i) 0 ((n : Int) - 1)) = v) :
    Calls Try.prog 57 #[.agg #[.slice A n c, .slice B m d], .slice C q cq] w (if v then Planted n f m g (fun F => .tuple #[.pointer (some ⟨F, 0, none⟩), .int .i64 0]) w else Gives (.tuple #[.pointer none, .int .i64 2]) w) := by
  have HL := Lib.hid ((Below.refl w.heap.size w).alloc (Nat.le_refl _) (.cells #[.slice A n c, .slice B m d] 26))
  have HX := Lib.hid (Cel.new w [.slice A n c, .slice B m d] 26)
  have HR := Lib.hid hr
  have HR' := Lib.hid hr'
  have HQ := Lib.hid hq
  have HK := Lib.hid hk
  have HC := Lib.hid (vldJ_is hv (hr.below HL.out (Nat.le_refl _)) (hr'.below HL.out (Nat.le_refl _)))
  have HV := Lib.hid (vj_yes hv)
  have hn1 := (vj_yes hv).n1
  have hn2 := (vj_yes hv).n2
  have hmn := (vj_yes hv).le
  have hcm := hr.2.1
  have hnc := hr.1
  unfold maxLen at hcm
  have k0 := HX.out.2 0 _ rfl
  have k1 := HX.out.2 1 _ rfl
  have kz := HX.out.1
  clear hr hr' hq hv hk
  go_enter Try.func57, Try.ntmps57
  go_wp2_with fail
  refine HC.out.mono ?_
  rintro e w1 ⟨rfl, b1⟩
  have HX1 := Lib.hid (HX.out.below b1 HX.out.1)
  have HB1 := Lib.hid (HL.out.trans (b1.mono HL.out.size))
  clear b1 k0 k1 kz HX HC HL
  go_wp2
  go_loopw [13] (fun iv wr => ∃ i : Nat, i ≤ q ∧ iv = .int .i64 (i : Int) ∧ Hid (∀ j, j < i → inB (k j) 0 ((n : Int) - 1) = true) ∧ Hid (Cel wr w.heap.size [.slice A n c, .slice B m d]) ∧ Hid (Below w.heap.size w wr)) (fun iv _ => q - (intOf iv).toNat)
  case atStart => exact ⟨0, Nat.zero_le _, rfl, Lib.hid (fun j h => absurd h (Nat.not_lt_zero _)), HX1, HB1⟩
  case round =>
    clear HX1 HB1
    obtain ⟨i, hi, rfl, HA, HX, HB⟩ := hrel
    have kz := HX.out.1
    have k0 := HX.out.2 0 _ rfl
    have k1 := HX.out.2 1 _ rfl
    by_cases hlt : i < q
    · obtain ⟨b, o, rfl, hbl, hc⟩ := (HQ.out.below HB.out (Nat.le_refl _)).2.2.2 (by omega)
      have hck := hc i hlt
      clear hc
      obtain ⟨u, hu⟩ : ∃ u, inB (k i) 0 ((n : Int) - 1) = u := ⟨_, rfl⟩
      have HU := Lib.hid hu
      clear hu
      go_wp2_with fail
      refine (hasElement_is HU.out (by omega)).mono ?_
      rintro e w2 ⟨rfl, b2⟩
      have HX2 := Lib.hid (HX.out.below b2 HX.out.1)
      have HB2 := Lib.hid (HB.out.trans (b2.mono HB.out.size))
      clear b2 HX HB k0 k1 kz
      cases u
      · have hvf : v = false := by
          rw [← HK.out, List.all_eq_false]
          exact ⟨i, List.mem_range.2 hlt, by rw [HU.out]; simp⟩
        subst hvf
        go_wp2
        go_ret2
        exact ⟨rfl, HB2.out⟩
      · go_wp2
        go_roundw
        case rel =>
          refine ⟨i + 1, by omega, by go_num, Lib.hid (fun j hj => ?_), HX2, HB2⟩
          rcases Nat.lt_succ_iff_lt_or_eq.1 hj with h | rfl
          · exact HA.out j h
          · exact HU.out
        case measure => simp [intOf]; omega
    · obtain rfl : i = q := by omega
      have hvt : v = true := by
        rw [← HK.out, List.all_eq_true]
        exact fun j hj => HA.out j (List.mem_range.1 hj)
      subst hvt
      go_wp2_with fail
      refine (impl_planted wr A n c f B m d g (HR.out.below HB.out (Nat.le_refl _)) (HR'.out.below HB.out (Nat.le_refl _)) hn1 hn2 (by omega) (fun x hx => by have := HV.out.pars x hx; omega)).mono ?_
      rintro e w2 ⟨F, E, lv, base, rfl, hfs, hlo, hne, hF, hE, b2⟩
      have HFS := Lib.hid hfs
      have HLO := Lib.hid hlo
      have HNE := Lib.hid hne
      have HB2 := Lib.hid (HB.out.trans (b2.mono HB.out.size))
      have hbz := HB.out.size
      clear hfs hlo hne b2
      go_wp2
      go_ret2
      exact ⟨F, E, lv, base, rfl, HFS.out, owns_mono HLO.out hbz, HNE.out, by omega, by omega, HB2.out⟩
theorem row_lit1 (w : World) (k : Int) (hk : (Lit.int .i64 k).wf = true) : Row .i64 (w.alloc (.cells #[.int .i64 k] 2)) (some ⟨w.heap.size, 0, none⟩) 1 1 (fun _ => k) := by
  refine ⟨Nat.le_refl _, by unfold maxLen; omega, fun i hi => hk, fun _ => ⟨w.heap.size, 0, rfl, by simp, fun i hi => ?_⟩⟩
  obtain rfl : i = 0 := by omega
  have h := (Cel.new w [.int .i64 k] 2).2 0 _ rfl
  exact h
set_option maxHeartbeats 1000000 in
theorem impl_groupOf (w : World) (A : Option Addr) (n c : Nat) (f : Nat → Int) (B : Option Addr) (m d : Nat) (g : Nat → Int) (k : Int) (hr : Row .i64 w A n c f) (hr' : Row .i64 w B m d g) (hk : (Lit.int .i64 k).wf = true) :
    Calls Try.prog 18 #[.agg #[.slice A n c, .slice B m d], .int .i64 k] w (Gives (.tuple #[.int .i64 (goN n f m g k), .int .i64 (goC n f m g (inB k 0 ((n : Int) - 1)))]) w) := by
  have HL := Lib.hid ((Below.refl w.heap.size w).alloc (Nat.le_refl _) (.cells #[.slice A n c, .slice B m d] 26))
  have HX := Lib.hid (Cel.new w [.slice A n c, .slice B m d] 26)
  have HR := Lib.hid (hr.below HL.out (Nat.le_refl _))
  have HR' := Lib.hid (hr'.below HL.out (Nat.le_refl _))
  have kz := HX.out.1
  have k0 := HX.out.2 0 _ rfl
  have k1 := HX.out.2 1 _ rfl
  have bA := (Below.refl (w.alloc (.cells #[.slice A n c, .slice B m d] 26)).heap.size (w.alloc (.cells #[.slice A n c, .slice B m d] 26))).alloc (Nat.le_refl _) (.cells #[.int .i64 k] 2)
  have hq0 := row_lit1 (w.alloc (.cells #[.slice A n c, .slice B m d] 26)) k hk
  rw [World.size_alloc] at hq0
  have HQ := Lib.hid hq0
  clear hq0
  have HR2 := Lib.hid (HR.out.below bA (Nat.le_refl _))
  have HR2' := Lib.hid (HR'.out.below bA (Nat.le_refl _))
  have HB2 := Lib.hid (HL.out.trans (bA.mono HL.out.size))
  have hal : ∀ v, inB k 0 ((n : Int) - 1) = v → (List.range 1).all (fun i => inB ((fun _ : Nat => k) i) 0 ((n : Int) - 1)) = v := fun v h => by simp [List.range_succ, h]
  clear hr hr' bA
  cases hv : vjB n f m g
  · have hz := goC_no (v := inB k 0 ((n : Int) - 1)) hv
    have hN : goN n f m g k = 0 := by unfold goN; rw [hz]; rfl
    rw [hN, hz]
    have HC := Lib.hid (impl_forestWith_no _ A n c f B m d g (some ⟨w.heap.size + 1, 0, none⟩) 1 1 HR2.out HR2'.out hv)
    clear hv hz hN hal
    go_enter Try.func18, Try.ntmps18
    go_wp2_with fail
    refine (HC.out).mono ?_
    rintro e w1 ⟨rfl, b1⟩
    go_wp2
    go_ret2
    exact ⟨rfl, HB2.out.trans (b1.mono HB2.out.size)⟩
  · obtain ⟨v, hi⟩ : ∃ v, inB k 0 ((n : Int) - 1) = v := ⟨_, rfl⟩
    have HC := Lib.hid (impl_forestWith _ A n c f B m d g (some ⟨w.heap.size + 1, 0, none⟩) 1 1 (fun _ => k) HR2.out HR2'.out HQ.out hv (by omega) v (hal v hi))
    rw [hi]
    cases v
    · have hz := goC_out hv
      have hN : goN n f m g k = 0 := by unfold goN; rw [hi, hz]; rfl
      rw [hN, hz]
      clear hv hz hN hal hi
      go_enter Try.func18, Try.ntmps18
      go_wp2_with fail
      refine (HC.out).mono ?_
      rintro e w1 ⟨rfl, b1⟩
      go_wp2
      go_ret2
      exact ⟨rfl, HB2.out.trans (b1.mono HB2.out.size)⟩
    · have hz := goC_in hv
      obtain ⟨i1, i2⟩ := in_yes hi
      obtain ⟨q, rfl⟩ : ∃ q : Nat, k = q := ⟨k.toNat, by omega⟩
      have hN : goN n f m g q = (upN f m q : Nat) := by unfold goN; rw [hi, hz]; simp
      rw [hN, hz]
      have HV := Lib.hid (vj_yes hv)
      have hn2 := HV.out.n2
      have hmn := HV.out.le
      have hq : q < n := by omega
      clear hv hz hN hal hi
      go_enter Try.func18, Try.ntmps18
      go_wp2_with fail
      refine (HC.out).mono ?_
      rintro e w1 ⟨F, E, lv, base, rfl, hfs, hlo, hne, hF, hE, b1⟩
      have HFS := Lib.hid hfs
      have HB1 := Lib.hid (HB2.out.trans (b1.mono HB2.out.size))
      clear hfs hlo hne b1 HC
      go_wp2_with fail
      refine (impl_standing w1 base F E n lv (.slice none 0 0) (fun x => nrN f x m) (pNat f) [] q (upN f m q) HFS.out HV.out.fr hq (HV.out.rt hq) hn2 (by simp) (fun x hx => by have := nr_le (f := f) x m; omega)).mono ?_
      rintro e w2 ⟨cv', p', L', rfl, -, -, -, -, -, hs2, hw2⟩
      have hr := up_lt HV.out hq m
      obtain ⟨c1, -, -, -⟩ := hs2.elm.at_ hr
      have ez := hs2.elm.lt
      have hlow := HFS.out.low
      have hf1 := HFS.out.far1
      have hf2 := HFS.out.far2
      have h1 := HB2.out.size
      have HB3 := Lib.hid (HB1.out.trans (hw2.below (B := w.heap.size) (by omega) (by omega) (by omega)))
      clear hs2 hw2
      go_wp2
      go_ret2
      exact ⟨rfl, HB3.out⟩
theorem impl_groupOfX (k : Int) (hk : (Lit.int .i64 k).wf = true) (w : World) (A : Option Addr) (n c : Nat) (f : Nat → Int) (B : Option Addr) (m d : Nat) (g : Nat → Int) (hr : Row .i64 w A n c f) (hr' : Row .i64 w B m d g) :
    Calls Try.prog 18 #[.agg #[.slice A n c, .slice B m d], .int .i64 k] w (Gives (.tuple #[.int .i64 (goN n f m g k), .int .i64 (goC n f m g (inB k 0 ((n : Int) - 1)))]) w) := impl_groupOf w A n c f B m d g k hr hr' hk
end Go.Proofs.Ytneknajeecgnoaa.Base
