/-
  ReadPanel: the specification's.
-/
import Derived.Test.YtocnocchliihhaaDoorRpm
import Derived.Test.YtocnocchliihhaaDoorRds
import Derived.Test.YtocnocchliihhaaDoorNew
import Derived.Test.YtocnocchliihhaaDoorWls
import Derived.Test.YtocnocchliihhaaDoorPpc
import Derived.Deep.AppendLies
import Derived.Deep.RegionLaw
import Derived.Shelf.Abstract
import Derived.Test.YtocnocchliihhaaDoorPan
import Derived.Test.YtocnocchliihhaaDoorShape
namespace Go.Proofs.YtocnocchliihhaaDoor.Base
open Go Go.RowKit
open Go.PlainAid (bt get_bt bt_nonneg bt_le)
set_option linter.unusedVariables false
set_option linter.unusedSimpArgs false

theorem kindS_is (w : World) (c : Int) : Calls Tryd.prog 63 #[.int .u8 c] w fun e w' => e = .returned (.int .i64 (kindI c)) ∧ w = w' := by
  by_cases h1 : c = 43
  · have e : kindI c = 0 := if_pos h1
    have b1 : (c == 43) = true := beq_iff_eq.2 h1
    rw [e]
    clear e h1
    go_enter Tryd.func63, Tryd.ntmps63
    go_wp2
    go_ret
    exact ⟨rfl, rfl⟩
  · have b1 : (c == 43) = false := beq_eq_false_iff_ne.2 h1
    by_cases h2 : c = 124
    · have e : kindI c = 1 := by unfold kindI; rw [if_neg h1, if_pos h2]
      have b2 : (c == 124) = true := beq_iff_eq.2 h2
      rw [e]
      clear e h1 h2
      go_enter Tryd.func63, Tryd.ntmps63
      go_wp2
      go_ret
      exact ⟨rfl, rfl⟩
    · have b2 : (c == 124) = false := beq_eq_false_iff_ne.2 h2
      by_cases h3 : c = 45
      · have e : kindI c = 2 := by unfold kindI; rw [if_neg h1, if_neg h2, if_pos h3]
        have b3 : (c == 45) = true := beq_iff_eq.2 h3
        rw [e]
        clear e h1 h2 h3
        go_enter Tryd.func63, Tryd.ntmps63
        go_wp2
        go_ret
        exact ⟨rfl, rfl⟩
      · have e : kindI c = -1 := by unfold kindI; rw [if_neg h1, if_neg h2, if_neg h3]
        have b3 : (c == 45) = false := beq_eq_false_iff_ne.2 h3
        rw [e]
        clear e h1 h2 h3
        go_enter Tryd.func63, Tryd.ntmps63
        go_wp2
        go_ret
        exact ⟨rfl, rfl⟩
/-- the text has the form of a panel's text: 'x' at k, ':' at j -/
structure Fm (s : ByteArray) (k j : Nat) : Prop where
  kj : k < j
  js : j < s.size
  xk : bt s k = 120
  x1 : ∀ i, i < k → bt s i ≠ 120
  x2 : ∀ i, k < i → i < j → bt s i ≠ 120
  cj : bt s j = 58
  c1 : ∀ i, i < j → bt s i ≠ 58
  c2 : ∀ i, j < i → i < s.size → bt s i ≠ 58
/-- either the parts of the text are those of its form, or there is none -/
theorem fm_cases (s : ByteArray) : (∃ k j, Fm s k j ∧ prtAllC 58 s = [(0, j), (j + 1, s.size)] ∧ prtAllC 120 (s.extract 0 j) = [(0, k), (k + 1, j)]) ∨
    ((∀ k j, ¬ Fm s k j) ∧ ((prtAllC 58 s).length ≠ 2 ∨ ∃ j, j < s.size ∧ prtAllC 58 s = [(0, j), (j + 1, s.size)] ∧ (prtAllC 120 (s.extract 0 j)).length ≠ 2)) := by
  rcases prtAllC_cases 58 s with ⟨j, j1, j2, j3, j4, j5⟩ | ⟨n1, n2⟩
  · have hz : (s.extract 0 j).size = j := by rw [ByteArray.size_extract]; omega
    have hb : ∀ i, i < j → bt (s.extract 0 j) i = bt s i := fun i hi => by rw [extract_bt s 0 j i (by omega) (by omega), Nat.zero_add]
    rcases prtAllC_cases 120 (s.extract 0 j) with ⟨k, k1, k2, k3, k4, k5⟩ | ⟨n1, n2⟩
    · rw [hz] at k1 k4 k5
      rw [hb k k1] at k2
      exact .inl ⟨k, j, ⟨k1, j1, k2, fun i hi => by rw [← hb i (by omega)]; exact k3 i hi, fun i h1 h2 => by rw [← hb i h2]; exact k4 i h1 h2, j2, j3, j4⟩, j5, k5⟩
    · refine .inr ⟨fun k j' h => ?_, .inr ⟨j, j1, j5, n1⟩⟩
      have ej : j' = j := by
        rcases Nat.lt_trichotomy j' j with e | e | e
        · exact absurd h.cj (j3 j' e)
        · exact e
        · exact absurd j2 (h.c1 j e)
      subst ej
      refine n2 k (by rw [hz]; exact h.kj) (by rw [hb k h.kj]; exact h.xk) (fun i hi => by rw [hb i (by have := h.kj; omega)]; exact h.x1 i hi) (fun i h1 h2 => ?_)
      rw [hz] at h2
      rw [hb i h2]
      exact h.x2 i h1 h2
  · exact .inr ⟨fun k j h => n2 j h.js h.cj h.c1 h.c2, .inl n1⟩
theorem RP.fm {s : ByteArray} {a b : Int} {k j : Nat} (h : RP s a b k j) : Fm s k j := ⟨h.kj, h.js, h.xk, h.x1, h.x2, h.cj, h.c1, h.c2⟩
theorem Fm.uniq {s : ByteArray} {k j k' j' : Nat} (h : Fm s k j) (g : Fm s k' j') : k = k' ∧ j = j' := by
  have ej : j = j' := by
    rcases Nat.lt_trichotomy j j' with e | e | e
    · exact absurd h.cj (g.c1 j e)
    · exact e
    · exact absurd g.cj (h.c1 j' e)
  subst ej
  refine ⟨?_, rfl⟩
  rcases Nat.lt_trichotomy k k' with e | e | e
  · exact absurd h.xk (g.x1 k e)
  · exact e
  · exact absurd g.xk (h.x1 k' e)
def rpL (s : ByteArray) (j m : Nat) : List Value := (List.range m).map fun i => .int .i64 (rpF s j i)
theorem rpL_succ (s : ByteArray) (j m : Nat) : rpL s j (m + 1) = rpL s j m ++ [.int .i64 (rpF s j m)] := by simp [rpL, List.range_succ]
theorem rpL_len (s : ByteArray) (j m : Nat) : (rpL s j m).length = m := by simp [rpL]
theorem kindI_wf (c : Int) : (Lit.int .i64 (kindI c)).wf = true := by
  have := kindI_bd c
  exact WalkArith.wf_i64 (by omega)
theorem own_of_rpL {w : World} {base base' : Nat} {A : Option Addr} {c : Nat} {s : ByteArray} {j n : Nat} (h : w.ownsRow base 2 1 (.slice A n c) n (rpL s j n)) (hb : base' ≤ base) (hn : n ≤ maxLen) : OwnRow w base' A n c (rpF s j) := by
  rcases h.2 with ⟨e, rfl⟩ | ⟨b, cap, cur, e, hb', hgb, hnc, hcm, hcs, ht⟩
  · cases e
    exact ownRow_nil _ _ _
  · cases e
    refine ⟨hnc, hcm, fun i _ => kindI_wf _, fun hn' => ⟨b, 0, rfl, by omega, (Array.getElem?_eq_some_iff.1 hgb).1, fun i hi => ⟨?_, ?_⟩⟩⟩
    · rw [Nat.zero_add, h.cellAt i (by omega)]
      simp [rpL, List.getElem?_map, List.getElem?_range hi]
    · rw [Nat.zero_add]
      exact h.frozenAt i
set_option maxHeartbeats 1000000 in
theorem spec_l05Read_no (w : World) (s : ByteArray) (hs : s.size ≤ 1048576) (h : (prtAllC 58 s).length ≠ 2 ∨ ∃ j, j < s.size ∧ prtAllC 58 s = [(0, j), (j + 1, s.size)] ∧ (prtAllC 120 (s.extract 0 j)).length ≠ 2) :
    Calls Tryd.prog 75 #[.string s] w (PanelOutB 0 0 0 (fun _ => 0) false w) := by
  rcases h with h | ⟨j, hj, hp, h⟩
  · have HS := Lib.hid (spec_splitC (w.alloc (.cells #[.int .i64 0, .int .i64 0, .slice none 0 0] 26)) 58 s hs)
    obtain ⟨m, hm⟩ : ∃ m, (prtAllC 58 s).length = m := ⟨_, rfl⟩
    unfold PartsOutC at HS
    rw [hm] at h HS
    have hne : ((m : Int) != 2) = true := by simp; omega
    clear h hm
    go_enter Tryd.func75, Tryd.ntmps75
    go_wp2_with fail
    refine HS.out.mono ?_
    rintro e w1 ⟨v, rfl, hO, b1⟩
    obtain ⟨A, c, rfl⟩ := sp_slice hO
    obtain ⟨q0, q1, q2, f0, f1, f2, hB, hz⟩ := out_cells b1
    clear hO b1 HS
    go_wp2
    refine bodyPost_ret ?_ rfl ⟨none, 0, rfl, ownRow_nil _ _ _, ((hB.setCell (by simp) _).setCell (by simp) _).setCell (by simp) _⟩
    simp [results, Tryd.results75, go_sem, q0, q1, q2]
  · have hz : (s.extract 0 j).size = j := by rw [ByteArray.size_extract]; omega
    have HS := Lib.hid (spec_splitC (w.alloc (.cells #[.int .i64 0, .int .i64 0, .slice none 0 0] 26)) 58 s hs)
    have HS2 := Lib.hid (fun w' => spec_splitC w' 120 (s.extract 0 j) (by omega))
    obtain ⟨m, hm⟩ : ∃ m, (prtAllC 120 (s.extract 0 j)).length = m := ⟨_, rfl⟩
    unfold PartsOutC at HS HS2
    rw [hp] at HS
    simp only [hm] at HS2
    rw [hm] at h
    have hne : ((m : Int) != 2) = true := by simp; omega
    clear h hm hp
    go_enter Tryd.func75, Tryd.ntmps75
    go_wp2_with fail
    refine HS.out.mono ?_
    rintro e w1 ⟨v, rfl, hO, b1⟩
    obtain ⟨A, c, rfl⟩ := sp_slice hO
    obtain ⟨gO, capO, eO, gO1, gO2⟩ := hO.form (by simp)
    simp only [Value.slice.injEq] at eO
    obtain ⟨rfl, -, rfl⟩ := eO
    have k0 : w1.cell? ⟨gO, 0, none⟩ = some (.string (s.extract 0 j)) := by rw [hO.cellAt 0 (by simp)]; rfl
    have kc := hO.2
    clear hO HS
    go_wp2_with fail
    refine (HS2.out _).mono ?_
    rintro e w2 ⟨v2, rfl, hO2, b2⟩
    obtain ⟨A2, c2, rfl⟩ := sp_slice hO2
    have b12 := b1.trans (b2.mono b1.size)
    obtain ⟨q0, q1, q2, f0, f1, f2, hB, hz'⟩ := out_cells b12
    clear hO2 HS2 kc k0
    go_wp2
    refine bodyPost_ret ?_ rfl ⟨none, 0, rfl, ownRow_nil _ _ _, ((hB.setCell (by simp) _).setCell (by simp) _).setCell (by simp) _⟩
    simp [results, Tryd.results75, go_sem, q0, q1, q2]
theorem owns_set {w : World} {B p o n : Nat} {e : TypeId} {v u : Value} {xs : List Value} (h : w.ownsRow B e 1 v n xs) (hp : p < B) : (w.setCell ⟨p, o, none⟩ u).ownsRow B e 1 v n xs := by
  refine h.kept (row := some p) ⟨rfl, rfl, rfl, by simp [World.setCell], fun k _ hk => Below.heap_setCell _ _ _ _ (fun e => hk (by simp [e]))⟩ ?_
  by_cases hv : v.ownBlock = none
  · simp [hv]
  · obtain ⟨g, hg⟩ := Option.ne_none_iff_exists'.1 hv
    have := (h.lt g hg).1
    simp [hg]
    omega
/-- a call without effect, at a step of a region that draws its order -/
theorem step_fn {P : Program} {w : World} {ops : Array Oper} {o : Oper} {a : Act} {K : Act → World → Prop} {Q : Exit → Act → World → Prop} {E : Prop} (hgd : o.guard = none) (f : FuncId) (x : Operand) (t : TypeId)
    (ho : o.op = .call { callee := .value (.func f), args := #[x], argTypes := #[t] }) (eg : ∀ args w, (callFunc f args).run P w = .ok (.enter f args) w) (v0 v : Value) (hx : a.eval x = v0)
    (hc : Calls P f #[v0] w fun e w' => e = .returned v ∧ w = w') (h : K (a.put o.dst v) w) :
    if Region.wanted o (yielded ops a.tmps) = true then Oper.wp P o a w K Q else E := by
  have hw : Region.wanted o (yielded ops a.tmps) = true := by simp [Region.wanted, hgd]
  rw [if_pos hw]
  have hf : a.eval (.func f) = .func (.func f) #[] #[] := rfl
  unfold Oper.wp execOp
  simp only [ho, resolve, invoke, hf, Sem.run_bind, Sem.run_pure, Result.andThen_ok, List.map_toArray, List.map_cons, List.map_nil, hx]
  simp [go_sem, eg]
  refine hc.mono ?_
  rintro e w' ⟨rfl, rfl⟩
  exact h
/-- what the specification reads off a text that has the form -/
def RawOut (s : ByteArray) (k j : Nat) (w : World) (e : Ending) (w' : World) : Prop :=
  ∃ a b o1 o2, RDans (s.extract 0 k) a o1 ∧ RDans (s.extract (k + 1) j) b o2 ∧ PanelOutB a b (s.size - j - 1) (rpF s j) (o1 && o2) w e w'
set_option maxHeartbeats 4000000 in
set_option maxRecDepth 100000 in
theorem spec_l05Read_fm (w : World) (s : ByteArray) (k j : Nat) (hs : s.size ≤ 1048576) (hf : Fm s k j) (h58 : prtAllC 58 s = [(0, j), (j + 1, s.size)]) (h120 : prtAllC 120 (s.extract 0 j) = [(0, k), (k + 1, j)]) :
    Calls Tryd.prog 75 #[.string s] w (RawOut s k j w) := by
  obtain ⟨i2, hi2, hz0, hz1, hz2⟩ := info_parts infoI64
  have hkj := hf.kj
  have hjs := hf.js
  have hzj : (s.extract 0 j).size = j := by rw [ByteArray.size_extract]; omega
  obtain ⟨n, hn⟩ : ∃ n, s.size - j - 1 = n := ⟨_, rfl⟩
  obtain ⟨t1, ht1⟩ : ∃ t, s.extract 0 j = t := ⟨_, rfl⟩
  obtain ⟨u, hu⟩ : ∃ t, s.extract (j + 1) s.size = t := ⟨_, rfl⟩
  obtain ⟨v0, hv0⟩ : ∃ t, s.extract 0 k = t := ⟨_, rfl⟩
  obtain ⟨v1, hv1⟩ : ∃ t, s.extract (k + 1) j = t := ⟨_, rfl⟩
  have hun : u.size = n := by rw [← hu, ByteArray.size_extract]; omega
  have hbu : ∀ i, i < n → bt u i = bt s (j + 1 + i) := fun i hi => by rw [← hu]; exact extract_bt s (j + 1) s.size i (Nat.le_refl _) (by omega)
  have hv0z : v0.size ≤ 1048576 := by rw [← hv0, ByteArray.size_extract]; omega
  have hv1z : v1.size ≤ 1048576 := by rw [← hv1, ByteArray.size_extract]; omega
  have hz1048 : n ≤ 1048576 := by omega
  have HS := Lib.hid (spec_splitC (w.alloc (.cells #[.int .i64 0, .int .i64 0, .slice none 0 0] 26)) 58 s hs)
  have HS2 := Lib.hid (fun w' => spec_splitC w' 120 t1 (by rw [← ht1]; omega))
  unfold PartsOutC at HS HS2
  have e1 : pcsC s [(0, j), (j + 1, s.size)] = [.string t1, .string u] := by simp [pcsC, ht1, hu]
  have e2 : pcsC t1 [(0, k), (k + 1, j)] = [.string v0, .string v1] := by
    rw [← ht1]
    simp only [pcsC, List.map_cons, List.map_nil]
    rw [extract_two s j 0 k (by omega) (by omega), extract_two s j (k + 1) j (by omega) (by omega), hv0, hv1]
  rw [h58, e1] at HS
  rw [ht1] at h120
  simp only [h120, e2] at HS2
  have HFm := Lib.hid hf
  have HN0 := Lib.hid hn
  have HV0 := Lib.hid hv0
  have HV1 := Lib.hid hv1
  have HBU := Lib.hid hbu
  unfold RawOut
  rw [hn, hv0, hv1]
  clear hf h58 h120 hn ht1 hu hv0 hv1 hbu e1 e2 hzj
  have hb := get_bt u
  go_enter Tryd.func75, Tryd.ntmps75
  go_wp2_with fail
  refine HS.out.mono ?_
  rintro e w1 ⟨v, rfl, hO, b1⟩
  obtain ⟨A, c, rfl⟩ := sp_slice hO
  obtain ⟨gO, capO, eO, gO1, gO2⟩ := hO.form (by simp)
  simp only [Value.slice.injEq] at eO
  obtain ⟨rfl, -, rfl⟩ := eO
  have p0 : w1.cell? ⟨gO, 0, none⟩ = some (.string t1) := by rw [hO.cellAt 0 (by simp)]; rfl
  have p1 : w1.cell? ⟨gO, 1, none⟩ = some (.string u) := by rw [hO.cellAt 1 (by simp)]; rfl
  have P1 := Lib.hid p1
  have HB1 := Lib.hid b1
  have hz1' := b1.size
  clear hO HS b1 p1
  simp only [World.size_alloc] at gO1 hz1'
  go_wp2_with fail
  refine (HS2.out _).mono ?_
  rintro e w2 ⟨v, rfl, hO, b2⟩
  obtain ⟨A2, c2, rfl⟩ := sp_slice hO
  obtain ⟨gV, capV, eV, gV1, gV2⟩ := hO.form (by simp)
  simp only [Value.slice.injEq] at eV
  obtain ⟨rfl, -, rfl⟩ := eV
  have q0 : w2.cell? ⟨gV, 0, none⟩ = some (.string v0) := by rw [hO.cellAt 0 (by simp)]; rfl
  have q1 : w2.cell? ⟨gV, 1, none⟩ = some (.string v1) := by rw [hO.cellAt 1 (by simp)]; rfl
  have P2 := Lib.hid (cell_be P1.out b2 gO2)
  have HB2 := Lib.hid (HB1.out.trans (b2.mono (by simp only [World.size_alloc]; omega)))
  have hz2' := b2.size
  have Q1 := Lib.hid q1
  clear hO HS2 b2 p0 P1 HB1 q1
  go_wp2_with fail
  refine (spec_l01Number v0 w2 hv0z).mono ?_
  rintro e w3 ⟨a, o1, rfl, hra, b3⟩
  have HRA := Lib.hid hra
  have q1 := cell_be Q1.out b3 gV2
  have P3 := Lib.hid (cell_be P2.out b3 (by omega))
  have HB3 := Lib.hid (HB2.out.trans (b3.mono (by simp only [World.size_alloc]; omega)))
  have hz3' := b3.size
  clear b3 q0 Q1 P2 HB2 hra
  go_wp2_with fail
  refine (spec_l01Number v1 w3 hv1z).mono ?_
  rintro e w4 ⟨b, o2, rfl, hrb, b4⟩
  have HRB := Lib.hid hrb
  have P4 := Lib.hid (cell_be P3.out b4 (by omega))
  have HB4 := Lib.hid (HB3.out.trans (b4.mono (by simp only [World.size_alloc]; omega)))
  have hz4' := b4.size
  clear b4 q1 P3 HB3 hrb
  have bN := (Below.refl w4.heap.size w4).alloc (Nat.le_refl _) (.cells #[.int .i64 a, .int .i64 b, .slice none 0 0] 26)
  have HP5 := Lib.hid (At.new w4 #[.int .i64 a, .int .i64 b, .slice none 0 0] 26)
  have P5 := Lib.hid (cell_be P4.out bN (by omega))
  have HB5 := Lib.hid (HB4.out.trans (bN.mono (by simp only [World.size_alloc]; omega)))
  have hz5' : w4.heap.size + 1 = (w4.alloc (.cells #[.int .i64 a, .int .i64 b, .slice none 0 0] 26)).heap.size := by simp
  clear bN P4 HB4
  go_wp2
  generalize w4.alloc (.cells #[.int .i64 a, .int .i64 b, .slice none 0 0] 26) = w5 at *
  generalize w4.heap.size = P at *
  have hB5 := HB5.out.size
  simp only [World.size_alloc] at hB5
  have HO0 : Hid (w5.ownsRow (P + 1) 2 1 (.slice none 0 0) 0 (rpL s j 0)) := Lib.hid (World.ownsRow_nil _ _ _ _)
  go_loopw [11] (fun iv wr => ∃ (i : Nat) (x : Value), i ≤ n ∧ iv = .int .i64 i ∧ Hid (wr.ownsRow (P + 1) 2 1 x i (rpL s j i)) ∧ Hid (At wr P #[.int .i64 a, .int .i64 b, x] 26) ∧ Hid (Below P w5 wr)) (fun iv _ => n - (intOf iv).toNat)
  case atStart => exact ⟨0, _, Nat.zero_le _, rfl, HO0, HP5, Lib.hid (Below.refl _ _)⟩
  case round =>
    clear HO0 HP5
    obtain ⟨i, x, hi, rfl, HU, HP, HB⟩ := hrel
    have hB := HB.out.size
    have p1 := cell_be P5.out HB.out (by omega)
    have d2 := HP.out.cellv (i := 2) rfl
    have hPl := HP.out.lt
    have hgOr : gO < wr.heap.size := by omega
    obtain ⟨Ax, cx, rfl⟩ := sp_slice HU.out
    by_cases hlt : i < n
    · have hbi := hb i (by omega)
      have hbq := HBU.out i hlt
      have hb1 := bt_nonneg u i
      have hb2 := bt_le u i
      have HK0 : Hid (kindI (bt u i) = rpF s j i) := Lib.hid (by rw [hbq]; rfl)
      obtain ⟨kv, hkv⟩ : ∃ kv, rpF s j i = kv := ⟨_, rfl⟩
      rw [hkv] at HK0
      have HKV := Lib.hid hkv
      have hlti : i < u.size := by omega
      clear hbq hkv
      go_wp2_with fail
      go_region_law (first
        | (refine step_fn (by rfl) 63 (.tmp 57) 5 (by rfl) (enters_of Tryd.func63 (by kernel_rfl) rfl) (.int .u8 (bt u i)) (.int .i64 kv) (by rfl) (HK0.out ▸ kindS_is _ (bt u i)) ?_)
        | (refine step_append_lies (wr.drew.alloc (.cells #[.int .i64 kv] 2)) (by rfl) (.tmp 52) (.tmp 59) 24 (by rfl) (P + 1) 2 i2 _ 1 8 Tryd.underlying24 hi2 hz0 hz1 hz2 rfl (by omega) (.slice Ax i cx) i (rpL s j i) (by rfl) (sp_below HU.out (((Below.refl wr.heap.size wr).drew).alloc (Nat.le_refl _) _)) ⟨wr.heap.size, 0, none⟩ 1 1 [.int .i64 kv] (by rfl) (by rfl) (World.news_of_block (cs := #[.int .i64 kv]) (t := 2) (fr := (0, 0)) (heap_alloc_new wr.drew _)) (fun u hu => by simp at hu; subst hu; rfl) (by omega) (by unfold maxLen; omega) (by omega) (by simp; omega) (wr.heap.size + 1) (by simp) ?_; intro g6 cap6 w6 hown6 hgrow6 hat6 hlt6; have HOW := Lib.hid hown6; have HP6 := Lib.hid ((HP.out.below (((Below.refl wr.heap.size wr).drew).alloc (Nat.le_refl _) (.cells #[.int .i64 kv] 2)) hPl).grown hgrow6 (fun e => by have := HU.out.lt _ e.symm; omega)); have d6 := HP6.out.cellv (i := 2) rfl; have f6 := HP6.out.frozen 2; have HB6 := Lib.hid ((((HB.out.drew).alloc (by show P ≤ wr.heap.size; omega) (.cells #[.int .i64 kv] 2))).grown hgrow6 (by simp; omega) (fun b e => by have := (HU.out.lt b e).1; omega)); clear hown6 hgrow6 hat6))
      all_goals
        go_wp2
        go_roundw
        case rel =>
          refine ⟨i + 1, _, by omega, by go_num, Lib.hid ?_, Lib.hid (HP6.out.set 2 _), Lib.hid (HB6.out.setCell (by show P ≤ P; omega) _)⟩
          rw [rpL_succ, HKV.out]
          exact owns_set HOW.out (by omega)
        case measure => simp [intOf]; omega
    · obtain rfl : i = n := by omega
      have d0 := HP.out.cellv (i := 0) rfl
      have d1 := HP.out.cellv (i := 1) rfl
      have e0 := cell_be (At.cellv (i := 0) (At.new w #[.int .i64 0, .int .i64 0, .slice none 0 0] 26) rfl) (HB5.out.trans (HB.out.mono (by simp only [World.size_alloc]; omega))) (by simp)
      have e1 := cell_be (At.cellv (i := 1) (At.new w #[.int .i64 0, .int .i64 0, .slice none 0 0] 26) rfl) (HB5.out.trans (HB.out.mono (by simp only [World.size_alloc]; omega))) (by simp)
      have e2 := cell_be (At.cellv (i := 2) (At.new w #[.int .i64 0, .int .i64 0, .slice none 0 0] 26) rfl) (HB5.out.trans (HB.out.mono (by simp only [World.size_alloc]; omega))) (by simp)
      have HZ := Lib.hid ((At.new w #[.int .i64 0, .int .i64 0, .slice none 0 0] 26).below (HB5.out.trans (HB.out.mono (by simp only [World.size_alloc]; omega))) (by simp))
      have g0 := HZ.out.frozen 0
      have g1 := HZ.out.frozen 1
      have g2 := HZ.out.frozen 2
      have hBw : Below w.heap.size w wr := ((Below.refl w.heap.size w).alloc (Nat.le_refl _) _).trans ((HB5.out.trans (HB.out.mono (by simp only [World.size_alloc]; omega))).mono (by simp))
      have HBw := Lib.hid hBw
      clear hBw
      cases o1
      · go_wp2
        refine bodyPost_ret ?_ rfl ⟨a, b, false, o2, HRA.out, HRB.out, Ax, cx, rfl, (ownRow_setBox (own_of_rpL (base' := P + 1) HU.out (Nat.le_refl _) (by unfold maxLen; omega)) (by omega) _ _ _).mono (by omega), ((HBw.out.setCell (by simp) _).setCell (by simp) _).setCell (by simp) _⟩
        simp [results, Tryd.results75, go_sem, e0, e1, e2]
      · go_wp2
        refine bodyPost_ret ?_ rfl ⟨a, b, true, o2, HRA.out, HRB.out, Ax, cx, rfl, (ownRow_setBox (own_of_rpL (base' := P + 1) HU.out (Nat.le_refl _) (by unfold maxLen; omega)) (by omega) _ _ _).mono (by omega), ((HBw.out.setCell (by simp) _).setCell (by simp) _).setCell (by simp) _⟩
        simp [results, Tryd.results75, go_sem, e0, e1, e2]
end Go.Proofs.YtocnocchliihhaaDoor.Base
