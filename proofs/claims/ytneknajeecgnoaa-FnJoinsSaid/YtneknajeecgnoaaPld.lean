/-
  A forest out of joined elements.
-/
import Derived.Test.YtneknajeecgnoaaFst
import Derived.Test.YtneknajeecgnoaaClone
import Derived.Test.YtneknajeecgnoaaJn
import Derived.Deep.DeepCutAuto
namespace Go.Proofs.Ytneknajeecgnoaa.Base
open Go Go.RowKit
set_option linter.unusedVariables false
set_option linter.unusedSimpArgs false
/-- a copy of a list that the call has made -/
def CloneOut (n : Nat) (f : Nat → Int) (w : World) (e : Ending) (w' : World) : Prop :=
  ∃ v, e = .returned v ∧ w'.ownsRow w.heap.size 2 1 v n (cellsOfF n f) ∧ Below w.heap.size w w'
theorem cells_zero (f : Nat → Int) : cellsOfF 0 f = [] := by simp [cellsOfF]
theorem clone_own (w : World) (A : Option Addr) (n c : Nat) (f : Nat → Int) (hr : Row .i64 w A n c f) (hn2 : n ≤ 1048576) :
    Calls Try.prog 112 #[.slice A n c] w (CloneOut n f w) := by
  obtain ⟨hnc, hcm, hwf, hcell⟩ := hr
  obtain ⟨i0, hi, hz0, hz1, hz2⟩ := info_parts infoI64
  have HBL := Lib.hid (show Below w.heap.size w (w.alloc (.cells #[] 2)) from (Below.refl _ _).alloc (Nat.le_refl _) _)
  have hnil := fun (W : World) => Lib.run_eql_slice_nil (P := Try.prog) W 24 2 A n c 0 0 Try.underlying24
  by_cases hn : 0 < n
  · obtain ⟨b, o, rfl, hb, hc⟩ := hcell hn
    have HC := Lib.hid hc
    clear hcell hc hwf
    go_enter Try.func112, Try.ntmps112
    go_wp2_with (at_builtin; refine wpList_append_own _ rfl (.tmp 5) (.tmp 6) 24 rfl w.heap.size 2 i0 (.int .i64 0) 1 8 Try.underlying24 hi hz0 hz1 hz2 rfl (by decide) _ 0 [] rfl (owns_empty w _) ⟨b, o, none⟩ n c (cellsOfF n f) rfl ?c1 ?c2 ?c3 ?c4 ?c5 ?c6 ?_)
    case c1 => rw [cellsOfF_len]; omega
    case c2 =>
      intro j u hj
      have hjn : j < n := by
        rcases Nat.lt_or_ge j n with h | h
        · exact h
        · rw [List.getElem?_eq_none (by rw [cellsOfF_len]; exact h)] at hj; cases hj
      rw [cellsOfF_at hjn] at hj
      cases hj
      have e : (⟨b, o, none⟩ : Addr).add j = ⟨b, o + j, none⟩ := by unfold Addr.add; split <;> simp_all
      rw [e, HBL.out.cell (p := ⟨b, o + j, none⟩) hb]
      exact HC.out j hjn
    case c3 => intro u hu; simp [cellsOfF] at hu; obtain ⟨i, _, rfl⟩ := hu; rfl
    case c4 => unfold maxLen; omega
    case c5 => omega
    case c6 => simp
    intro v' w1 hown hg _
    have HBB := Lib.hid (HBL.out.grown hg (by simp) (fun k hk => by simp [Value.ownBlock] at hk; omega))
    have HO := Lib.hid hown
    clear hown hg
    go_wp2
    go_ret
    exact ⟨v', rfl, HO.out, HBB.out⟩
  · obtain rfl : n = 0 := by omega
    cases A with
    | none =>
      go_enter Try.func112, Try.ntmps112
      go_wp2
      go_ret
      exact ⟨_, rfl, by rw [cells_zero]; exact ⟨rfl, .inl ⟨rfl, rfl⟩⟩, Below.refl _ _⟩
    | some ad =>
      go_enter Try.func112, Try.ntmps112
      go_wp2_with (at_builtin; refine wpList_append_own _ rfl (.tmp 5) (.tmp 6) 24 rfl w.heap.size 2 i0 (.int .i64 0) 1 8 Try.underlying24 hi hz0 hz1 hz2 rfl (by decide) _ 0 [] rfl (owns_empty w _) ad 0 c [] rfl rfl (fun j u hj => by simp at hj) (fun u hu => by simp at hu) (by decide) (by decide) (by simp) ?_)
      intro v' w1 hown hg _
      have HBB := Lib.hid (HBL.out.grown hg (by simp) (fun k hk => by simp [Value.ownBlock] at hk; omega))
      have HO := Lib.hid hown
      clear hown hg
      go_wp2
      go_ret
      exact ⟨v', rfl, by rw [cells_zero]; exact HO.out, HBB.out⟩
theorem sz_drew (w : World) (o : Obj) : (w.alloc o).drew.heap.size = w.heap.size + 1 := by show (w.alloc _).heap.size = _; simp
theorem owns_mono {w : World} {base base' n s : Nat} {e : TypeId} {v : Value} {xs : List Value} (h : w.ownsRow base e s v n xs) (hb : base' ≤ base) : w.ownsRow base' e s v n xs := by
  refine ⟨h.1, ?_⟩
  rcases h.2 with ⟨e1, e2⟩ | ⟨g, cap, cur, e1, hg0, h3⟩
  · exact .inl ⟨e1, e2⟩
  · exact .inr ⟨g, cap, cur, e1, by omega, h3⟩
/-- elements of which the first k are linked -/
def ElmK (w : World) (E n k : Nat) (p : Nat → Nat) : Prop :=
  ∃ cs, At w E cs 88 ∧ (∀ i, i < k → cs[i * 2]? = some (.int .i64 (i : Int)) ∧ cs[i * 2 + 1]? = some (.pointer (some ⟨E, p i * 2, none⟩))) ∧ ∀ i, k ≤ i → i < n → cs[i * 2]? = some (.int .i64 0) ∧ cs[i * 2 + 1]? = some (.pointer none)
theorem ElmK.put {w : World} {E n k : Nat} {p : Nat → Nat} (h : ElmK w E n k p) (hk : k < n) : ElmK ((w.setCell ⟨E, k * 2, none⟩ (.int .i64 (k : Int))).setCell ⟨E, k * 2 + 1, none⟩ (.pointer (some ⟨E, p k * 2, none⟩))) E n (k + 1) p := by
  obtain ⟨cs, h1, h2, h3⟩ := h
  obtain ⟨c1, c2⟩ := h3 k (Nat.le_refl _) hk
  have s1 : k * 2 < cs.size := (Array.getElem?_eq_some_iff.1 c1).1
  have s2 : k * 2 + 1 < cs.size := (Array.getElem?_eq_some_iff.1 c2).1
  refine ⟨_, (h1.set (k * 2) (.int .i64 (k : Int))).set (k * 2 + 1) (.pointer (some ⟨E, p k * 2, none⟩)), fun i hi => ?_, fun i hi1 hi2 => ?_⟩
  · rw [Array.getElem?_setIfInBounds, Array.getElem?_setIfInBounds, Array.getElem?_setIfInBounds, Array.getElem?_setIfInBounds]
    by_cases e : i = k
    · subst e
      rw [if_neg (by omega), if_pos rfl, if_pos rfl]
      simp [s1, s2]
    · rw [if_neg (by omega), if_neg (by omega), if_neg (by omega), if_neg (by omega)]
      exact h2 i (by omega)
  · rw [Array.getElem?_setIfInBounds, Array.getElem?_setIfInBounds, Array.getElem?_setIfInBounds, Array.getElem?_setIfInBounds]
    rw [if_neg (by omega), if_neg (by omega), if_neg (by omega), if_neg (by omega)]
    exact h3 i (by omega) hi2
theorem owns_ne2 {w : World} {base n s : Nat} {e : TypeId} {v : Value} {xs : List Value} (h : w.ownsRow base e s v n xs) {E i j : Nat} {a b : Value} (hne : ∀ g, v.ownBlock = some g → g ≠ E) : (((w.setCell ⟨E, i, none⟩ a).setCell ⟨E, j, none⟩ b).drew).ownsRow base e s v n xs := by
  have hg : ∀ (x : World) (k : Nat) (u : Value), x.grownBy (x.setCell ⟨E, k, none⟩ u) (some E) := fun x k u => ⟨rfl, rfl, rfl, by simp [World.setCell], fun q hq hq2 => Below.heap_setCell x ⟨E, k, none⟩ u q (by rintro rfl; exact hq2 rfl)⟩
  have hv : v.ownBlock = none ∨ v.ownBlock ≠ some E := .inr (fun e => hne E e rfl)
  exact owns_belowS ((h.kept (hg w i a) hv).kept (hg _ j b) hv) (Below.refl _ _).drew
def zeroEl (n : Nat) : Array Value := madeCells #[.int .i64 0, .pointer none] (n * 2)
theorem zeroEl_at {n i : Nat} (h : i < n) : (zeroEl n)[i * 2]? = some (.int .i64 0) ∧ (zeroEl n)[i * 2 + 1]? = some (.pointer none) := by
  have h1 : (i * 2) % 2 = 0 := by omega
  have h2 : (i * 2 + 1) % 2 = 1 := by omega
  unfold zeroEl madeCells
  constructor
  · rw [Array.getElem?_map, Array.getElem?_range, if_pos (by omega)]
    simp [h1]
  · rw [Array.getElem?_map, Array.getElem?_range, if_pos (by omega)]
    simp [h2]
theorem make_el (n : Nat) (hn : n ≤ 256) (w : World) : (Instr.makeSlice 92 (.int .i64 (n : Int)) (.int .i64 (n : Int))).run Try.prog w = .ok (.slice (some ⟨w.heap.size, 0, none⟩) n n) (w.alloc (.cells (zeroEl n) 88)) := by
  obtain ⟨i, hi, hz0, hz1, hz2⟩ := info_parts infoEl
  have h := run_make (P := Try.prog) w 92 88 i _ Try.underlying92 hi hz0 .i64 .i64 n n (by omega) (Int.le_refl _) (by rw [hz2]; omega) (by omega)
  rw [hz1] at h
  simpa [zeroEl, Value.cells] using h
def pNat (f : Nat → Int) (k : Nat) : Nat := (f k).toNat
set_option maxHeartbeats 4000000 in
set_option maxRecDepth 100000 in
theorem impl_planted (w : World) (A : Option Addr) (n c : Nat) (f : Nat → Int) (B : Option Addr) (m d : Nat) (g : Nat → Int) (hr : Row .i64 w A n c f) (hr' : Row .i64 w B m d g) (n1 : 1 ≤ n) (n2 : n ≤ 256) (hm : m ≤ 1048576) (hf : ∀ k, k < n → 0 ≤ f k ∧ f k < n) :
    Calls Try.prog 94 #[.agg #[.slice A n c, .slice B m d]] w (fun e w' => ∃ F E lv base, e = .returned (.pointer (some ⟨F, 0, none⟩)) ∧ Fst w' base F E n lv (.slice none 0 0) (pNat f) [] ∧ w'.ownsRow w.heap.size 2 1 lv m (cellsOfF m g) ∧ (∀ b, lv.ownBlock = some b → b < base ∧ b ≠ F ∧ b ≠ E) ∧ w.heap.size ≤ F ∧ w.heap.size ≤ E ∧ Below w.heap.size w w') := by
  have hmk := make_el n n2
  have HL := Lib.hid ((Below.refl w.heap.size w).alloc (Nat.le_refl _) (.cells #[.slice A n c, .slice B m d] 26))
  have HX := Lib.hid (Cel.new w [.slice A n c, .slice B m d] 26)
  have HRA := Lib.hid (hr.below HL.out (Nat.le_refl _))
  have HRB := Lib.hid (hr'.below HL.out (Nat.le_refl _))
  have HRd := Lib.hid (hr'.below HL.out.drew (Nat.le_refl _))
  clear hr hr'
  have kz := HX.out.1
  have k0 := HX.out.2 0 _ rfl
  have k1 := HX.out.2 1 _ rfl
  go_enter Try.func94, Try.ntmps94
  go_wp2
  generalize w.alloc (.cells #[.slice A n c, .slice B m d] 26) = w1 at *
  have hw1 := HL.out.size
  go_cut [3] (fun s3 wx => ∃ F E lv, s3 = .pointer (some ⟨F, 0, none⟩) ∧ Hid (At wx F #[.slice (some ⟨E, 0, none⟩) n n, lv, .slice none 0 0] 95) ∧ Hid (At wx E (zeroEl n) 88) ∧ Hid (wx.ownsRow w1.heap.size 2 1 lv m (cellsOfF m g)) ∧ w1.heap.size ≤ F ∧ w1.heap.size ≤ E ∧ F ≠ E ∧ Hid (∀ b, lv.ownBlock = some b → b ≠ F ∧ b ≠ E) ∧ Hid (Below w1.heap.size w1 wx))
  case first =>
    have OL := Lib.hid (Old.mk_ (Below.refl w1.heap.size w1).drew)
    go_region_held3 (fun w' => (∀ b o, b < (w1).heap.size → w'.cell? ⟨b, o, none⟩ = (w1).cell? ⟨b, o, none⟩) ∧ Below (w1).heap.size (w1) w') (first | assumption | exact OL.out | exact Old.trans (by assumption) (by assumption) | exact Old.trans (by assumption) ((Below.refl _ _).alloc (Nat.le_refl _) _)) (first | (go_at_call 112; refine (clone_own _ B m d g ?_ hm).mono ?_; (first | exact HRd.out | exact HRB.out.below (((Below.refl _ _).drew).alloc (Nat.le_refl _) _) (Nat.le_refl _) | exact HRB.out.below (((Below.refl _ _).alloc (Nat.le_refl _) _).drew) (Nat.le_refl _)); rintro e wa ⟨lv, rfl, hO, ba⟩; obtain ⟨Al, cl, rfl⟩ := owns_slice hO; have bO : Below w1.heap.size w1 wa := (by first | exact ((Below.refl w1.heap.size w1).drew).trans ba | exact (((Below.refl w1.heap.size w1).alloc (Nat.le_refl _) _).drew).trans (ba.mono (by simp)) | exact (((Below.refl w1.heap.size w1).drew).alloc (Nat.le_refl _) _).trans (ba.mono (by simp))); have hOl := Old.mk_ bO))
    all_goals (go_wp2_with fail; go_meet)
    all_goals first
      | exact ⟨wa.heap.size, w1.heap.size, _, rfl, Lib.hid (At.new wa _ _), Lib.hid (((At.new w1 (zeroEl n) 88).drew.below ba (by show _ < (w1.alloc _).heap.size; simp)).below ((Below.refl _ _).alloc (Nat.le_refl _) _) (by have := ba.size; have h2 := sz_drew w1 (.cells (zeroEl n) 88); omega)), Lib.hid (owns_mono (hO.alloc _) (by show _ ≤ (w1.alloc _).heap.size; simp)), bO.size, Nat.le_refl _, by have := ba.size; have h2 := sz_drew w1 (.cells (zeroEl n) 88); omega, Lib.hid (fun b hb => by have h3 := hO.lt b hb; have h2 := sz_drew w1 (.cells (zeroEl n) 88); omega), Lib.hid (bO.alloc bO.size _)⟩
      | exact ⟨wa.heap.size + 1, wa.heap.size, _, rfl, Lib.hid (by have h := At.new (wa.alloc (.cells (zeroEl n) 88)) #[.slice (some ⟨wa.heap.size, 0, none⟩) n n, .slice Al m cl, .slice none 0 0] 95; rw [World.size_alloc] at h; exact h), Lib.hid ((At.new wa (zeroEl n) 88).below ((Below.refl _ _).alloc (Nat.le_refl _) _) (by simp)), Lib.hid (((owns_mono hO (Nat.le_refl _)).alloc _).alloc _), by have := bO.size; omega, bO.size, by omega, Lib.hid (fun b hb => by have h3 := hO.lt b hb; omega), Lib.hid ((bO.alloc bO.size _).alloc (by have := bO.size; simp; omega) _)⟩
  case rest =>
    obtain ⟨F, E, lv, rfl, HFb, HEb, HLO, hF, hE, hFE, HNE, HBx⟩ := hcut
    have hxz := HBx.out.size
    have HX2 := Lib.hid (HX.out.below HBx.out kz)
    have HRA2 := Lib.hid (HRA.out.below HBx.out (Nat.le_refl _))
    have HB2 := Lib.hid (HL.out.trans (HBx.out.mono hw1))
    have kz2 := HX2.out.1
    have j0 := HX2.out.2 0 _ rfl
    clear k0 k1 HX HRB HRd hmk
    go_wp2
    clear j0
    go_loopw [18] (fun iv wr => ∃ k : Nat, k ≤ n ∧ iv = .int .i64 (k : Int) ∧ Hid (ElmK wr E n k (pNat f)) ∧ Hid (At wr F #[.slice (some ⟨E, 0, none⟩) n n, lv, .slice none 0 0] 95) ∧ Hid (wr.ownsRow w1.heap.size 2 1 lv m (cellsOfF m g)) ∧ Hid (Below w1.heap.size wc wr)) (fun iv _ => n - (intOf iv).toNat)
    case atStart => exact ⟨0, Nat.zero_le _, rfl, Lib.hid ⟨_, HEb.out, fun i h => absurd h (Nat.not_lt_zero _), fun i _ h => zeroEl_at h⟩, HFb, HLO, Lib.hid (Below.refl _ _)⟩
    case round =>
      clear HEb HFb HLO
      obtain ⟨k, hk, rfl, HE, HFb, HLO, HW⟩ := hrel
      by_cases hlt : k < n
      · obtain ⟨b, o, rfl, hbl, hc⟩ := (HRA.out.below (HBx.out.trans HW.out) (Nat.le_refl _)).2.2.2 (by omega)
        have hck := hc k hlt
        obtain ⟨z, hz⟩ : ∃ z : Nat, f k = z := ⟨(f k).toNat, by have := hf k hlt; omega⟩
        have hzn : z < n := by have := hf k hlt; omega
        have HZ := Lib.hid (show pNat f k = z by unfold pNat; omega)
        rw [hz] at hck
        clear hc hz
        have b0 := HFb.out.cellv (i := 0) rfl
        have bz := HFb.out.lt
        obtain ⟨cs, a1, a2, a3⟩ := HE.out
        obtain ⟨e0, e1⟩ := a3 k (Nat.le_refl _) hlt
        have c0 := a1.cellv e0
        have c1 := a1.cellv e1
        have g0 := a1.frozen (k * 2)
        have g1 := a1.frozen (k * 2 + 1)
        have ez := a1.lt
        clear a1 a2 a3 e0 e1
        have t0 : ((wr.setCell ⟨E, k * 2, none⟩ (.int .i64 (k : Int))).setCell ⟨E, k * 2 + 1, none⟩ (.pointer (some ⟨E, z * 2, none⟩))).drew.cell? ⟨F, 0, none⟩ = some (.slice (some ⟨E, 0, none⟩) n n) := by
          show (World.setCell _ _ _).cell? _ = _
          rw [World.cell?_setCell_other _ _ _ _ (fun e => by injection e; omega), World.cell?_setCell_other _ _ _ _ (fun e => by injection e; omega)]
          exact b0
        go_wp2
        go_region_held3 (fun w' => w'.cell? ⟨F, 0, none⟩ = some (.slice (some ⟨E, 0, none⟩) n n))
          (first | exact b0 | exact t0 | go_keep | assumption)
          (fail)
        rename_i hSx
        clear hSx t0 b0 c0 c1 g0 g1
        go_wp2
        go_roundw
        case rel =>
          have hp := HE.out.put hlt
          rw [HZ.out] at hp
          obtain ⟨cs, p1, p2, p3⟩ := hp
          exact ⟨k + 1, by omega, by go_num, Lib.hid ⟨cs, p1.drew, p2, p3⟩, Lib.hid ((HFb.out.setOther (by exact fun e => hFE e.symm) _).setOther (by exact fun e => hFE e.symm) _).drew, Lib.hid (owns_ne2 HLO.out (fun b hb => (HNE.out b hb).2)), Lib.hid (((HW.out.setCell (by exact hE) _).setCell (by exact hE) _).drew)⟩
        case measure => simp [intOf]; omega
      · obtain rfl : k = n := by omega
        go_wp2
        go_ret
        obtain ⟨cs, a1, a2, a3⟩ := HE.out
        refine ⟨F, E, lv, wr.heap.size, rfl, ⟨HFb.out, ⟨cs, a1, a2⟩, ⟨rfl, .inl ⟨rfl, rfl⟩⟩, HFb.out.lt, a1.lt, hFE, Nat.le_refl _⟩, owns_mono HLO.out hw1, fun b hb => ⟨(HLO.out.lt b hb).2, HNE.out b hb⟩, by omega, by omega, HB2.out.trans (HW.out.mono hw1)⟩
end Go.Proofs.Ytneknajeecgnoaa.Base
