/-
  The symmetries that do not change a panel: the specification's list, the program's.
-/
import Derived.Test.YtdofeonkgaceeaaDoorYi
import Derived.Test.YtdofeonkgaceeaaDoorCln
import Derived.Test.YtdofeonkgaceeaaDoorSame
namespace Go.Proofs.YtdofeonkgaceeaaDoor.Base
open Go Go.RowKit
set_option linter.unusedVariables false
set_option linter.unusedSimpArgs false

/-- a symmetry does not change a panel -/
def syB (W H : Int) (n : Nat) (f : Nat → Int) (s : Nat) : Bool := sameB (mvW W H s) (mvH W H s) n (mpF W H s f) W H n f
/-- those below k -/
def syI (W H : Int) (n : Nat) (f : Nat → Int) : Nat → List Int
  | 0 => []
  | k + 1 => if syB W H n f k then syI W H n f k ++ [(k : Int)] else syI W H n f k
section
variable {W H : Int} {n : Nat} {f : Nat → Int}
theorem syI_yes {k : Nat} (h : syB W H n f k = true) : syI W H n f (k + 1) = syI W H n f k ++ [(k : Int)] := if_pos h
theorem syI_no {k : Nat} (h : syB W H n f k = false) : syI W H n f (k + 1) = syI W H n f k := if_neg (by simp [h])
theorem syI_len : ∀ k, (syI W H n f k).length ≤ k
  | 0 => Nat.le_refl _
  | k + 1 => by
    have := syI_len k
    cases h : syB W H n f k
    · rw [syI_no h]; omega
    · rw [syI_yes h]; simp; omega
theorem syI_bd : ∀ k, ∀ x ∈ syI W H n f k, 0 ≤ x ∧ x < (k : Int)
  | 0 => fun x hx => by cases hx
  | k + 1 => fun x hx => by
    cases h : syB W H n f k
    · rw [syI_no h] at hx
      have := syI_bd k x hx
      omega
    · rw [syI_yes h] at hx
      rcases List.mem_append.1 hx with hx | hx
      · have := syI_bd k x hx
        omega
      · simp at hx
        omega
end
def syF (W H : Int) (n : Nat) (f : Nat → Int) (i : Nat) : Int := (syI W H n f 8).getD i 0
def syM (W H : Int) (n : Nat) (f : Nat → Int) : Nat := (syI W H n f 8).length
theorem ownS_mono {s : Nat} {w : World} {base base' : Nat} {A : Option Addr} {n c : Nat} {f : Nat → Int} (h : OwnS s w base A n c f) (hb : base' ≤ base) : OwnS s w base' A n c f :=
  ⟨h.1, h.2.1, h.2.2.1, fun hn => by obtain ⟨b, o, e, h1, h2⟩ := h.2.2.2 hn; exact ⟨b, o, e, Nat.le_trans hb h1, h2⟩⟩
def SymsL (W H : Int) (n : Nat) (f : Nat → Int) (w : World) (e : Ending) (w' : World) : Prop :=
  ∃ A c, e = .returned (.slice A (syM W H n f) c) ∧ OwnS 1 w' w.heap.size A (syM W H n f) c (syF W H n f) ∧ Below w.heap.size w w'
theorem syms_own {w : World} {base base' : Nat} {W H : Int} {n : Nat} {f : Nat → Int} {A : Option Addr} {c : Nat} (h : w.ownsRow base 2 1 (.slice A (syM W H n f) c) (syM W H n f) (ivs (syI W H n f 8))) (hb : base' ≤ base) : OwnS 1 w base' A (syM W H n f) c (syF W H n f) :=
  ownS_ivs h (fun i hi => by
      unfold ivs
      have hi' : i < (syI W H n f 8).length := hi
      simp [syF, hi'])
    (fun i hi => by
      have hi' : i < (syI W H n f 8).length := hi
      have hm : syF W H n f i ∈ syI W H n f 8 := by
        unfold syF
        rw [List.getD_eq_getElem?_getD, List.getElem?_eq_getElem hi']
        exact List.getElem_mem hi'
      have := syI_bd 8 _ hm
      exact WalkArith.wf_i64 (by omega)) hb (by unfold maxLen; have : syM W H n f ≤ 8 := syI_len 8; omega)
set_option maxHeartbeats 4000000 in
set_option maxRecDepth 100000 in
theorem spec_syms (w : World) (p : Nat) (W H : Int) (A : Option Addr) (n c : Nat) (f : Nat → Int) (hb : Box w p W H A n c) (hr : Row .i64 w A n c f) (hv : validB W H n f = true) :
    Calls Tryd.prog 55 #[.pointer (some ⟨p, 0, none⟩)] w (SymsL W H n f w) := by
  obtain ⟨i2, hi2, hz0, hz1, hz2⟩ := info_parts infoI64
  have HX := Lib.hid hb
  have HR := Lib.hid hr
  have HV := Lib.hid hv
  have hp0 := hb.1
  have HO1 := Lib.hid (owns_empty w 2)
  clear hb hr hv
  go_enter Tryd.func55, Tryd.ntmps55
  go_wp2
  go_loopw [3, 4] (fun u kv wr => ∃ k : Nat, k ≤ 8 ∧ kv = .int .i64 k ∧ Hid (wr.ownsRow w.heap.size 2 1 u (syI W H n f k).length (ivs (syI W H n f k))) ∧ Hid (Below w.heap.size w wr)) (fun _ kv _ => 8 - (intOf kv).toNat)
  case atStart => exact ⟨0, Nat.zero_le _, rfl, HO1, Lib.hid ((Below.refl _ _).alloc (Nat.le_refl _) _)⟩
  case round =>
    clear HO1
    obtain ⟨k, hk, rfl, HU, HB⟩ := hrel
    obtain ⟨Ao, co, rfl⟩ := owns_slice HU.out
    have hBz := HB.out.size
    have hln := syI_len (W := W) (H := H) (n := n) (f := f) k
    by_cases hlt : k < 8
    · have hdec : decide ((k : Int) < 8) = true := decide_eq_true (by omega)
      have hs : inB (k : Int) 0 7 = true := decide_eq_true ⟨by omega, by omega⟩
      have HM := Lib.hid (spec_map wr p W H A n c f k (HX.out.below HB.out hp0) (HR.out.below HB.out (Nat.le_refl _)) HV.out hs)
      go_wp2_with fail
      refine HM.out.mono ?_
      rintro e wa ⟨A2, c2, rfl, ho, ba⟩
      have bN := (Below.refl wa.heap.size wa).alloc (Nat.le_refl _) (.cells #[.int .i64 (mvW W H k), .int .i64 (mvH W H k), .slice A2 n c2] 26)
      have HBx := Lib.hid (Box.new wa 26 (mvW W H k) (mvH W H k) A2 n c2)
      have HRx := Lib.hid (ho.row.below bN (Nat.le_refl _))
      have bq := ba.trans (bN.mono ba.size)
      have HBq := Lib.hid (HB.out.trans (bq.mono hBz))
      have HUq := Lib.hid (owns_belowS HU.out bq)
      obtain ⟨v, hv⟩ : ∃ v, syB W H n f k = v := ⟨_, rfl⟩
      have HVV := Lib.hid hv
      have HSm : Hid (Calls Tryd.prog 71 #[.pointer (some ⟨wa.heap.size, 0, none⟩), .pointer (some ⟨p, 0, none⟩)] (wa.alloc (.cells #[.int .i64 (mvW W H k), .int .i64 (mvH W H k), .slice A2 n c2] 26)) (Drew (.bool v) (wa.alloc (.cells #[.int .i64 (mvW W H k), .int .i64 (mvH W H k), .slice A2 n c2] 26)))) :=
        Lib.hid (hv ▸ specSame _ wa.heap.size p (mvW W H k) (mvH W H k) W H A2 A n c2 n c (mpF W H k f) f HBx.out (HX.out.below HBq.out hp0) HRx.out (HR.out.below HBq.out (Nat.le_refl _)))
      clear bN bq ho ba hv HM
      go_wp2_with fail
      refine HSm.out.mono ?_
      rintro e wq ⟨m, rfl, rfl⟩
      have HBm := Lib.hid (below_drewN HBq.out m)
      have HUm := Lib.hid (owns_belowS HUq.out (below_drewN (Below.refl _ _) m))
      clear HBq HUq HSm HBx HRx
      generalize (wa.alloc (.cells #[.int .i64 (mvW W H k), .int .i64 (mvH W H k), .slice A2 n c2] 26)).drewN m = wq at *
      have hqz := HBm.out.size
      cases v
      · go_wp2
        go_roundw
        case rel => exact ⟨k + 1, by omega, by go_num, Lib.hid (by rw [syI_no HVV.out]; exact HUm.out), HBm⟩
        case measure => simp [intOf]; omega
      · have hXa := Lib.hid ((Below.refl wq.heap.size wq).alloc (Nat.le_refl _) (.cells #[.int .i64 (k : Int)] 2))
        obtain ⟨ln, hlne⟩ : ∃ ln, (syI W H n f k).length = ln := ⟨_, rfl⟩
        rw [hlne] at HUm hln ⊢
        have HLN := Lib.hid hlne
        clear hlne
        go_wp2_with (first
          | (at_builtin; refine wpList_append_lies _ (by rfl) _ _ _ (by rfl) w.heap.size 2 i2 _ 1 8 Tryd.underlying22 hi2 hz0 hz1 hz2 rfl (by omega) _ ln (ivs (syI W H n f k)) (by rfl) (owns_belowS HUm.out hXa.out) ⟨wq.heap.size, 0, none⟩ 1 1 [.int .i64 (k : Int)] (by rfl) (by rfl) (World.news_of_block (cs := #[.int .i64 (k : Int)]) (t := 2) (fr := (0, 0)) (heap_alloc_new wq _)) (fun u hu => by simp at hu; subst hu; rfl) (by omega) (by unfold maxLen; omega) (by omega) (by simp; omega) (wq.heap.size + 1) (by simp) ?_; intro g6 cap6 w6 hown6 hgrow6 hat6 hlt6; have HOW := Lib.hid hown6; have HGR := Lib.hid hgrow6; clear hown6 hgrow6 hat6))
        go_roundw
        case rel =>
          refine ⟨k + 1, by omega, by go_num, Lib.hid ?_, Lib.hid ((HBm.out.trans (hXa.out.mono (by omega))).grown HGR.out (by simp; omega) (fun b e => (HUm.out.lt b e).1))⟩
          have e : ivs (syI W H n f (k + 1)) = ivs (syI W H n f k) ++ [.int .i64 (k : Int)] := by rw [syI_yes HVV.out]; unfold ivs; simp
          have e2 : (syI W H n f (k + 1)).length = ln + 1 := by rw [syI_yes HVV.out, List.length_append, HLN.out]; rfl
          rw [e, e2]
          exact HOW.out
        case measure => simp [intOf]; omega
    · obtain rfl : k = 8 := by omega
      have hdec : decide (((8 : Nat) : Int) < 8) = false := rfl
      go_wp2
      go_ret
      exact ⟨Ao, co, rfl, syms_own HU.out (Nat.le_refl _), HB.out⟩
def syN (W H : Int) (n : Nat) (f : Nat → Int) : Nat := if validB W H n f then syM W H n f else 0
def syC (W H : Int) (n : Nat) (f : Nat → Int) : Int := if validB W H n f then 0 else 1
theorem syN_le (W H : Int) (n : Nat) (f : Nat → Int) : syN W H n f ≤ 8 := by
  unfold syN
  split
  · exact syI_len 8
  · omega
theorem spec_symmetriesOf (w : World) (W H : Int) (A : Option Addr) (n c : Nat) (f : Nat → Int) (hr : Row .i64 w A n c f) :
    Calls Tryd.prog 18 #[.agg #[.int .i64 W, .int .i64 H, .slice A n c]] w (ListOut 1 (syN W H n f) (syF W H n f) (syC W H n f) w.heap.size w) := by
  have HL := Lib.hid (show Below w.heap.size w (w.alloc (.cells #[.int .i64 W, .int .i64 H, .slice A n c] 26)) from (Below.refl _ _).alloc (Nat.le_refl _) _)
  have HR := Lib.hid hr
  clear hr
  cases hv : validB W H n f
  · have e1 : syN W H n f = 0 := by unfold syN; rw [hv]; rfl
    have e2 : syC W H n f = 1 := by unfold syC; rw [hv]; rfl
    rw [e1, e2]
    have HV := Lib.hid hv
    clear hv e1 e2
    go_enter Tryd.func18, Tryd.ntmps18
    go_wp2_with fail
    refine (specOk_is HV.out (Box.new w _ W H A n c) (HR.out.below HL.out (Nat.le_refl _))).mono ?_
    rintro e w1 ⟨m, rfl, rfl⟩
    go_wp2
    go_ret2
    exact ⟨none, 0, rfl, ownS_nil _ _ _ _, below_drewN HL.out m⟩
  · have e1 : syN W H n f = syM W H n f := by unfold syN; rw [hv]; rfl
    have e2 : syC W H n f = 0 := by unfold syC; rw [hv]; rfl
    rw [e1, e2]
    have HV := Lib.hid hv
    clear hv e1 e2
    go_enter Tryd.func18, Tryd.ntmps18
    go_wp2_with fail
    refine (specOk_is HV.out (Box.new w _ W H A n c) (HR.out.below HL.out (Nat.le_refl _))).mono ?_
    rintro e w1 ⟨m, rfl, rfl⟩
    have HB := Lib.hid (below_drewN HL.out m)
    go_wp2_with fail
    refine (spec_syms _ w.heap.size W H A n c f ((Box.new w 26 W H A n c).below (below_drewN (Below.refl (w.alloc (.cells #[.int .i64 W, .int .i64 H, .slice A n c] 26)).heap.size (w.alloc (.cells #[.int .i64 W, .int .i64 H, .slice A n c] 26))) m) (by simp)) (HR.out.below HB.out (Nat.le_refl _)) HV.out).mono ?_
    rintro e w2 ⟨A1, c1, rfl, h1, b1⟩
    have HO := Lib.hid h1
    have HB2 := Lib.hid (HB.out.trans (b1.mono HB.out.size))
    have hbs := HB.out.size
    clear h1 b1
    go_wp2
    go_ret2
    exact ⟨A1, c1, rfl, ownS_mono HO.out hbs, HB2.out⟩
set_option maxHeartbeats 4000000 in
set_option maxRecDepth 100000 in
theorem impl_symmetriesOf (w : World) (W H : Int) (A : Option Addr) (n c : Nat) (f : Nat → Int) (hr : Row .i64 w A n c f) (hT : Cel w 0 [.int .i64 0, .int .i64 2, .int .i64 1]) :
    Calls Tryd.prog 19 #[.agg #[.int .i64 W, .int .i64 H, .slice A n c]] w (ListOut 1 (syN W H n f) (syF W H n f) (syC W H n f) w.heap.size w) := by
  have HL := Lib.hid (show Below w.heap.size w (w.alloc (.cells #[.int .i64 W, .int .i64 H, .slice A n c] 26)) from (Below.refl _ _).alloc (Nat.le_refl _) _)
  have HR := Lib.hid hr
  have HT := Lib.hid hT
  clear hr hT
  cases hv : validB W H n f
  · have e1 : syN W H n f = 0 := by unfold syN; rw [hv]; rfl
    have e2 : syC W H n f = 1 := by unfold syC; rw [hv]; rfl
    rw [e1, e2]
    have HV := Lib.hid hv
    clear hv e1 e2
    go_enter Tryd.func19, Tryd.ntmps19
    go_wp2_with fail
    refine (implOk_is HV.out (HR.out.below HL.out (Nat.le_refl _))).mono ?_
    rintro e w1 ⟨rfl, b1⟩
    go_wp2
    go_ret2
    exact ⟨none, 0, rfl, ownS_nil _ _ _ _, HL.out.trans (b1.mono (by simp))⟩
  · have e1 : syN W H n f = syM W H n f := by unfold syN; rw [hv]; rfl
    have e2 : syC W H n f = 0 := by unfold syC; rw [hv]; rfl
    rw [e1, e2]
    have HV := Lib.hid hv
    have HX0 := Lib.hid (At.new w #[.int .i64 W, .int .i64 H, .slice A n c] 26)
    obtain ⟨i2, hi2, hz0, hz1, hz2⟩ := info_parts infoI64
    clear hv e1 e2
    go_enter Tryd.func19, Tryd.ntmps19
    go_wp2_with fail
    refine (implOk_is HV.out (HR.out.below HL.out (Nat.le_refl _))).mono ?_
    rintro e w1 ⟨rfl, b1⟩
    have HX1 := Lib.hid (HX0.out.below b1 HX0.out.lt)
    have HB1 := Lib.hid (HL.out.trans (b1.mono (by simp)))
    have hz1' := HX1.out.lt
    clear b1 HX0 HL
    have bE := (Below.refl w1.heap.size w1).alloc (Nat.le_refl _) (.cells #[] 2)
    have HO1 := Lib.hid (owns_empty w1 2)
    have HX2 := Lib.hid (HX1.out.below bE HX1.out.lt)
    have HB2 := Lib.hid (HB1.out.trans (bE.mono HB1.out.size))
    clear bE
    go_wp2
    go_loopw [4, 10] (fun u kv wr => ∃ k : Nat, k ≤ 8 ∧ kv = .int .i64 k ∧ Hid (wr.ownsRow w1.heap.size 2 1 u (syI W H n f k).length (ivs (syI W H n f k))) ∧ Hid (At wr w.heap.size #[.int .i64 W, .int .i64 H, .slice A n c] 26) ∧ Hid (Below w.heap.size w wr) ∧ w1.heap.size ≤ wr.heap.size) (fun _ kv _ => 8 - (intOf kv).toNat)
    case atStart => exact ⟨0, Nat.zero_le _, rfl, HO1, HX2, HB2, by simp⟩
    case round =>
      clear HO1 HX2 HB2
      obtain ⟨k, hk, rfl, HU, HX, HB, hw1⟩ := hrel
      obtain ⟨Ao, co, rfl⟩ := owns_slice HU.out
      have hBz := HB.out.size
      have hln := syI_len (W := W) (H := H) (n := n) (f := f) k
      by_cases hlt : k < 8
      · have hdec : decide ((k : Int) < 8) = true := decide_eq_true (by omega)
        have hs : inB (k : Int) 0 7 = true := decide_eq_true ⟨by omega, by omega⟩
        have HM : Hid (∀ w' : World, Below wr.heap.size wr w' → Calls Tryd.prog 53 #[.agg #[.int .i64 W, .int .i64 H, .slice A n c], .int .i64 k] w' (PanelMade (mvW W H k) (mvH W H k) n (mpF W H k f) w')) :=
          Lib.hid (fun w' hb' => impl_moved w' W H A n c f k (HR.out.below (HB.out.trans (hb'.mono hBz)) (Nat.le_refl _)) HV.out hs (HT.out.below (HB.out.trans (hb'.mono hBz)) HT.out.1))
        obtain ⟨v, hv⟩ : ∃ v, syB W H n f k = v := ⟨_, rfl⟩
        have HVV := Lib.hid hv
        have HSm : Hid (∀ (w' : World) (A2 : Option Addr) (c2 : Nat), Row .i64 w' A2 n c2 (mpF W H k f) → Row .i64 w' A n c f → Calls Tryd.prog 57 #[.agg #[.int .i64 (mvW W H k), .int .i64 (mvH W H k), .slice A2 n c2], .agg #[.int .i64 W, .int .i64 H, .slice A n c]] w' (Gives (.bool v) w')) :=
          Lib.hid (fun w' A2 c2 h h' => hv ▸ impl_samePanel w' (mvW W H k) (mvH W H k) W H A2 A n c2 n c (mpF W H k f) f h h')
        have k0 := HX.out.cellv (i := 0) rfl
        have k1 := HX.out.cellv (i := 1) rfl
        have k2 := HX.out.cellv (i := 2) rfl
        have kz := HX.out.lt
        have OL := Lib.hid (Old.mk_ (Below.refl wr.heap.size wr).drew)
        have HRr := Lib.hid (HR.out.below HB.out (Nat.le_refl _))
        clear hv
        go_wp2
        go_region_held3 (fun w' => (∀ b o, b < (wr).heap.size → w'.cell? ⟨b, o, none⟩ = (wr).cell? ⟨b, o, none⟩) ∧ Below (wr).heap.size (wr) w') (first | assumption | exact OL.out | exact Old.trans (by assumption) (by assumption))
          (first
            | (go_at_call 53; refine (HM.out _ ?_).mono ?_; exact OL.out.2; rintro e wa ⟨A2, c2, rfl, ho, ba⟩; have hOw := Old.mk_ (OL.out.2.trans ba))
            | (go_at_call 57; refine (HSm.out _ _ _ ?_ ?_).mono ?_; exact ho.row; exact HRr.out.old (by assumption); rintro e wq ⟨rfl, bq⟩))
        rename_i hS
        have bw := hS.2
        have HBm := Lib.hid (HB.out.trans (bw.mono hBz))
        have HUm := Lib.hid (owns_belowS HU.out bw)
        have HXm := Lib.hid (HX.out.below bw HX.out.lt)
        have hqz := bw.size
        clear hS bw OL k0 k1 k2 ho ba bq hOw HM HSm HU HX HB
        cases v
        · go_wp2
          go_roundw
          case rel => exact ⟨k + 1, by omega, by go_num, Lib.hid (by rw [syI_no HVV.out]; exact HUm.out), HXm, HBm, by omega⟩
          case measure => simp [intOf]; omega
        · have hXa := Lib.hid ((Below.refl wq.heap.size wq).alloc (Nat.le_refl _) (.cells #[.int .i64 (k : Int)] 2))
          obtain ⟨ln, hlne⟩ : ∃ ln, (syI W H n f k).length = ln := ⟨_, rfl⟩
          rw [hlne] at HUm hln ⊢
          have HLN := Lib.hid hlne
          clear hlne
          go_wp2_with (first
            | (at_builtin; refine wpList_append_lies _ (by rfl) _ _ _ (by rfl) w1.heap.size 2 i2 _ 1 8 Tryd.underlying22 hi2 hz0 hz1 hz2 rfl (by omega) _ ln (ivs (syI W H n f k)) (by rfl) (owns_belowS HUm.out hXa.out) ⟨wq.heap.size, 0, none⟩ 1 1 [.int .i64 (k : Int)] (by rfl) (by rfl) (World.news_of_block (cs := #[.int .i64 (k : Int)]) (t := 2) (fr := (0, 0)) (heap_alloc_new wq _)) (fun u hu => by simp at hu; subst hu; rfl) (by omega) (by unfold maxLen; omega) (by omega) (by simp; omega) (wq.heap.size + 1) (by simp) ?_; intro g6 cap6 w6 hown6 hgrow6 hat6 hlt6; have HOW := Lib.hid hown6; have HGR := Lib.hid hgrow6; clear hown6 hgrow6 hat6))
          go_roundw
          case rel =>
            have hne : (Value.slice Ao ln co).ownBlock ≠ some w.heap.size := fun e => by have := (HUm.out.lt _ e).1; omega
            refine ⟨k + 1, by omega, by go_num, Lib.hid ?_, Lib.hid ((HXm.out.below hXa.out HXm.out.lt).grown HGR.out (fun e => hne e.symm)), Lib.hid ((HBm.out.trans (hXa.out.mono (by omega))).grown HGR.out (by simp; omega) (fun b e => by have := (HUm.out.lt b e).1; omega)), by have h1 := HGR.out.size; have h2 := hXa.out.size; omega⟩
            have e : ivs (syI W H n f (k + 1)) = ivs (syI W H n f k) ++ [.int .i64 (k : Int)] := by rw [syI_yes HVV.out]; unfold ivs; simp
            have e2 : (syI W H n f (k + 1)).length = ln + 1 := by rw [syI_yes HVV.out, List.length_append, HLN.out]; rfl
            rw [e, e2]
            exact HOW.out
          case measure => simp [intOf]; omega
      · obtain rfl : k = 8 := by omega
        have hdec : decide (((8 : Nat) : Int) < 8) = false := rfl
        go_wp2
        go_ret2
        exact ⟨Ao, co, rfl, syms_own HU.out HB1.out.size, HB.out⟩
end Go.Proofs.YtdofeonkgaceeaaDoor.Base
