/-
  All groups: the specification's list.
-/
import Derived.Test.YtneknajeecgnoaaGsi
import Derived.Test.YtneknajeecgnoaaRot
import Derived.Test.YtneknajeecgnoaaJgs
import Derived.IntWalk
namespace Go.Proofs.Ytneknajeecgnoaa.Base
open Go Go.RowKit
set_option linter.unusedVariables false
set_option linter.unusedSimpArgs false
/-- a list of lists and a code -/
def LLOutC (L : List (List Int)) (w : World) (e : Ending) (w' : World) : Prop :=
  ∃ A c V, e = .returned (.tuple #[.slice A L.length c, .int .i64 0]) ∧ LLs w' w.heap.size (.slice A L.length c) L V ∧ Below w.heap.size w w'
theorem spec_groups_bad (w : World) (A : Option Addr) (n c : Nat) (f : Nat → Int) (B : Option Addr) (m d : Nat) (g : Nat → Int) (hr : Row .i64 w A n c f) (hr' : Row .i64 w B m d g) (hv : vjB n f m g = false) :
    Calls Try.prog 29 #[.agg #[.slice A n c, .slice B m d]] w (Gives (.tuple #[.slice none 0 0, .int .i64 1]) w) := by
  have HL := Lib.hid ((Below.refl w.heap.size w).alloc (Nat.le_refl _) (.cells #[.slice A n c, .slice B m d] 26))
  have HX := Lib.hid (Cel.new w [.slice A n c, .slice B m d] 26)
  have HC := Lib.hid (okJ_is hv HX.out (hr.below HL.out (Nat.le_refl _)) (hr'.below HL.out (Nat.le_refl _)))
  clear hr hr' hv
  go_enter Try.func29, Try.ntmps29
  go_wp2_with fail
  refine HC.out.mono ?_
  rintro e w1 ⟨rfl, b1⟩
  go_wp2
  go_ret2
  exact ⟨rfl, HL.out.trans (b1.mono (by simp))⟩
theorem LLs.mono {w : World} {base base' : Nat} {u : Value} {L : List (List Int)} {V : List Value} (h : LLs w base u L V) (hb : base' ≤ base) : LLs w base' u L V :=
  ⟨owns_mono h.out hb, fun i v l h1 h2 => owns_mono (h.row i v l h1 h2) hb, h.apO, h.apI⟩
theorem lbk_nextv {u v : Value} {V : List Value} {g cap n H b : Nat} (hv : ∀ b, v.ownBlock = some b → H ≤ b) (hat : u.ownBlock = some g ∨ H ≤ g) (h : LBk (.slice (some ⟨g, 0, none⟩) n cap) (V ++ [v]) b) : LBk u V b ∨ H ≤ b := by
  rcases h with e | ⟨i, v', h1, e⟩
  · have e3 : g = b := by simpa [Value.ownBlock] using e
    subst e3
    exact hat.imp (fun h => .inl h) id
  · rcases Nat.lt_or_ge i V.length with h2 | h2
    · rw [List.getElem?_append_left h2] at h1
      exact .inl (.inr ⟨i, v', h1, e⟩)
    · rw [List.getElem?_append_right h2] at h1
      rcases Nat.eq_zero_or_pos (i - V.length) with h3 | h3
      · rw [h3] at h1
        simp at h1
        subst h1
        exact .inr (hv b e)
      · rw [List.getElem?_eq_none (by simp; omega)] at h1; cases h1
set_option maxHeartbeats 8000000 in
set_option maxRecDepth 100000 in
theorem spec_groups_ok (w : World) (A : Option Addr) (n c : Nat) (f : Nat → Int) (B : Option Addr) (m d : Nat) (g : Nat → Int) (rt : Nat → Nat) (hrt : ∀ k, upN f m k = rt k) (hr : Row .i64 w A n c f) (hr' : Row .i64 w B m d g) (hv : vjB n f m g = true) :
    Calls Try.prog 29 #[.agg #[.slice A n c, .slice B m d]] w (LLOutC (gs rt n).2 w) := by
  have HL := Lib.hid ((Below.refl w.heap.size w).alloc (Nat.le_refl _) (.cells #[.slice A n c, .slice B m d] 26))
  have HX := Lib.hid (Cel.new w [.slice A n c, .slice B m d] 26)
  have HR := Lib.hid (hr.below HL.out (Nat.le_refl _))
  have HC := Lib.hid (okJ_is hv HX.out HR.out (hr'.below HL.out (Nat.le_refl _)))
  have HV := Lib.hid (vj_yes hv)
  have hn := (vj_yes hv).n2
  have HRT := Lib.hid hrt
  obtain ⟨i0, hi, hzz0, hzz1, hzz2⟩ := info_parts infoI64
  obtain ⟨j0, hj, hyy0, hyy1, hyy2⟩ := info_parts infoLst
  have hwB : w.heap.size + 1 = (w.alloc (.cells #[.slice A n c, .slice B m d] 26)).heap.size := by simp
  clear hr hr' hv hrt
  go_enter Try.func29, Try.ntmps29
  go_wp2_with fail
  refine HC.out.mono ?_
  rintro e w1 ⟨rfl, b1⟩
  have HX1 := Lib.hid (HX.out.below b1 HX.out.1)
  have HB1 := Lib.hid (HL.out.trans (b1.mono (by simp)))
  have HR1 := Lib.hid (HR.out.below b1 (Nat.le_refl _))
  have hw1 : w.heap.size + 1 ≤ w1.heap.size := by have := b1.size; omega
  have hw0 : (w.alloc (.cells #[.slice A n c, .slice B m d] 26)).heap.size ≤ w1.heap.size := b1.size
  clear b1 HC HX HL HR
  have X1 := (Below.refl w1.heap.size w1).alloc (Nat.le_refl _) (.cells #[] 24)
  have hmk := run_make_row' (P := Try.prog) 24 2 (.int .i64 0) 8 Try.underlying24 infoI64 rfl .i64 .i64 n (by omega) (by omega)
  have k0 : (w1.alloc (.cells #[] 24)).cell? ⟨w.heap.size, 0, none⟩ = some (.slice A n c) := (HX1.out.below X1 HX1.out.1).2 0 _ rfl
  have kz : w.heap.size < (w1.alloc (.cells #[] 24)).heap.size := by simp; omega
  go_wp2_with fail
  clear hmk k0 kz
  obtain ⟨mb, hmb⟩ : ∃ mb, w1.heap.size + 1 = mb := ⟨_, rfl⟩
  have hzz : (w1.alloc (.cells #[] 24)).heap.size = w1.heap.size + 1 := by simp
  have hmade := World.rowIs_made (w1.alloc (.cells #[] 24)) (.int .i64 0) n 2
  have X2 := X1.alloc X1.size (.cells (madeCells #[.int .i64 0] n) 2)
  have HL0 : Hid (LLs ((w1.alloc (.cells #[] 24)).alloc (.cells (madeCells #[.int .i64 0] n) 2)) w1.heap.size (.slice (some ⟨w1.heap.size, 0, none⟩) 0 0) [] []) := Lib.hid ⟨owns_belowS (owns_empty w1 24) ((Below.refl _ _).alloc (Nat.le_refl _) _), fun i v l h => by simp at h, fun i v h => by simp at h, fun i j v v' _ h => by simp at h⟩
  have HB0 := Lib.hid X2
  have HP0 := Lib.hid hmade
  have hz3 : ((w1.alloc (.cells #[] 24)).alloc (.cells (madeCells #[.int .i64 0] n) 2)).heap.size = w1.heap.size + 2 := by simp
  rw [hzz] at HP0
  try rw [hzz]
  try simp only [World.size_alloc]
  clear X1 X2 hmade hzz
  generalize (w1.alloc (.cells #[] 24)).alloc (.cells (madeCells #[.int .i64 0] n) 2) = w2 at *
  try rw [hmb]
  rw [hmb] at HP0
  go_loopw [4, 6] (fun u kv wr => ∃ (k : Nat) (V : List Value), k ≤ n ∧ kv = .int .i64 (k : Int) ∧ Hid (LLs wr w1.heap.size u (gs rt k).2 V) ∧ Hid (wr.rowIs mb 2 n (fun x => .int .i64 (((gs rt k).1 x : Nat) : Int))) ∧ Hid (Below w1.heap.size w1 wr) ∧ Hid (¬ LBk u V mb)) (fun _ kv _ => n - (intOf kv).toNat)
  case atStart => exact ⟨0, [], Nat.zero_le _, rfl, HL0, HP0, HB0, Lib.hid (fun h => by rcases h with h | ⟨i, v, h, _⟩; (simp [Value.ownBlock] at h; omega); (simp at h))⟩
  case round =>
    clear HL0 HP0 HB0
    obtain ⟨k, V, hk, rfl, HL, HP, HB, HA⟩ := hrel
    obtain ⟨Ao, co, rfl⟩ := owns_slice HL.out.out
    have hwz := HB.out.size
    have HXr := Lib.hid (HX1.out.below HB.out (by omega))
    have k0 := HXr.out.2 0 _ rfl
    have kz := HXr.out.1
    by_cases hlt : k < n
    · obtain ⟨r, hre⟩ : ∃ r, rt k = r := ⟨_, rfl⟩
      have hrn : r < n := by rw [← hre, ← HRT.out k]; exact up_lt HV.out hlt m
      have hro := spec_root wr w.heap.size A n c f B m d g k HXr.out (HR1.out.below HB.out (Nat.le_refl _)) HV.out hlt
      rw [HRT.out k, hre] at hro
      have HRO := Lib.hid hro
      have HRE := Lib.hid hre
      clear hre hro
      go_wp2_with fail
      refine HRO.out.mono ?_
      rintro e w4 ⟨rfl, hw⟩
      subst hw
      clear HRO
      obtain ⟨pr, hpre⟩ : ∃ pr, (gs rt k).1 r = pr := ⟨_, rfl⟩
      have hpc := HP.out.cell hrn
      rw [hpre] at hpc
      have hfp := HP.out.frozen r
      have hlp := HP.out.lt
      have HPR := Lib.hid hpre
      have hlen := gs_len (rt := rt) k
      have hpb : pr ≤ (gs rt k).2.length := by rw [← hpre]; exact gs_bd k r
      have HMM := Lib.hid (gs_mem (rt := rt) k)
      clear hpre k0 kz HXr
      by_cases hp0 : pr = 0
      · subst hp0
        have HG := Lib.hid (gs_new (rt := rt) (k := k) (by rw [HRE.out, HPR.out]))
        rw [HRE.out] at HG
        have HGS : Hid ((gs rt (k + 1)).2 = snocAt ((gs rt k).2 ++ [[]]) (gs rt k).2.length (k : Int)) := Lib.hid (by rw [HG.out])
        have HGP : Hid ((gs rt (k + 1)).1 = fun x => if x = r then (gs rt k).2.length + 1 else (gs rt k).1 x) := Lib.hid (by rw [HG.out])
        clear HG
        have e0 : ((0 : Nat) : Int) = 0 := rfl
        rw [e0] at hpc
        generalize hLx : (gs rt k).2 = L0 at *
        generalize hpx : (gs rt k).1 = p00 at *
        clear hLx hpx e0
        have bA := (Below.refl wr.heap.size wr).alloc (Nat.le_refl _) (.cells #[] 2)
        have hvo := owns_belowS (owns_empty wr 2) ((Below.refl _ (wr.alloc (.cells #[] 2))).alloc (Nat.le_refl _) (.cells #[.slice (some ⟨wr.heap.size, 0, none⟩) 0 0] 24))
        have hXa := Lib.hid (bA.alloc (by simp) (.cells #[.slice (some ⟨wr.heap.size, 0, none⟩) 0 0] 24))
        have hXz : ((wr.alloc (.cells #[] 2)).alloc (.cells #[.slice (some ⟨wr.heap.size, 0, none⟩) 0 0] 24)).heap.size = wr.heap.size + 2 := by simp
        have hXy : (wr.alloc (.cells #[] 2)).heap.size = wr.heap.size + 1 := by simp
        have HVO := Lib.hid hvo
        have HPC := Lib.hid hpc
        have HFP := Lib.hid hfp
        have hnw := World.news_of_block (cs := #[.slice (some ⟨wr.heap.size, 0, none⟩) 0 0]) (t := 24) (fr := (0, 0)) (heap_alloc_new (wr.alloc (.cells #[] 2)) (.cells #[.slice (some ⟨wr.heap.size, 0, none⟩) 0 0] 24))
        rw [hXy] at hnw
        have HNW := Lib.hid hnw
        clear bA hvo hnw
        go_wp2_with (first
          | (at_builtin; refine wpList_append_lies _ (by rfl) _ _ _ (by rfl) w1.heap.size 24 j0 _ 1 24 Try.underlying35 hj hyy0 hyy1 hyy2 rfl (by omega) _ L0.length V (by rfl) (owns_belowS HL.out.out hXa.out) ⟨wr.heap.size + 1, 0, none⟩ 1 1 [.slice (some ⟨wr.heap.size, 0, none⟩) 0 0] (by rfl) (by rfl) HNW.out (fun u hu => by simp at hu; subst hu; rfl) (by omega) (by unfold maxLen; omega) (by omega) (by simp; omega) (wr.heap.size + 2) (by simp) ?_; intro g6 cap6 w6 hown6 hgrow6 hat6 hlt6; have eP6 := (hgrow6.block mb (by rw [hXz]; omega) (fun e => HA.out (.inl e.symm))).trans (hXa.out.block mb (by omega)); have c6 := (World.cell?_of_block (a := ⟨mb, r, none⟩) eP6).trans HPC.out; have f6 := (World.frozen?_of_block (a := ⟨mb, r, none⟩) eP6).trans HFP.out; have z6 : mb < w6.heap.size := Nat.lt_of_lt_of_le (by rw [hXz]; omega) hgrow6.size; have HOW6 := Lib.hid hown6; have HGR6 := Lib.hid hgrow6; have HAT6 := Lib.hid hat6; have HEP6 := Lib.hid eP6; clear hown6 hgrow6 hat6 eP6))
        clear hpc hfp c6 f6
        have hw36 := HGR6.out.size
        rw [hXz] at hw36
        have hat7 : (Value.slice Ao L0.length co).ownBlock = some g6 ∨ wr.heap.size ≤ g6 := HAT6.out.imp id (fun e => by omega)
        have hub : ∀ b, (Value.slice Ao L0.length co).ownBlock = some b → w1.heap.size ≤ b := fun b e => (HL.out.out.lt b e).1
        have hlbk : ∀ b, LBk (.slice (some ⟨g6, 0, none⟩) (L0.length + 1) cap6) (V ++ [.slice (some ⟨wr.heap.size, 0, none⟩) 0 0]) b → LBk (.slice Ao L0.length co) V b ∨ wr.heap.size ≤ b := fun b hb => lbk_nextv (fun b e => by simp [Value.ownBlock] at e; omega) hat7 hb
        have hA6 : ¬ LBk (.slice (some ⟨g6, 0, none⟩) (L0.length + 1) cap6) (V ++ [.slice (some ⟨wr.heap.size, 0, none⟩) 0 0]) mb := fun hx => (hlbk mb hx).elim HA.out (fun h => by omega)
        have hL6 := HL.out.next (wa := (wr.alloc (.cells #[] 2)).alloc (.cells #[.slice (some ⟨wr.heap.size, 0, none⟩) 0 0] 24)) (w5 := w6) (v := .slice (some ⟨wr.heap.size, 0, none⟩) 0 0) hXa.out HVO.out hwz HOW6.out HGR6.out (HAT6.out.imp id (fun e => by rw [hXz]; omega))
        have HLx0 := Lib.hid (hL6.ofb (w' := w6.setCell ⟨mb, r, none⟩ (.int .i64 ((L0.length : Int) + 1))) (by simp [World.setCell]) (fun b hb hx => Below.heap_setCell w6 ⟨mb, r, none⟩ _ b (by exact fun e => hA6 (by have e2 : b = mb := e; subst e2; exact hx))))
        have HPx0 := Lib.hid (((HP.out.of_block (w' := w6) HEP6.out).set r (.int .i64 ((L0.length : Int) + 1))).congr (g := fun x => .int .i64 ((((fun x => if x = r then L0.length + 1 else p00 x) x : Nat)) : Int)) (fun x hx => by
          by_cases e : x = r
          · simp [e]
          · simp [e]))
        have HBx0 : Hid (Below w1.heap.size w1 (w6.setCell ⟨mb, r, none⟩ (.int .i64 ((L0.length : Int) + 1)))) := Lib.hid ((HB.out.trans ((hXa.out.mono hwz).grown HGR6.out (by rw [hXz]; omega) (fun b e => hub b e))).setCell (p := ⟨mb, r, none⟩) (by simp; omega) _)
        have HMM0 : Hid (∀ l ∈ L0 ++ [[]], l.length ≤ k ∧ ∀ x ∈ l, 0 ≤ x ∧ x < (k : Int)) := Lib.hid (fun l hl => by
          rcases List.mem_append.1 hl with h1 | h1
          · exact HMM.out l h1
          · simp at h1
            subst h1
            exact ⟨Nat.zero_le _, fun x hx => by cases hx⟩)
        have HIX0 : Hid ((fun x => if x = r then L0.length + 1 else p00 x) r = L0.length + 1 ∧ L0.length < (L0 ++ [[]]).length) := Lib.hid ⟨by simp, by simp⟩
        have HAx0 := Lib.hid hA6
        have hmbx : mb < (w6.setCell ⟨mb, r, none⟩ (.int .i64 ((L0.length : Int) + 1))).heap.size := by simp [World.setCell]; omega
        have hwxz : w1.heap.size ≤ (w6.setCell ⟨mb, r, none⟩ (.int .i64 ((L0.length : Int) + 1))).heap.size := by simp [World.setCell]; omega
        clear hL6 hA6 hlbk hub hat7 HOW6 HGR6 HAT6 HEP6 HPC HFP HNW HVO HL HP HB HA HMM hXa hXz hXy z6 hlp hwz hpb HPR
        generalize (fun x => if x = r then L0.length + 1 else p00 x) = px at *
        have hl00 : L0.length + 1 = (L0 ++ [[]]).length := by simp
        have hix256 : L0.length < 256 := by omega
        generalize hwx : w6.setCell ⟨mb, r, none⟩ (.int .i64 ((L0.length : Int) + 1)) = wx at *
        clear hwx
        rw [hl00] at HLx0 HAx0 ⊢
        generalize hix0 : L0.length = ix at *
        generalize L0 ++ [[]] = Lx at *
        generalize V ++ [.slice (some ⟨wr.heap.size, 0, none⟩) 0 0] = Vx at *
        have HLx := HLx0
        have HPx := HPx0
        have HAx := HAx0
        have HIX := HIX0
        have HBx := HBx0
        have HMM := HMM0
        clear HLx0 HPx0 HAx0 HIX0 HBx0 HMM0 hl00 hix0
        generalize hux : Value.slice (some ⟨g6, 0, none⟩) Lx.length cap6 = ux at *
        clear hux
        -- the element goes into its list
        have hix : ix < Lx.length := HIX.out.2
        obtain ⟨v, hv, hli⟩ := HLx.out.at_ hix
        obtain ⟨li, hle⟩ : ∃ li, Lx.getD ix [] = li := ⟨_, rfl⟩
        rw [hle] at hli
        have HLE := Lib.hid hle
        have HRv := Lib.hid (HLx.out.row ix v li hv hli)
        obtain ⟨Pv, cv2, hvs⟩ := owns_slice HRv.out
        have hll : li.length ≤ k := (HMM.out li (List.mem_of_getElem? hli)).1
        obtain ⟨gO, cO, hgo⟩ : ∃ gO cO, ux = .slice (some ⟨gO, 0, none⟩) Lx.length cO := by
          rcases HLx.out.out.2 with ⟨-, e⟩ | ⟨g1, c1, cur, e, -⟩
          · omega
          · exact ⟨g1, c1, e⟩
        subst hgo
        have hgOl := (HLx.out.out.lt gO rfl).2
        have hgOb := (HLx.out.out.lt gO rfl).1
        have hc0 : wx.cell? ⟨gO, ix, none⟩ = some v := by
          have h1 := HLx.out.out.cellAt ix (by omega)
          rw [h1]
          exact hv
        have hfz : wx.frozen? ⟨gO, ix, none⟩ = false := owns_frozen HLx.out.out ix
        subst hvs
        have HVV := Lib.hid hv
        have hp0' : wx.cell? ⟨mb, r, none⟩ = some (.int .i64 ((ix : Int) + 1)) := by
          rw [HPx.out.cell hrn, HIX.out.1]
          rfl
        have hwr : IntKind.i64.wrap (ix : Int) = ix := IntWalk.i64_in _ (by omega)
        have hxz : (wx.drew.alloc (.cells #[.int .i64 (k : Int)] 2)).heap.size = wx.heap.size + 1 := by simp
        have hgl : ∀ b, (Value.slice Pv li.length cv2).ownBlock = some b → b < wx.heap.size ∧ b ≠ gO ∧ b ≠ mb := fun b e => ⟨(HRv.out.lt b e).2, fun e2 => HLx.out.apO ix _ HVV.out b e (by rw [e2]; rfl), fun e2 => HAx.out (.inr ⟨ix, _, HVV.out, by rw [← e2]; exact e⟩)⟩
        have HGL := Lib.hid hgl
        clear hv hli hgl
        refine region_out ?_
        go_region_law (refine step_append_lies (wx.drew.alloc (.cells #[.int .i64 (k : Int)] 2)) (by rfl) (.tmp 51) (.tmp 53) 24 (by rfl) w1.heap.size 2 i0 (.int .i64 0) 1 8 Try.underlying24 hi hzz0 hzz1 hzz2 rfl (by decide) (.slice Pv li.length cv2) li.length (ivs li) (by rfl) (HRv.out.drew.alloc _) ⟨wx.heap.size, 0, none⟩ 1 1 [.int .i64 (k : Int)] (by rfl) (by rfl) (World.news_of_block (cs := #[.int .i64 (k : Int)]) (t := 2) (fr := (0, 0)) (heap_alloc_new wx.drew _)) (fun u hu => by simp at hu; subst hu; rfl) (by omega) (by unfold maxLen; omega) (by omega) (by simp; omega) (wx.heap.size + 1) (by simp) ?_; intro gg cap wz hown1 hgrow hat hlt1; have eP := (hgrow.block mb (by rw [hxz]; omega) (fun e => (HGL.out mb e.symm).2.2 rfl)).trans (Below.heap_alloc wx.drew (.cells #[.int .i64 (k : Int)] 2) mb (by exact hmbx)); have hp2 := (World.cell?_of_block (a := ⟨mb, r, none⟩) eP).trans hp0'; have zP : mb < wz.heap.size := Nat.lt_of_lt_of_le (by rw [hxz]; omega) hgrow.size; have HEP := Lib.hid eP; have eO := (hgrow.block gO (by rw [hxz]; omega) (fun e => (HGL.out gO e.symm).2.1 rfl)).trans (Below.heap_alloc wx.drew (.cells #[.int .i64 (k : Int)] 2) gO (by exact hgOl)); have qO := (World.cell?_of_block (a := ⟨gO, ix, none⟩) eO).trans hc0; have fO := (World.frozen?_of_block (a := ⟨gO, ix, none⟩) eO).trans hfz; have zO : gO < wz.heap.size := Nat.lt_of_lt_of_le (by rw [hxz]; omega) hgrow.size; have HOW := Lib.hid hown1; have HGR := Lib.hid hgrow; have HAT := Lib.hid hat; clear hown1 hgrow hat eO eP)
        all_goals
          go_wp2
          clear hp0' hp2 zP qO fO zO hc0 hfz
          go_roundw
          case rel =>
            have hgm : gO ≠ mb := fun e => HAx.out (.inl (by rw [e]; rfl))
            have hat2 : (Value.slice Pv li.length cv2).ownBlock = some gg ∨ wx.heap.size ≤ gg := HAT.out.imp id (fun e => by omega)
            have hkeep : ∀ b, b < wx.heap.size → b ≠ gO → (Value.slice Pv li.length cv2).ownBlock ≠ some b → (wz.setCell ⟨gO, ix, none⟩ (.slice (some ⟨gg, 0, none⟩) (li.length + 1) cap)).heap[b]? = wx.heap[b]? := fun b hb h1 h2 => by
              rw [Below.heap_setCell _ _ _ _ h1]
              exact (HGR.out.block b (by rw [hxz]; omega) (fun e => h2 e.symm)).trans (Below.heap_alloc wx.drew _ _ (by exact hb))
            have hzsz : wx.heap.size ≤ (wz.setCell ⟨gO, ix, none⟩ (.slice (some ⟨gg, 0, none⟩) (li.length + 1) cap)).heap.size := by have := HGR.out.size; rw [hxz] at this; simp [World.setCell]; omega
            refine ⟨k + 1, Vx.set ix (.slice (some ⟨gg, 0, none⟩) (li.length + 1) cap), by omega, by go_num, Lib.hid ?_, Lib.hid ?_, Lib.hid ?_, Lib.hid ?_⟩
            · rw [HGS.out]
              have h1 := (HLx.out.bel (((Below.refl wx.heap.size wx).drew).alloc (Nat.le_refl _) (.cells #[.int .i64 (k : Int)] 2)))
              have h2 := h1.put (i := ix) (x := (k : Int)) (w5 := wz) (g := gg) (cap := cap) (v := .slice Pv li.length cv2) hix HVV.out (by rw [HLE.out]; exact HOW.out) HGR.out (HAT.out.imp id (fun e => by rw [hxz]; omega))
              rw [HLE.out] at h2
              exact h2
            · rw [HGP.out]
              exact HPx.out.of_block ((Below.heap_setCell wz ⟨gO, ix, none⟩ _ mb (by exact fun e => hgm e.symm)).trans HEP.out)
            · refine HBx.out.trans ?_
              refine ⟨HGR.out.os, HGR.out.tape, HGR.out.output, hzsz, fun b hb => hkeep b (by have := HBx.out.size; omega) (by omega) (fun e => by have h3 := (HRv.out.lt b e).1; omega)⟩
            · exact fun hx => (lbk_put HVV.out hat2 hx).elim HAx.out (fun h => by omega)
          case measure => simp [intOf]; omega
      · have e1 : ((pr : Int) == 0) = false := by simp; omega
        have HG := Lib.hid (gs_old (rt := rt) (k := k) (by rw [HRE.out, HPR.out]; exact hp0))
        have HGS : Hid ((gs rt (k + 1)).2 = snocAt (gs rt k).2 (pr - 1) (k : Int)) := Lib.hid (by rw [HG.out, HRE.out, HPR.out])
        have HGP : Hid ((gs rt (k + 1)).1 = (gs rt k).1) := Lib.hid (by rw [HG.out])
        clear HG
        go_wp2_with fail
        clear hpc hfp e1
        have hmbx : mb < wr.heap.size := hlp
        have HIX0 := Lib.hid (show (gs rt k).1 r = (pr - 1) + 1 ∧ pr - 1 < (gs rt k).2.length from ⟨by rw [HPR.out]; omega, by omega⟩)
        generalize hLx : (gs rt k).2 = Lx at *
        generalize hpx : (gs rt k).1 = px at *
        have HLx := HL
        have HPx := HP
        have HAx := HA
        have HBx := HB
        have hix256 : pr - 1 < 256 := by omega
        generalize hixe : pr - 1 = ix at *
        have HIX := HIX0
        have hwxz : w1.heap.size ≤ wr.heap.size := hwz
        clear hLx hpx hixe HL HP HA HB HIX0 hp0 hpb HPR hwz hlp
        generalize hux : Value.slice Ao Lx.length co = ux at *
        clear hux
        generalize hwx : wr = wx at *
        clear hwx wr
        -- the element goes into its list
        have hix : ix < Lx.length := HIX.out.2
        obtain ⟨v, hv, hli⟩ := HLx.out.at_ hix
        obtain ⟨li, hle⟩ : ∃ li, Lx.getD ix [] = li := ⟨_, rfl⟩
        rw [hle] at hli
        have HLE := Lib.hid hle
        have HRv := Lib.hid (HLx.out.row ix v li hv hli)
        obtain ⟨Pv, cv2, hvs⟩ := owns_slice HRv.out
        have hll : li.length ≤ k := (HMM.out li (List.mem_of_getElem? hli)).1
        obtain ⟨gO, cO, hgo⟩ : ∃ gO cO, ux = .slice (some ⟨gO, 0, none⟩) Lx.length cO := by
          rcases HLx.out.out.2 with ⟨-, e⟩ | ⟨g1, c1, cur, e, -⟩
          · omega
          · exact ⟨g1, c1, e⟩
        subst hgo
        have hgOl := (HLx.out.out.lt gO rfl).2
        have hgOb := (HLx.out.out.lt gO rfl).1
        have hc0 : wx.cell? ⟨gO, ix, none⟩ = some v := by
          have h1 := HLx.out.out.cellAt ix (by omega)
          rw [h1]
          exact hv
        have hfz : wx.frozen? ⟨gO, ix, none⟩ = false := owns_frozen HLx.out.out ix
        subst hvs
        have HVV := Lib.hid hv
        have hp0' : wx.cell? ⟨mb, r, none⟩ = some (.int .i64 ((ix : Int) + 1)) := by
          rw [HPx.out.cell hrn, HIX.out.1]
          rfl
        have hwr : IntKind.i64.wrap (ix : Int) = ix := IntWalk.i64_in _ (by omega)
        have hxz : (wx.drew.alloc (.cells #[.int .i64 (k : Int)] 2)).heap.size = wx.heap.size + 1 := by simp
        have hgl : ∀ b, (Value.slice Pv li.length cv2).ownBlock = some b → b < wx.heap.size ∧ b ≠ gO ∧ b ≠ mb := fun b e => ⟨(HRv.out.lt b e).2, fun e2 => HLx.out.apO ix _ HVV.out b e (by rw [e2]; rfl), fun e2 => HAx.out (.inr ⟨ix, _, HVV.out, by rw [← e2]; exact e⟩)⟩
        have HGL := Lib.hid hgl
        clear hv hli hgl
        refine region_out ?_
        go_region_law (refine step_append_lies (wx.drew.alloc (.cells #[.int .i64 (k : Int)] 2)) (by rfl) (.tmp 51) (.tmp 53) 24 (by rfl) w1.heap.size 2 i0 (.int .i64 0) 1 8 Try.underlying24 hi hzz0 hzz1 hzz2 rfl (by decide) (.slice Pv li.length cv2) li.length (ivs li) (by rfl) (HRv.out.drew.alloc _) ⟨wx.heap.size, 0, none⟩ 1 1 [.int .i64 (k : Int)] (by rfl) (by rfl) (World.news_of_block (cs := #[.int .i64 (k : Int)]) (t := 2) (fr := (0, 0)) (heap_alloc_new wx.drew _)) (fun u hu => by simp at hu; subst hu; rfl) (by omega) (by unfold maxLen; omega) (by omega) (by simp; omega) (wx.heap.size + 1) (by simp) ?_; intro gg cap wz hown1 hgrow hat hlt1; have eP := (hgrow.block mb (by rw [hxz]; omega) (fun e => (HGL.out mb e.symm).2.2 rfl)).trans (Below.heap_alloc wx.drew (.cells #[.int .i64 (k : Int)] 2) mb (by exact hmbx)); have hp2 := (World.cell?_of_block (a := ⟨mb, r, none⟩) eP).trans hp0'; have zP : mb < wz.heap.size := Nat.lt_of_lt_of_le (by rw [hxz]; omega) hgrow.size; have HEP := Lib.hid eP; have eO := (hgrow.block gO (by rw [hxz]; omega) (fun e => (HGL.out gO e.symm).2.1 rfl)).trans (Below.heap_alloc wx.drew (.cells #[.int .i64 (k : Int)] 2) gO (by exact hgOl)); have qO := (World.cell?_of_block (a := ⟨gO, ix, none⟩) eO).trans hc0; have fO := (World.frozen?_of_block (a := ⟨gO, ix, none⟩) eO).trans hfz; have zO : gO < wz.heap.size := Nat.lt_of_lt_of_le (by rw [hxz]; omega) hgrow.size; have HOW := Lib.hid hown1; have HGR := Lib.hid hgrow; have HAT := Lib.hid hat; clear hown1 hgrow hat eO eP)
        all_goals
          go_wp2
          clear hp0' hp2 zP qO fO zO hc0 hfz
          go_roundw
          case rel =>
            have hgm : gO ≠ mb := fun e => HAx.out (.inl (by rw [e]; rfl))
            have hat2 : (Value.slice Pv li.length cv2).ownBlock = some gg ∨ wx.heap.size ≤ gg := HAT.out.imp id (fun e => by omega)
            have hkeep : ∀ b, b < wx.heap.size → b ≠ gO → (Value.slice Pv li.length cv2).ownBlock ≠ some b → (wz.setCell ⟨gO, ix, none⟩ (.slice (some ⟨gg, 0, none⟩) (li.length + 1) cap)).heap[b]? = wx.heap[b]? := fun b hb h1 h2 => by
              rw [Below.heap_setCell _ _ _ _ h1]
              exact (HGR.out.block b (by rw [hxz]; omega) (fun e => h2 e.symm)).trans (Below.heap_alloc wx.drew _ _ (by exact hb))
            have hzsz : wx.heap.size ≤ (wz.setCell ⟨gO, ix, none⟩ (.slice (some ⟨gg, 0, none⟩) (li.length + 1) cap)).heap.size := by have := HGR.out.size; rw [hxz] at this; simp [World.setCell]; omega
            refine ⟨k + 1, V.set ix (.slice (some ⟨gg, 0, none⟩) (li.length + 1) cap), by omega, by go_num, Lib.hid ?_, Lib.hid ?_, Lib.hid ?_, Lib.hid ?_⟩
            · rw [HGS.out]
              have h1 := (HLx.out.bel (((Below.refl wx.heap.size wx).drew).alloc (Nat.le_refl _) (.cells #[.int .i64 (k : Int)] 2)))
              have h2 := h1.put (i := ix) (x := (k : Int)) (w5 := wz) (g := gg) (cap := cap) (v := .slice Pv li.length cv2) hix HVV.out (by rw [HLE.out]; exact HOW.out) HGR.out (HAT.out.imp id (fun e => by rw [hxz]; omega))
              rw [HLE.out] at h2
              exact h2
            · rw [HGP.out]
              exact HPx.out.of_block ((Below.heap_setCell wz ⟨gO, ix, none⟩ _ mb (by exact fun e => hgm e.symm)).trans HEP.out)
            · refine HBx.out.trans ?_
              refine ⟨HGR.out.os, HGR.out.tape, HGR.out.output, hzsz, fun b hb => hkeep b (by have := HBx.out.size; omega) (by omega) (fun e => by have h3 := (HRv.out.lt b e).1; omega)⟩
            · exact fun hx => (lbk_put HVV.out hat2 hx).elim HAx.out (fun h => by omega)
          case measure => simp [intOf]; omega
    · obtain rfl : k = n := by omega
      go_wp2
      go_ret2
      exact ⟨Ao, co, V, rfl, HL.out.mono (by omega), HB1.out.trans (HB.out.mono (by omega))⟩
end Go.Proofs.Ytneknajeecgnoaa.Base
