/-
  The program's reader of pictures: one character.
-/
import Derived.Test.YtdofeonkgaceeacDoorPrs
import Derived.Test.YtdofeonkgaceeacDoorBkw
import Derived.Lib.OthersKept
namespace Go.Proofs.YtdofeonkgaceeacDoor.Base
open Go Go.RowKit
open Go.PlainAid (bt get_bt bt_nonneg bt_le)
set_option linter.unusedVariables false
set_option linter.unusedSimpArgs false

/-- the errors' variables hold errors -/
structure Ers (tt : TypeId) (p : Int → Value) (w : World) : Prop where
  e1 : w.cell? ⟨1, 0, none⟩ = some (.iface tt (p 1))
  e2 : w.cell? ⟨3, 0, none⟩ = some (.iface tt (p 2))
  e3 : w.cell? ⟨4, 0, none⟩ = some (.iface tt (p 3))
  e4 : w.cell? ⟨5, 0, none⟩ = some (.iface tt (p 4))
  e5 : w.cell? ⟨6, 0, none⟩ = some (.iface tt (p 5))
theorem Ers.lt {tt : TypeId} {p : Int → Value} {w : World} (h : Ers tt p w) : 1 < w.heap.size ∧ 3 < w.heap.size ∧ 4 < w.heap.size ∧ 5 < w.heap.size ∧ 6 < w.heap.size :=
  ⟨World.block_lt_of_cell? _ _ h.e1, World.block_lt_of_cell? _ _ h.e2, World.block_lt_of_cell? _ _ h.e3, World.block_lt_of_cell? _ _ h.e4, World.block_lt_of_cell? _ _ h.e5⟩
theorem Ers.below {tt : TypeId} {p : Int → Value} {w w' : World} {B : Nat} (h : Ers tt p w) (hb : Below B w w') (hB : w.heap.size ≤ B) : Ers tt p w' :=
  ⟨cell_be h.e1 hb (by have := h.lt; omega), cell_be h.e2 hb (by have := h.lt; omega), cell_be h.e3 hb (by have := h.lt; omega), cell_be h.e4 hb (by have := h.lt; omega), cell_be h.e5 hb (by have := h.lt; omega)⟩
/-- the error of a fault -/
def erV (tt : TypeId) (p : Int → Value) (q : Int) : Value := if q = 0 then .nilIface else .iface tt (p q)
/-- a reader in block b, which has read the kinds L; from block base on all is its own -/
structure Rd (base b : Nat) (W H x y : Int) (L : List Value) (w0 w : World) : Prop where
  at_ : ∃ u, At w b #[.int .i64 W, .int .i64 H, .int .i64 x, .int .i64 y, u] 105 ∧ w.ownsRow base 2 1 u L.length L ∧ u.ownBlock ≠ some b
  bel : Below base w0 w
  hb : base ≤ b
  h0 : base ≤ w0.heap.size
theorem Rd.below {base b : Nat} {W H x y : Int} {L : List Value} {w0 w w' : World} (h : Rd base b W H x y L w0 w) (hb : Below w.heap.size w w') : Rd base b W H x y L w0 w' := by
  obtain ⟨u, h1, h2, h3⟩ := h.at_
  exact ⟨⟨u, h1.below hb h1.lt, sp_below h2 hb, h3⟩, h.bel.trans (hb.mono (by have := h.bel.size; have := h.h0; omega)), h.hb, h.h0⟩
def inB2 (W H : Int) (x y : Nat) : Bool := hasB W H x y && !edgeB W H x y
def nextL (W H : Int) (x y : Nat) (c : Int) (L : List Value) : List Value := if inB2 W H x y && decide (chF W H x y c = 0) then L ++ [.int .i64 (kindI c)] else L
theorem owns_set_ne {w : World} {B p o n : Nat} {e : TypeId} {v u : Value} {xs : List Value} (h : w.ownsRow B e 1 v n xs) (hp : v.ownBlock ≠ some p) : (w.setCell ⟨p, o, none⟩ u).ownsRow B e 1 v n xs :=
  h.kept (row := some p) ⟨rfl, rfl, rfl, by simp [World.setCell], fun k _ hk => Below.heap_setCell _ _ _ _ (fun e => hk (by simp [e]))⟩ (.inr hp)
theorem others_of_below {e : TypeId} {b : Option Nat} {w w' : World} (h : Below w.heap.size w w') : Lib.OthersKept e b w w' := fun k o hk _ _ => (h.block k (Array.getElem?_eq_some_iff.1 hk).1).trans hk
/-- behind a character -/
def SignOut (tt : TypeId) (p : Int → Value) (base b : Nat) (W H : Int) (x y : Nat) (c : Int) (L : List Value) (w0 w : World) (e : Ending) (w' : World) : Prop :=
  e = .returned (erV tt p (chF W H x y c)) ∧ Rd base b W H x y (nextL W H x y c L) w0 w' ∧ Lib.OthersKept 2 (some b) w w'
set_option maxHeartbeats 4000000 in
set_option maxRecDepth 100000 in
theorem impl_readSign (w w0 : World) (base b : Nat) (W H : Int) (x y : Nat) (c : Int) (c0 : 0 ≤ c) (c1 : c ≤ 255) (L : List Value) (hL : L.length ≤ 100000) (tt : TypeId) (p : Int → Value) (hW : sideB W = true) (hH : sideB H = true) (hE : Ers tt p w0) (hEb : ∀ g, g ∈ [1, 3, 4, 5, 6] → g < base) (h : Rd base b W H x y L w0 w) :
    Calls Tryd.prog 110 #[.pointer (some ⟨b, 0, none⟩), .int .u8 c] w (SignOut tt p base b W H x y c L w0 w) := by
  obtain ⟨i2, hi2, hz0, hz1, hz2⟩ := info_parts infoI64
  obtain ⟨u, hat, hown, hne⟩ := h.at_
  have hbl := hat.lt
  have k0 := hat.cellv (i := 0) rfl
  have k1 := hat.cellv (i := 1) rfl
  have k2 := hat.cellv (i := 2) rfl
  have k3 := hat.cellv (i := 3) rfl
  have HR := Lib.hid h
  have HWs := Lib.hid hW
  have HHs := Lib.hid hH
  have HE := Lib.hid hE
  have HEB := Lib.hid hEb
  obtain ⟨q, hq⟩ : ∃ q, chF W H x y c = q := ⟨_, rfl⟩
  obtain ⟨L', hL'⟩ : ∃ l, nextL W H x y c L = l := ⟨_, rfl⟩
  unfold SignOut
  rw [hq, hL']
  have HQ := Lib.hid hq
  have HLL := Lib.hid hL'
  clear hq hL' hat hown hne hW hH hE hEb h
  have OL := Lib.hid (Old.mk_ (Below.refl w.heap.size w).drew)
  cases hh : hasB W H x y
  · have HH := Lib.hid hh
    clear hh
    go_enter Tryd.func110, Tryd.ntmps110
    go_wp2_with fail
    go_region_held3 (fun w' => (∀ b o, b < (w).heap.size → w'.cell? ⟨b, o, none⟩ = (w).cell? ⟨b, o, none⟩) ∧ Below (w).heap.size (w) w')
      (first | assumption | exact OL.out | exact Old.trans (by assumption) (by assumption))
      (first | (go_at_call 64; refine (hasPoint_is HH.out HWs.out HHs.out).mono ?_; rintro e w1 ⟨rfl, b1⟩))
    rename_i hS
    have HR1 := Lib.hid (HR.out.below hS.2)
    have HO1 : Hid (Lib.OthersKept 2 (some b) w w1) := Lib.hid (others_of_below hS.2)
    clear hS OL k0 k1 k2 k3
    have e5 := cell_be HE.out.e5 HR1.out.bel (HEB.out _ (by simp))
    have e5z : 6 < w1.heap.size := World.block_lt_of_cell? _ _ e5
    have hnl : L' = L := by rw [← HLL.out]; simp [nextL, inB2, HH.out]
    by_cases hc : c = 32
    · have e1 : (c != 32) = false := by rw [bne_eq_false_iff_eq]; exact hc
      have hq0 : q = 0 := by rw [← HQ.out]; simp [chF, HH.out, hc]
      subst hq0 hnl
      clear hc
      go_wp2
      go_ret
      exact ⟨rfl, HR1.out, HO1.out⟩
    · have e1 : (c != 32) = true := bne_iff_ne.2 hc
      have hq0 : q = 5 := by rw [← HQ.out]; simp [chF, HH.out, hc]
      subst hq0 hnl
      clear hc
      go_wp2
      go_ret
      exact ⟨rfl, HR1.out, HO1.out⟩
  · have HH := Lib.hid hh
    clear hh
    cases he : edgeB W H x y
    · have HEd := Lib.hid he
      clear he
      go_enter Tryd.func110, Tryd.ntmps110
      go_wp2_with fail
      go_region_held3 (fun w' => (∀ b o, b < (w).heap.size → w'.cell? ⟨b, o, none⟩ = (w).cell? ⟨b, o, none⟩) ∧ Below (w).heap.size (w) w')
        (first | assumption | exact OL.out | exact Old.trans (by assumption) (by assumption))
        (first | (go_at_call 64; refine (hasPoint_is HH.out HWs.out HHs.out).mono ?_; rintro e w1 ⟨rfl, b1⟩))
      rename_i hS
      have HR1 := Lib.hid (HR.out.below hS.2)
      have HO1 : Hid (Lib.OthersKept 2 (some b) w w1) := Lib.hid (others_of_below hS.2)
      clear hS OL k0 k1 k2 k3
      obtain ⟨u1, hat, hown, hne⟩ := HR1.out.at_
      have hbl1 := hat.lt
      have k0 := hat.cellv (i := 0) rfl
      have k1 := hat.cellv (i := 1) rfl
      have k2 := hat.cellv (i := 2) rfl
      have k3 := hat.cellv (i := 3) rfl
      clear hat hown hne
      have OL := Lib.hid (Old.mk_ (Below.refl w1.heap.size w1).drew)
      go_wp2_with fail
      go_region_held3 (fun w' => (∀ b o, b < (w1).heap.size → w'.cell? ⟨b, o, none⟩ = (w1).cell? ⟨b, o, none⟩) ∧ Below (w1).heap.size (w1) w')
        (first | assumption | exact OL.out | exact Old.trans (by assumption) (by assumption))
        (first | (go_at_call 125; refine (onBorder_is HEd.out HWs.out HHs.out).mono ?_; rintro e w2 ⟨rfl, b2⟩))
      rename_i hS
      have HR2 := Lib.hid (HR1.out.below hS.2)
      have HO2 := Lib.hid (HO1.out.trans (others_of_below hS.2))
      clear hS OL k0 k1 k2 k3 HR1
      have e3 := cell_be HE.out.e3 HR2.out.bel (HEB.out _ (by simp))
      have e3z : 4 < w2.heap.size := World.block_lt_of_cell? _ _ e3
      go_wp2_with fail
      refine (break_is w2 c c0 c1).mono ?_
      by_cases hk : 0 ≤ kindI c
      · have o1 : kindO c = true := decide_eq_true hk
        have o2 : kindN c = kindI c := by unfold kindN; rw [if_neg (by omega)]
        rw [o1, o2]
        rintro e w3 ⟨rfl, b3⟩
        have hq0 : q = 0 := by rw [← HQ.out]; simp [chF, HH.out, HEd.out]; omega
        have hnl : L' = L ++ [.int .i64 (kindI c)] := by
          rw [← HLL.out]
          have : chF W H x y c = 0 := by rw [HQ.out, hq0]
          simp [nextL, inB2, HH.out, HEd.out, this]
        have HNL := Lib.hid hnl
        have HR3 := Lib.hid (HR2.out.below b3)
        have HOb := Lib.hid (HO2.out.trans (others_of_below b3))
        obtain ⟨kv, hkv⟩ : ∃ kv, kindI c = kv := ⟨_, rfl⟩
        rw [hkv] at HNL ⊢
        subst hq0
        clear b3 HR2 e3 e3z o1 o2 hk hkv hnl
        obtain ⟨u3, hat, hown, hne⟩ := HR3.out.at_
        have HA3 := Lib.hid hat
        have HO3 := Lib.hid hown
        have HN3 := Lib.hid hne
        have hbl3 := hat.lt
        have k4 := hat.cellv (i := 4) rfl
        have hbb := HR3.out.hb
        have hb0 := HR3.out.bel.size
        have hb00 := HR3.out.h0
        obtain ⟨m, hm⟩ : ∃ m, L.length = m := ⟨_, rfl⟩
        rw [hm] at HO3 hL
        have HM := Lib.hid hm
        clear hat hown hne hm
        obtain ⟨Ax, cx, rfl⟩ := sp_slice HO3.out
        have hXa := Lib.hid ((Below.refl w3.heap.size w3).alloc (Nat.le_refl _) (.cells #[.int .i64 kv] 2))
        have hsz : (w3.alloc (.cells #[.int .i64 kv] 2)).heap.size = w3.heap.size + 1 := by simp
        go_wp2_with (first
          | (at_builtin; refine wpList_append_lies _ (by rfl) _ _ _ (by rfl) base 2 i2 _ 1 8 Tryd.underlying31 hi2 hz0 hz1 hz2 rfl (by omega) _ m L (by rfl) (sp_below HO3.out hXa.out) ⟨w3.heap.size, 0, none⟩ 1 1 [.int .i64 kv] (by rfl) (by rfl) (World.news_of_block (cs := #[.int .i64 kv]) (t := 2) (fr := (0, 0)) (heap_alloc_new w3 _)) (fun u hu => by simp at hu; subst hu; rfl) (by omega) (by unfold maxLen; omega) (by omega) (by simp; omega) (w3.heap.size + 1) (by simp) ?_; intro g6 cap6 w6 hown6 hgrow6 hat6 hlt6; have HOW := Lib.hid hown6; have HGR := Lib.hid hgrow6; have HAT := Lib.hid hat6; have HA6 := Lib.hid ((HA3.out.below hXa.out hbl3).grown hgrow6 (fun e => HN3.out e.symm)); have d6 := HA6.out.cellv (i := 4) rfl; have f6 := HA6.out.frozen 4; clear hown6 hgrow6 hat6))
        go_ret
        have hg6 : g6 ≠ b := fun e => by
          rcases HAT.out with h | h
          · exact HN3.out (by rw [h, e])
          · omega
        refine ⟨rfl, ⟨⟨_, HA6.out.set 4 _, ?_, fun e => hg6 (by simpa [Value.ownBlock] using e)⟩, ((((HR3.out.bel.trans (hXa.out.mono (by omega))).grown HGR.out (by simp; omega) (fun k e => (HO3.out.lt k e).1)).setCell (by show base ≤ b; omega) _)), hbb, hb00⟩, (HOb.out.trans (others_of_below hXa.out)).trans (((Lib.OthersKept.refl _ _ _).grown HGR.out (fun k e => Lib.ownsRowF_kind (World.ownsRowF_of (sp_below HO3.out hXa.out)) k e)).setCell ⟨b, 4, none⟩ rfl _)⟩
        rw [HNL.out, List.length_append, List.length_singleton, HM.out]
        exact owns_set_ne HOW.out (fun e => hg6 (by simpa [Value.ownBlock] using e))
      · have o1 : kindO c = false := decide_eq_false hk
        have o2 : kindN c = 0 := by unfold kindN; rw [if_pos (by omega)]
        rw [o1, o2]
        rintro e w3 ⟨rfl, b3⟩
        have hq0 : q = 3 := by rw [← HQ.out]; simp [chF, HH.out, HEd.out]; omega
        have hnl : L' = L := by
          rw [← HLL.out]
          have : chF W H x y c = 3 := by rw [HQ.out, hq0]
          simp [nextL, inB2, HH.out, HEd.out, this]
        have HR3 := Lib.hid (HR2.out.below b3)
        have HOb := Lib.hid (HO2.out.trans (others_of_below b3))
        have e3' := cell_be e3 b3 e3z
        have e3z' : 4 < w3.heap.size := World.block_lt_of_cell? _ _ e3'
        subst hq0 hnl
        clear b3 HR2 e3 e3z o1 o2 hk
        go_wp2
        go_ret
        exact ⟨rfl, HR3.out, HOb.out⟩
    · have HEd := Lib.hid he
      clear he
      go_enter Tryd.func110, Tryd.ntmps110
      go_wp2_with fail
      go_region_held3 (fun w' => (∀ b o, b < (w).heap.size → w'.cell? ⟨b, o, none⟩ = (w).cell? ⟨b, o, none⟩) ∧ Below (w).heap.size (w) w')
        (first | assumption | exact OL.out | exact Old.trans (by assumption) (by assumption))
        (first | (go_at_call 64; refine (hasPoint_is HH.out HWs.out HHs.out).mono ?_; rintro e w1 ⟨rfl, b1⟩))
      rename_i hS
      have HR1 := Lib.hid (HR.out.below hS.2)
      have HO1 : Hid (Lib.OthersKept 2 (some b) w w1) := Lib.hid (others_of_below hS.2)
      clear hS OL k0 k1 k2 k3
      obtain ⟨u1, hat, hown, hne⟩ := HR1.out.at_
      have hbl1 := hat.lt
      have k0 := hat.cellv (i := 0) rfl
      have k1 := hat.cellv (i := 1) rfl
      have k2 := hat.cellv (i := 2) rfl
      have k3 := hat.cellv (i := 3) rfl
      clear hat hown hne
      have OL := Lib.hid (Old.mk_ (Below.refl w1.heap.size w1).drew)
      go_wp2_with fail
      go_region_held3 (fun w' => (∀ b o, b < (w1).heap.size → w'.cell? ⟨b, o, none⟩ = (w1).cell? ⟨b, o, none⟩) ∧ Below (w1).heap.size (w1) w')
        (first | assumption | exact OL.out | exact Old.trans (by assumption) (by assumption))
        (first | (go_at_call 125; refine (onBorder_is HEd.out HWs.out HHs.out).mono ?_; rintro e w2 ⟨rfl, b2⟩))
      rename_i hS
      have HR2 := Lib.hid (HR1.out.below hS.2)
      have HO2 := Lib.hid (HO1.out.trans (others_of_below hS.2))
      clear hS OL k0 k1 k2 k3 HR1
      have e4 := cell_be HE.out.e4 HR2.out.bel (HEB.out _ (by simp))
      have e4z : 5 < w2.heap.size := World.block_lt_of_cell? _ _ e4
      have hnl : L' = L := by rw [← HLL.out]; simp [nextL, inB2, HH.out, HEd.out]
      by_cases hc : c = 46
      · have e1 : (c != 46) = false := by rw [bne_eq_false_iff_eq]; exact hc
        have hq0 : q = 0 := by rw [← HQ.out]; simp [chF, HH.out, HEd.out, hc]
        subst hq0 hnl
        clear hc
        go_wp2
        go_ret
        exact ⟨rfl, HR2.out, HO2.out⟩
      · have e1 : (c != 46) = true := bne_iff_ne.2 hc
        have hq0 : q = 4 := by rw [← HQ.out]; simp [chF, HH.out, HEd.out, hc]
        subst hq0 hnl
        clear hc
        go_wp2
        go_ret
        exact ⟨rfl, HR2.out, HO2.out⟩
end Go.Proofs.YtdofeonkgaceeacDoor.Base
