/-
  The program's reader of pictures: one line.
-/
import Derived.Test.YtdofeonkgaceeacDoorPrr
import Derived.Test.YtdofeonkgaceeacDoorPtx
namespace Go.Proofs.YtdofeonkgaceeacDoor.Base
open Go Go.RowKit
open Go.PlainAid (bt get_bt bt_nonneg bt_le)
set_option linter.unusedVariables false
set_option linter.unusedSimpArgs false

/-- the kinds that a line's first k characters add -/
def lineL (W H : Int) (t : ByteArray) (y : Nat) (L : List Value) : Nat → List Value
  | 0 => L
  | k + 1 => nextL W H k y (bt t k) (lineL W H t y L k)
theorem nextL_len (W H : Int) (x y : Nat) (c : Int) (L : List Value) : (nextL W H x y c L).length ≤ L.length + 1 := by
  unfold nextL
  split <;> simp
theorem lineL_len (W H : Int) (t : ByteArray) (y : Nat) (L : List Value) : ∀ k, (lineL W H t y L k).length ≤ L.length + k
  | 0 => Nat.le_refl _
  | k + 1 => by
    have h1 := lineL_len W H t y L k
    have h2 := nextL_len W H k y (bt t k) (lineL W H t y L k)
    show (nextL W H k y (bt t k) (lineL W H t y L k)).length ≤ _
    omega
/-- block g is the text's bytes -/
def ByB (w : World) (g : Nat) (t : ByteArray) : Prop := ∃ cs fr, w.heap[g]? = some (.cells cs 5 fr) ∧ ∀ i, i < t.size → cs[i]? = some (.int .u8 (bt t i))
theorem ByB.cell {w : World} {g : Nat} {t : ByteArray} (h : ByB w g t) {i : Nat} (hi : i < t.size) : w.cell? ⟨g, i, none⟩ = some (.int .u8 (bt t i)) := by
  obtain ⟨cs, fr, h1, h2⟩ := h
  rw [Lib.cell_of_heap h1]
  exact h2 i hi
theorem ByB.lt {w : World} {g : Nat} {t : ByteArray} (h : ByB w g t) : g < w.heap.size := by
  obtain ⟨cs, fr, h1, -⟩ := h
  exact (Array.getElem?_eq_some_iff.1 h1).1
theorem neU8I : 5 ≠ 2 := by decide
theorem ByB.others {w w' : World} {g b : Nat} {t : ByteArray} (h : ByB w g t) (hk : Lib.OthersKept 2 (some b) w w') (hb : g ≠ b) : ByB w' g t := by
  obtain ⟨cs, fr, h1, h2⟩ := h
  exact ⟨cs, fr, hk g _ h1 (fun e => hb (Option.some.inj e)) (fun c fz e => by injection e with _ e2 _; exact neU8I e2), h2⟩
theorem bytes_run3 {P : Program} (s : ByteArray) (hs : P.underlying 9 = some .string) (hd : P.underlying 38 = some (.slice 5)) (he : P.underlying 5 = some (.int .u8)) (hz : s.size ≤ 1048576) :
    ∃ (cp : World → Nat) (mk : World → World), (∀ wx, (convert 9 38 (.string s)).run P wx = .ok (.slice (some ⟨wx.heap.size, 0, none⟩) s.size (cp wx)) (mk wx)) ∧
      ∀ wx, Below wx.heap.size wx (mk wx) ∧ ByB (mk wx) wx.heap.size s ∧ s.size ≤ cp wx ∧ cp wx ≤ maxLen := by
  refine ⟨fun wx => grownCap wx s.size 0 5, fun wx => wx.drew.alloc (.cells (bytesRow s (grownCap wx s.size 0 5)) 5 ((bytesRow s (grownCap wx s.size 0 5)).size, (bytesRow s (grownCap wx s.size 0 5)).size + 1)), fun wx => run_bytes_of_string wx _ _ _ s hs hd he, fun wx => ⟨((Below.refl _ _).drew).alloc (Nat.le_refl _) _, ⟨_, _, heap_alloc_new wx.drew _, fun i hi => ?_⟩, grownCap_ge wx s.size 0 _, grownCap_le_maxLen wx s.size 0 _ (by unfold maxLen; omega)⟩⟩
  rw [bytesRow_at s _ i hi, ← get_bt s i hi]
  rfl
/-- behind a line -/
def LineOut (tt : TypeId) (p : Int → Value) (base b : Nat) (W H : Int) (M : Nat) (y : Nat) (t : ByteArray) (L : List Value) (w0 : World) (e : Ending) (w' : World) : Prop :=
  (t.size ≠ M ∧ e = .returned (erV tt p 2) ∧ Rd base b W H (0 : Nat) y L w0 w') ∨
  (t.size = M ∧ (∀ i, i < M → chF W H i y (bt t i) = 0) ∧ e = .returned .nilIface ∧ Rd base b W H (0 : Nat) ((y : Int) + 1) (lineL W H t y L M) w0 w') ∨
  (t.size = M ∧ ∃ k, k < M ∧ (∀ i, i < k → chF W H i y (bt t i) = 0) ∧ chF W H k y (bt t k) ≠ 0 ∧ e = .returned (erV tt p (chF W H k y (bt t k))) ∧ Rd base b W H k y (lineL W H t y L (k + 1)) w0 w')
theorem owns_blk2 {w w' : World} {base n s : Nat} {e : TypeId} {v : Value} {xs : List Value} (h : w.ownsRow base e s v n xs) (he : ∀ g, v.ownBlock = some g → w'.heap[g]? = w.heap[g]?) : w'.ownsRow base e s v n xs := by
  refine ⟨h.1, ?_⟩
  rcases h.2 with h0 | ⟨g, cap, cur, rfl, hb, hgb, r⟩
  · exact .inl h0
  · exact .inr ⟨g, cap, cur, rfl, hb, (he g rfl).trans hgb, r⟩
theorem Rd.moved {base b : Nat} {W H x y x' y' : Int} {L : List Value} {w0 w w' : World} (h : Rd base b W H x y L w0 w) (f : ∀ u, At w b #[.int .i64 W, .int .i64 H, .int .i64 x, .int .i64 y, u] 105 → At w' b #[.int .i64 W, .int .i64 H, .int .i64 x', .int .i64 y', u] 105) (g : ∀ k, k ≠ b → w'.heap[k]? = w.heap[k]?) (hz : w'.heap.size = w.heap.size) (hb : Below base w w') : Rd base b W H x' y' L w0 w' := by
  obtain ⟨u, h1, h2, h3⟩ := h.at_
  refine ⟨⟨u, f u h1, owns_blk2 h2 (fun k hk => g k (fun e => h3 (by rw [hk, e]))), h3⟩, h.bel.trans hb, h.hb, h.h0⟩
set_option maxHeartbeats 4000000 in
set_option maxRecDepth 100000 in
theorem impl_readLine (w w0 : World) (base b : Nat) (W H : Int) (M : Nat) (y : Nat) (hy : y ≤ 1000) (t : ByteArray) (ht : t.size ≤ 1048576) (L : List Value) (hL : L.length ≤ 10000) (tt : TypeId) (p : Int → Value) (hW : sideB W = true) (hH : sideB H = true) (hM : (M : Int) = 2 * W + 1) (hE : Ers tt p w0) (hEb : ∀ g, g ∈ [1, 3, 4, 5, 6] → g < base) (h : Rd base b W H (0 : Nat) y L w0 w) :
    Calls Tryd.prog 79 #[.pointer (some ⟨b, 0, none⟩), .string t] w (LineOut tt p base b W H M y t L w0) := by
  obtain ⟨cp, mk, hcvt, hmk⟩ := bytes_run3 (P := Tryd.prog) t Tryd.underlying9 Tryd.underlying38 Tryd.underlying5 ht
  obtain ⟨a1, a2⟩ := side_mk hW
  have hM17 : M ≤ 17 := by omega
  obtain ⟨u, hat, hown, hne⟩ := h.at_
  have hbl := hat.lt
  have k0 := hat.cellv (i := 0) rfl
  have HR := Lib.hid h
  have HWs := Lib.hid hW
  have HHs := Lib.hid hH
  have HE := Lib.hid hE
  have HEB := Lib.hid hEb
  have HMm := Lib.hid hM
  clear hat hown hne hW hH hE hEb h hM
  by_cases hsz : t.size = M
  · have e1 : ((t.size : Int) != 2 * W + 1) = false := by rw [bne_eq_false_iff_eq]; have := HMm.out; omega
    obtain ⟨b1, hbb, hc1, hc2⟩ := hmk w
    have hcv0 := hcvt w
    obtain ⟨w1, hw1⟩ : ∃ w1, mk w = w1 := ⟨_, rfl⟩
    obtain ⟨c1, hcc⟩ : ∃ c, cp w = c := ⟨_, rfl⟩
    rw [hw1] at b1 hbb hcv0
    rw [hcc] at hc1 hc2 hcv0
    unfold maxLen at hc2
    have HR1 := Lib.hid (HR.out.below b1)
    have HBy := Lib.hid hbb
    have hgb : w.heap.size ≠ b := by omega
    clear hmk hcvt b1 hbb hw1 hcc
    subst hsz
    go_enter Tryd.func79, Tryd.ntmps79
    go_wp2
    clear k0 e1 hcv0
    generalize hG : w.heap.size = G at *
    have HG := Lib.hid hG
    clear hG
    have HLL : Hid (Rd base b W H ((0 : Nat) : Int) y (lineL W H t y L 0) w0 w1) := Lib.hid HR1.out
    clear HR1
    go_loopw [22] (fun kv wr => ∃ k : Nat, k ≤ t.size ∧ kv = .int .i64 k ∧ Hid (∀ i, i < k → chF W H i y (bt t i) = 0) ∧ Hid (Rd base b W H ((k : Nat) : Int) y (lineL W H t y L k) w0 wr) ∧ Hid (ByB wr G t)) (fun kv _ => t.size - (intOf kv).toNat)
    case atStart => exact ⟨0, Nat.zero_le _, rfl, Lib.hid (fun i hi => absurd hi (Nat.not_lt_zero _)), HLL, HBy⟩
    case round =>
      clear HLL HBy
      obtain ⟨k, hk, rfl, HZ, HRk, HBk⟩ := hrel
      by_cases hlt : k < t.size
      · have hkt : k < t.size := by omega
        have s3 := HBk.out.cell hkt
        have hGl := HBk.out.lt
        have hc0 := bt_nonneg t k
        have hc255 := bt_le t k
        have hln := lineL_len W H t y L k
        obtain ⟨q, hq⟩ : ∃ q, chF W H k y (bt t k) = q := ⟨_, rfl⟩
        have hqb := chF_bd W H k y (bt t k)
        rw [hq] at hqb
        have HS := Lib.hid (impl_readSign wr w0 base b W H k y (bt t k) hc0 hc255 (lineL W H t y L k) (by omega) tt p HWs.out HHs.out HE.out HEB.out HRk.out)
        unfold SignOut at HS
        rw [hq] at HS
        have HQ := Lib.hid hq
        clear hq
        go_wp2_with fail
        refine HS.out.mono ?_
        rintro e w6 ⟨rfl, hr6, ho6⟩
        have HR6 := Lib.hid hr6
        have HB6 := Lib.hid (HBk.out.others ho6 hgb)
        clear hr6 ho6 HS s3
        by_cases hq0 : q = 0
        · subst hq0
          obtain ⟨u6, hat, -, -⟩ := HR6.out.at_
          have hbl6 := hat.lt
          have d2 : w6.cell? ⟨b, 2, none⟩ = some (.int .i64 (k : Int)) := hat.cellv (i := 2) rfl
          have f2 := hat.frozen 2
          clear hat
          have hev : erV tt p 0 = .nilIface := rfl
          rw [hev]
          go_wp2
          go_roundw
          case rel =>
            refine ⟨k + 1, by omega, by go_num, Lib.hid (fun i hi => ?_), Lib.hid ?_, Lib.hid ?_⟩
            · rcases Nat.lt_succ_iff_lt_or_eq.1 hi with h | rfl
              · exact HZ.out i h
              · exact HQ.out
            · show Rd base b W H (((k + 1 : Nat)) : Int) y (lineL W H t y L (k + 1)) w0 _
              refine HR6.out.moved (fun u h => ?_) (fun k' hk' => Below.heap_setCell _ _ _ _ (fun e => hk' e)) (by simp [World.setCell]) ((Below.refl base _).setCell (p := ⟨b, 2, none⟩) HR6.out.hb _)
              have h2 := h.set 2 (.int .i64 ((k : Int) + 1))
              simpa using h2
            · exact HB6.out.others ((Lib.OthersKept.refl _ _ _).setCell ⟨b, 2, none⟩ rfl _) hgb
          case measure => simp [intOf]; omega
        · have hev : erV tt p q = .iface tt (p q) := if_neg hq0
          rw [hev]
          have HEV := Lib.hid hev
          clear hev
          go_wp2
          go_ret
          exact .inr (.inr ⟨rfl, k, hlt, HZ.out, by rw [HQ.out]; exact hq0, by rw [HQ.out, HEV.out]; rfl, HR6.out⟩)
      · obtain rfl : k = t.size := by omega
        obtain ⟨uk, hat, -, -⟩ := HRk.out.at_
        have hblk := hat.lt
        have d2 : wr.cell? ⟨b, 2, none⟩ = some (.int .i64 ((t.size : Nat) : Int)) := hat.cellv (i := 2) rfl
        have d3 : wr.cell? ⟨b, 3, none⟩ = some (.int .i64 (y : Int)) := hat.cellv (i := 3) rfl
        have f2 := hat.frozen 2
        have f3 := hat.frozen 3
        clear hat
        go_wp2
        go_ret
        refine .inr (.inl ⟨rfl, HZ.out, rfl, ?_⟩)
        refine HRk.out.moved (fun u h => ?_) (fun k' hk' => ?_) (by simp [World.setCell]) (((Below.refl base _).setCell (p := ⟨b, 2, none⟩) HRk.out.hb _).setCell (p := ⟨b, 3, none⟩) HRk.out.hb _)
        · have h2 := (h.set 2 (.int .i64 0)).set 3 (.int .i64 ((y : Int) + 1))
          simpa using h2
        · rw [Below.heap_setCell _ _ _ _ (fun e => hk' e), Below.heap_setCell _ _ _ _ (fun e => hk' e)]
  · have e1 : ((t.size : Int) != 2 * W + 1) = true := bne_iff_ne.2 (by have := HMm.out; omega)
    have e3 := cell_be HE.out.e2 HR.out.bel (HEB.out _ (by simp))
    have e3z : 3 < w.heap.size := World.block_lt_of_cell? _ _ e3
    clear hmk hcvt
    go_enter Tryd.func79, Tryd.ntmps79
    go_wp2
    go_ret
    exact .inl ⟨hsz, rfl, HR.out⟩
end Go.Proofs.YtdofeonkgaceeacDoor.Base
