/-
  PassesText: the text of a list of passes; the model's and the program's.
-/
import Derived.Test.YtbpdjmjkjiddjaaDoorQps
import Derived.Test.YtbpdjmjkjiddjaaDoorDcs
import Derived.Test.YtbpdjmjkjiddjaaDoorDci
import Derived.Test.YtbpdjmjkjiddjaaDoorShf
import Derived.Test.YtbpdjmjkjiddjaaDoorSpt
import Derived.Lib.Join
import Derived.OwnWalk
import Derived.Laws.AppendOwn
import Derived.Deep.AppendLies
namespace Go.Proofs.YtbpdjmjkjiddjaaDoor.Base
open Go Go.RowKit
set_option linter.unusedVariables false
set_option linter.unusedSimpArgs false

/-- the sign of pass k, as a byte -/
def psB (g : Nat → Int) (k : Nat) : UInt8 := if g (k * 2 + 1) != 0 then 43 else 45
/-- pass k -/
def psE (g : Nat → Int) (k : Nat) : List UInt8 := psB g k :: Lib.itoa (g (k * 2))
/-- the first k passes with blanks between them -/
def pxL (g : Nat → Int) : Nat → List UInt8
  | 0 => []
  | k + 1 => (if k = 0 then [] else pxL g k ++ [32]) ++ psE g k
def pxS (g : Nat → Int) (k : Nat) : ByteArray := ⟨(pxL g k).toArray⟩
theorem px_first (g : Nat → Int) {b : UInt8} (hb : psB g 0 = b) : pxS g 1 = (⟨#[]⟩ ++ ⟨#[b]⟩) ++ decS (g 0) := by
  apply ByteArray.ext
  simp [ByteArray.data_append, pxS, pxL, psE, decS, hb]
theorem px_next (g : Nat → Int) {k : Nat} (h : 0 < k) {b : UInt8} (hb : psB g k = b) : pxS g (k + 1) = ((pxS g k ++ ⟨#[32]⟩) ++ ⟨#[b]⟩) ++ decS (g (k * 2)) := by
  apply ByteArray.ext
  have : ¬ k = 0 := by omega
  simp [ByteArray.data_append, pxS, pxL, psE, decS, this, hb]
theorem wf_bd {z : Int} (h : (Lit.int .i64 z).wf = true) : -9223372036854775808 ≤ z ∧ z ≤ 9223372036854775807 := i64_bd h
theorem psE_len (g : Nat → Int) {k : Nat} (h : (Lit.int .i64 (g (k * 2))).wf = true) : (psE g k).length ≤ 22 := by
  obtain ⟨h1, h2⟩ := wf_bd h
  have := Lib.itoa_length_le (g (k * 2)) h1 h2
  simp [psE]
  omega
theorem px_len (g : Nat → Int) {n : Nat} (hw : ∀ i, i < n → (Lit.int .i64 (g (i * 2))).wf = true) : ∀ k, k ≤ n → (pxL g k).length ≤ 23 * k
  | 0, _ => Nat.le_refl _
  | k + 1, h => by
    have h1 := px_len g hw k (by omega)
    have h2 := psE_len g (hw k (by omega))
    rw [pxL]
    split <;> simp <;> omega
theorem px_join (g : Nat → Int) : ∀ k, Lib.join ((List.range (k + 1)).map fun i => psE g i) [32] = pxL g (k + 1)
  | 0 => by simp [Lib.join_one, pxL]
  | k + 1 => by
    have ih := px_join g k
    rw [List.range_succ, List.map_append]
    have hne : (List.range (k + 1)).map (fun i => psE g i) = psE g 0 :: ((List.range k).map fun i => psE g (i + 1)) := by
      rw [List.range_succ_eq_map]; simp [Function.comp_def]
    rw [hne] at ih ⊢
    rw [List.cons_append, Lib.join_cons]
    rw [Lib.join_cons] at ih
    have : Lib.joinTail [32] (((List.range k).map fun i => psE g (i + 1)) ++ [psE g (k + 1)]) = Lib.joinTail [32] ((List.range k).map fun i => psE g (i + 1)) ++ ([32] ++ psE g (k + 1)) := by simp [Lib.joinTail]
    rw [show List.map (fun i => psE g i) [k + 1] = [psE g (k + 1)] from rfl, this, ← List.append_assoc, ih]
    show _ = (if k + 1 = 0 then [] else pxL g (k + 1) ++ [32]) ++ psE g (k + 1)
    rw [if_neg (by omega)]
    simp
/-- the passes as texts -/
def pxT (g : Nat → Int) (k : Nat) : ByteArray := ⟨(psE g k).toArray⟩
def pxW (g : Nat → Int) (k : Nat) : List ByteArray := (List.range k).map fun i => pxT g i
theorem pxW_len (g : Nat → Int) (k : Nat) : (pxW g k).length = k := by simp [pxW]
theorem pxW_succ (g : Nat → Int) (k : Nat) : (pxW g (k + 1)).map Value.string = (pxW g k).map Value.string ++ [.string (pxT g k)] := by simp [pxW, List.range_succ]
theorem pxW_join (g : Nat → Int) (k : Nat) : Lib.join ((pxW g (k + 1)).map (·.data.toList)) [32] = pxL g (k + 1) := by
  rw [← px_join]
  simp [pxW, pxT, Function.comp_def]
theorem pxT_is (g : Nat → Int) {k : Nat} {b : UInt8} (hb : psB g k = b) : pxT g k = ⟨#[b]⟩ ++ decS (g (k * 2)) := by
  apply ByteArray.ext
  simp [ByteArray.data_append, pxT, psE, decS, hb]
set_option maxHeartbeats 2000000 in
theorem spec_passesText (w : World) (A : Option Addr) (n c : Nat) (g : Nat → Int) (hr : RowP w A n c g) (hn : n ≤ 1048576) :
    Calls Tryd.prog 10 #[.slice A n c] w (Gives (.string (pxS g n)) w) := by
  have HR := Lib.hid hr
  have HWF := Lib.hid hr.2.2.1
  clear hr
  go_enter Tryd.func10, Tryd.ntmps10
  go_wp2
  go_loopw [3, 4] (fun sv kv wr => ∃ k : Nat, k ≤ n ∧ kv = .int .i64 k ∧ sv = .string (pxS g k) ∧ Hid (Below w.heap.size w wr)) (fun _ kv _ => n - (intOf kv).toNat)
  case atStart => exact ⟨0, Nat.zero_le _, rfl, rfl, Lib.hid (Below.refl _ _)⟩
  case round =>
    obtain ⟨k, hk, rfl, rfl, HB⟩ := hrel
    by_cases hlt : k < n
    · obtain ⟨b, o, rfl, hbl, c0, m1⟩ := (HR.out.below HB.out (Nat.le_refl _)).two hlt
      obtain ⟨z, hz⟩ : ∃ z, g (k * 2) = z := ⟨_, rfl⟩
      obtain ⟨v, hv⟩ : ∃ v, (g (k * 2 + 1) != 0) = v := ⟨_, rfl⟩
      obtain ⟨zl, zh⟩ := wf_bd (HWF.out k hlt)
      have hd := Lib.itoa_length_le (g (k * 2)) zl zh
      have hd1 : (decS (g (k * 2))).size ≤ 21 := by simpa [decS, ByteArray.size] using hd
      have hl := px_len g HWF.out k hk
      have hl1 : (pxS g k).size ≤ 23 * k := by simpa [pxS, ByteArray.size] using hl
      have hq1 : (⟨#[32]⟩ : ByteArray).size = 1 := rfl
      have hq2 : (⟨#[43]⟩ : ByteArray).size = 1 := rfl
      have hq3 : (⟨#[45]⟩ : ByteArray).size = 1 := rfl
      have hl2 : (pxS g k ++ ⟨#[32]⟩).size ≤ 23 * k + 1 := by rw [ByteArray.size_append]; omega
      have hl3 : ((pxS g k ++ ⟨#[32]⟩) ++ ⟨#[43]⟩).size ≤ 23 * k + 2 := by rw [ByteArray.size_append]; omega
      have hl4 : ((pxS g k ++ ⟨#[32]⟩) ++ ⟨#[45]⟩).size ≤ 23 * k + 2 := by rw [ByteArray.size_append]; omega
      have hl5 : ((⟨#[]⟩ : ByteArray) ++ ⟨#[43]⟩).size ≤ 1 := by rw [ByteArray.size_append]; exact Nat.le_refl _
      have hl6 : ((⟨#[]⟩ : ByteArray) ++ ⟨#[45]⟩).size ≤ 1 := by rw [ByteArray.size_append]; exact Nat.le_refl _
      have hsb : psB g k = if v then 43 else 45 := by unfold psB; rw [hv]
      rw [hv] at m1
      rw [hz] at c0 zl zh hd1
      have HZ := Lib.hid hz
      clear hz hv hd hl
      by_cases h0 : k = 0
      · subst h0
        have hp0 : pxS g 0 = ⟨#[]⟩ := rfl
        cases v
        all_goals
          have HE := Lib.hid (px_first g hsb)
          rw [show g 0 = z from HZ.out] at HE
          clear hsb
          simp only [Nat.zero_mul, Nat.add_zero] at c0 m1
          rw [hp0]
          clear hp0
          go_wp2_with fail
          refine (spec_l01Dec z zl zh wr).mono ?_
          rintro e w2 ⟨rfl, b2⟩
          have HB2 := Lib.hid (HB.out.trans (b2.mono HB.out.size))
          clear b2
          go_wp2
          go_roundw
          case rel => exact ⟨1, by omega, by go_num, by rw [HE.out]; rfl, HB2⟩
          case measure => simp [intOf]; omega
      · have hk0 : (0 : Int) < (k : Int) := by omega
        cases v
        all_goals
          have HE := Lib.hid (px_next g (k := k) (by omega) hsb)
          rw [HZ.out] at HE
          clear hsb
          go_wp2_with fail
          refine (spec_l01Dec z zl zh wr).mono ?_
          rintro e w2 ⟨rfl, b2⟩
          have HB2 := Lib.hid (HB.out.trans (b2.mono HB.out.size))
          clear b2
          go_wp2
          go_roundw
          case rel => exact ⟨k + 1, by omega, by go_num, by rw [HE.out]; rfl, HB2⟩
          case measure => simp [intOf]; omega
    · obtain rfl : k = n := by omega
      go_wp2
      go_ret
      exact ⟨rfl, HB.out⟩
theorem sign_any (w : World) (z : Int) (v : Bool) : Calls Tryd.prog 50 #[.agg #[.int .i64 z, .bool v]] w (Gives (.string ⟨#[if v then 43 else 45]⟩) w) := by
  have HL := Lib.hid (show Below w.heap.size w (w.alloc (.cells #[.int .i64 z, .bool v] 67)) from (Below.refl _ _).alloc (Nat.le_refl _) _)
  cases v
  all_goals
    go_enter Tryd.func50, Tryd.ntmps50
    go_wp2
    go_ret
    exact ⟨rfl, HL.out⟩
theorem join_px (w : World) (base : Nat) (Ao : Option Addr) (co k : Nat) (g : Nat → Int) (hu : w.ownsRow base 9 1 (.slice Ao k co) k ((pxW g k).map Value.string)) (hne : k = 0 → Value.slice Ao k co ≠ .slice none 0 0) (hm : k ≤ 1048576) (hl : (pxL g k).length ≤ 23 * k) :
    Calls Tryd.prog 52 #[.slice Ao k co, .string ⟨#[32]⟩] w (Gives (.string (pxS g k)) w) := by
  have hll := pxW_len g k
  have hj : Lib.join ((pxW g k).map (·.data.toList)) [32] = pxL g k := by
    cases k with
    | zero => rfl
    | succ k => exact pxW_join g k
  rcases hu.2 with ⟨e, e'⟩ | ⟨b, cap, cur, e, hg0, hg, hnc2, hcm2, hcs, ht⟩
  · exact absurd e (hne e')
  · injection e with e1 e2 e3
    subst e1 e3
    have h := Tryd.strings_Join b 0 co (pxW g k) ⟨#[32]⟩ w (fun j x hx => by
      have hjl : j < k := by
        rcases Nat.lt_or_ge j k with q | q
        · exact q
        · rw [List.getElem?_eq_none (by rw [hll]; exact q)] at hx; cases hx
      rw [Nat.zero_add, hu.cellAt j (by omega), List.getElem?_map, hx]
      rfl) (Array.getElem?_eq_some_iff.1 hg).1 (by rw [hll]; omega) (by rw [hll]; exact hnc2) (by
      have e5 : (⟨#[32]⟩ : ByteArray).data.toList = [32] := rfl
      rw [e5, hj]; omega)
    rw [hll] at h
    have e5 : (⟨#[32]⟩ : ByteArray).data.toList = [32] := rfl
    rw [e5, hj] at h
    exact h
set_option maxHeartbeats 4000000 in
set_option maxRecDepth 100000 in
theorem impl_passesText (w : World) (A : Option Addr) (n c : Nat) (g : Nat → Int) (hr : RowP w A n c g) (hn : n ≤ 1048576) (hT : Lib.TabIs Tryd.prog w "internal/strconv.uint64pow10" .u64 Lib.pow10Tab) :
    Calls Tryd.prog 12 #[.slice A n c] w (Gives (.string (pxS g n)) w) := by
  have HR := Lib.hid hr
  have HT := Lib.hid hT
  have HWF := Lib.hid hr.2.2.1
  clear hr hT
  obtain ⟨i2, hi2, hz0, hz1, hz2⟩ := info_parts infoStr
  go_enter Tryd.func12, Tryd.ntmps12
  go_wp2_with (first
    | (at_make; refine wpList_make_own _ rfl (.const (.int .i64 0)) (.tmp 7) 74 rfl w.heap.size 9 i2 _ 1 Tryd.underlying74 hi2 hz0 hz1 .i64 .i64 (n : Int) n (by rfl) (by rfl) (by rfl) (by rw [hz2]; omega) (by unfold maxLen; omega) (Nat.le_refl _) ?_; intro w4 hown4 hgrow4; have HO1 := Lib.hid hown4; have HB1 : Hid (Below w.heap.size w w4) := Lib.hid ((Below.refl _ _).grown hgrow4 (Nat.le_refl _) (fun b e => by cases e)); clear hown4 hgrow4))
  go_loopw [3, 11] (fun u kv wr => ∃ k : Nat, k ≤ n ∧ kv = .int .i64 k ∧ Hid (wr.ownsRow w.heap.size 9 1 u k ((pxW g k).map Value.string)) ∧ Hid (k = 0 → u ≠ .slice none 0 0) ∧ Hid (Below w.heap.size w wr)) (fun _ kv _ => n - (intOf kv).toNat)
  case atStart => exact ⟨0, Nat.zero_le _, rfl, HO1, Lib.hid (fun _ h => by cases h), HB1⟩
  case round =>
    clear HO1 HB1
    obtain ⟨k, hk, rfl, HU, HNE, HB⟩ := hrel
    obtain ⟨Ao, co, rfl⟩ := sp_slice HU.out
    have hB := HB.out.size
    by_cases hlt : k < n
    · obtain ⟨b, o, rfl, hbl, c0, m1⟩ := (HR.out.below HB.out (Nat.le_refl _)).two hlt
      obtain ⟨z, hz⟩ : ∃ z, g (k * 2) = z := ⟨_, rfl⟩
      obtain ⟨v, hv⟩ : ∃ v, (g (k * 2 + 1) != 0) = v := ⟨_, rfl⟩
      obtain ⟨zl, zh⟩ := i64_bd (HWF.out k hlt)
      have hd := Lib.itoa_length_le (g (k * 2)) zl zh
      have hd1 : (decS (g (k * 2))).size ≤ 21 := by simpa [decS, ByteArray.size] using hd
      have HTX := Lib.hid (pxT_is g (k := k) (b := if v then 43 else 45) (by unfold psB; rw [hv]))
      rw [hv] at m1
      rw [hz] at c0 zl zh hd1 HTX
      obtain ⟨ds, hds⟩ : ∃ ds, decS z = ds := ⟨_, rfl⟩
      have HDC := Lib.hid (fun (w9 : World) (h9 : Lib.TabIs Tryd.prog w9 "internal/strconv.uint64pow10" .u64 Lib.pow10Tab) => (by have h := impl_decimal z zl zh w9 h9; rw [hds] at h; exact h : Calls Tryd.prog 51 #[.int .i64 z] w9 (Gives (.string ds) w9)))
      rw [hds] at HTX hd1
      have HSG := Lib.hid (fun (w9 : World) => sign_any w9 z v)
      obtain ⟨sg, hsg⟩ : ∃ sg : ByteArray, (⟨#[if v then 43 else 45]⟩ : ByteArray) = sg := ⟨_, rfl⟩
      have hsz1 : sg.size ≤ 1 := by rw [← hsg]; exact Nat.le_refl _
      rw [hsg] at HSG HTX
      have hsum : sg.size + ds.size ≤ 9223372036854775807 := by omega
      have hsum2 : ¬ 9223372036854775807 < sg.size + ds.size := by omega
      have hs8a : (sg.size : Int) ≤ 8388608 := by omega
      have hs8b : (ds.size : Int) ≤ 8388608 := by omega
      have HTr := Lib.hid (tab_below HT.out HB.out)
      have BN := (Below.refl wr.heap.size wr).alloc (Nat.le_refl _) (.cells #[.int .i64 z, .bool v] 67)
      have HX := Lib.hid (Cel.new wr [.int .i64 z, .bool v] 67)
      have HBX := Lib.hid BN
      have HTX2 := Lib.hid (tab_below HTr.out BN)
      have HUX := Lib.hid (sp_below HU.out BN)
      have HFar := Lib.hid (fun b e => (HU.out.lt b e).2)
      clear hz hv hd hds hsg BN
      go_wp2
      generalize wr.alloc (.cells #[.int .i64 z, .bool v] 67) = wx at *
      have hbx : w.heap.size ≤ wr.heap.size := hB
      have hzx := HX.out.1
      generalize hbq : wr.heap.size = bx at *
      have p0 := HX.out.2 0 _ rfl
      have p1 := HX.out.2 1 _ rfl
      go_region_held3 (fun w' => w'.cell? ⟨bx, 0, none⟩ = some (.int .i64 z) ∧ w'.cell? ⟨bx, 1, none⟩ = some (.bool v))
        (first | exact ⟨r0, r1⟩ | exact ⟨q0, q1⟩ | exact ⟨t0, t1⟩ | go_keep | (simp [go_sem]; done))
        (first | (go_at_call 50; refine (HSG.out _).mono ?_; rintro e wa ⟨rfl, ba⟩; have HA := Lib.hid ((Below.refl wx.heap.size wx).drew.trans ba); have KA := Lib.hid (HX.out.below HA.out HX.out.1); have q0 := KA.out.2 0 _ rfl; have q1 := KA.out.2 1 _ rfl; clear ba) | (go_at_call 51; refine (HDC.out _ (tab_below HTX2.out HA.out)).mono ?_; rintro e wb ⟨rfl, bb⟩; have HA2 := Lib.hid (HA.out.trans (bb.mono HA.out.size)); have KA2 := Lib.hid (HX.out.below HA2.out HX.out.1); have r0 := KA2.out.2 0 _ rfl; have r1 := KA2.out.2 1 _ rfl; have hXa := Lib.hid ((Below.refl wb.heap.size wb).alloc (Nat.le_refl _) (.cells #[.string (sg ++ ds)] 9)); have hz2b := HA2.out.size; clear bb) | (refine step_append_lies _ (by rfl) _ _ _ (by rfl) w.heap.size 9 i2 _ 1 16 Tryd.underlying74 hi2 hz0 hz1 hz2 rfl (by omega) (.slice Ao k co) k ((pxW g k).map Value.string) (by rfl) (by first | exact (sp_below (sp_below HUX.out HA2.out) hXa.out).drew | exact sp_below (sp_below HUX.out HA2.out) hXa.out) ⟨wb.heap.size, 0, none⟩ 1 1 [.string (sg ++ ds)] (by rfl) (by rfl) (World.news_of_block (cs := #[.string (sg ++ ds)]) (t := 9) (fr := (0, 0)) (heap_alloc_new wb _)) (fun u hu => by simp at hu; subst hu; rfl) (by omega) (by unfold maxLen; omega) (by omega) (by simp; omega) (wb.heap.size + 1) (by simp) ?_; intro g6 cap6 w6 hown6 hgrow6 hat6 hlt6; have KC := Lib.hid ((KA2.out.below hXa.out KA2.out.1).grownR hgrow6 (fun e => Nat.lt_irrefl _ (HFar.out bx e))); have t0 := KC.out.2 0 _ rfl; have t1 := KC.out.2 1 _ rfl; have HOW := Lib.hid hown6; have HGR := Lib.hid hgrow6; clear hown6 hgrow6 hat6))
      go_wp2
      go_roundw
      case rel =>
        have y1 := HBX.out.size
        have y2 := HA2.out.size
        have y3 := hXa.out.size
        refine ⟨k + 1, by omega, by go_num, Lib.hid ?_, Lib.hid (fun h => absurd h (by omega)), Lib.hid ((((HB.out.trans (HBX.out.mono hbx)).trans (HA2.out.mono (by omega))).trans (hXa.out.mono (by omega))).grown HGR.out (by omega) (fun b e => (HUX.out.lt b e).1))⟩
        rw [pxW_succ, HTX.out]
        exact HOW.out
      case measure => simp [intOf]; omega
    · obtain rfl : k = n := by omega
      have HC2 := Lib.hid (join_px wr w.heap.size Ao co k g HU.out HNE.out hn (px_len g HWF.out k (Nat.le_refl _)))
      go_wp2_with fail
      refine HC2.out.mono ?_
      rintro e w2 ⟨rfl, b2⟩
      go_wp2
      go_ret
      exact ⟨rfl, HB.out.trans (b2.mono hB)⟩
end Go.Proofs.YtbpdjmjkjiddjaaDoor.Base
