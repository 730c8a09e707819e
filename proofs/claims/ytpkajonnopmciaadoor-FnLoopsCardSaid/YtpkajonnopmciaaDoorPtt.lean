/-
  PairingText, the model's and the program's.
-/
import Derived.Test.YtpkajonnopmciaaDoorPrc
import Derived.Test.YtpkajonnopmciaaDoorDcs
import Derived.Test.YtpkajonnopmciaaDoorShf
import Derived.Test.YtpkajonnopmciaaDoorSpt
import Derived.Lib.Join
import Derived.OwnWalk
import Derived.Laws.AppendOwn
import Derived.Deep.AppendLies
namespace Go.Proofs.YtpkajonnopmciaaDoor.Base
open Go Go.RowKit
set_option linter.unusedVariables false
set_option linter.unusedSimpArgs false

/-- the first k numbers with commas between them -/
def ptx (f : Nat → Int) : Nat → List UInt8
  | 0 => []
  | k + 1 => (if k = 0 then [] else ptx f k ++ [44]) ++ Lib.itoa (f k)
def ptS (f : Nat → Int) (k : Nat) : ByteArray := ⟨(ptx f k).toArray⟩
noncomputable def ptT (n : Nat) (f : Nat → Int) : ByteArray := if paB n f then ptS f n else ⟨#[]⟩
theorem ptt_first (f : Nat → Int) : ptS f 1 = ⟨#[]⟩ ++ decS (f 0) := by
  apply ByteArray.ext
  simp [ByteArray.data_append, ptS, ptx, decS]
theorem ptt_next (f : Nat → Int) {k : Nat} (h : 0 < k) : ptS f (k + 1) = (ptS f k ++ ⟨#[44]⟩) ++ decS (f k) := by
  apply ByteArray.ext
  have : ¬ k = 0 := by omega
  simp [ByteArray.data_append, ptS, ptx, decS, this]
theorem ptt_len (f : Nat → Int) (n : Nat) (hf : ∀ i, i < n → 0 ≤ f i ∧ f i ≤ 100) : ∀ k, k ≤ n → (ptx f k).length ≤ 22 * k
  | 0, _ => Nat.le_refl _
  | k + 1, h => by
    have h1 := ptt_len f n hf k (by omega)
    have h3 := hf k (by omega)
    have h2 := Lib.itoa_length_le (f k) (by omega) (by omega)
    rw [ptx]
    split <;> simp <;> omega
theorem ptt_join (f : Nat → Int) : ∀ k, Lib.join ((List.range (k + 1)).map fun i => Lib.itoa (f i)) [44] = ptx f (k + 1)
  | 0 => by simp [Lib.join_one, ptx]
  | k + 1 => by
    have ih := ptt_join f k
    rw [List.range_succ, List.map_append]
    have hne : (List.range (k + 1)).map (fun i => Lib.itoa (f i)) = Lib.itoa (f 0) :: ((List.range k).map fun i => Lib.itoa (f (i + 1))) := by
      rw [List.range_succ_eq_map]; simp [Function.comp_def]
    rw [hne] at ih ⊢
    rw [List.cons_append, Lib.join_cons]
    rw [Lib.join_cons] at ih
    have : Lib.joinTail [44] (((List.range k).map fun i => Lib.itoa (f (i + 1))) ++ [Lib.itoa (f (k + 1))]) = Lib.joinTail [44] ((List.range k).map fun i => Lib.itoa (f (i + 1))) ++ ([44] ++ Lib.itoa (f (k + 1))) := by simp [Lib.joinTail]
    rw [show List.map (fun i => Lib.itoa (f i)) [k + 1] = [Lib.itoa (f (k + 1))] from rfl, this, ← List.append_assoc, ih]
    show _ = (if k + 1 = 0 then [] else ptx f (k + 1) ++ [44]) ++ Lib.itoa (f (k + 1))
    rw [if_neg (by omega)]
    simp
/-- numbers as texts -/
def dcL (f : Nat → Int) (k : Nat) : List ByteArray := (List.range k).map fun i => decS (f i)
theorem dcL_len (f : Nat → Int) (k : Nat) : (dcL f k).length = k := by simp [dcL]
theorem dcL_succ (f : Nat → Int) (k : Nat) : (dcL f (k + 1)).map Value.string = (dcL f k).map Value.string ++ [.string (decS (f k))] := by simp [dcL, List.range_succ]
theorem dcL_join (f : Nat → Int) (k : Nat) : Lib.join ((dcL f (k + 1)).map (·.data.toList)) [44] = ptx f (k + 1) := by
  rw [← ptt_join]
  simp [dcL, decS, Function.comp_def]
theorem itoa_nat (i : Nat) : Lib.itoa (i : Int) = Lib.decDigits i := by unfold Lib.itoa; rw [if_neg (by omega), Int.toNat_natCast]
theorem impl_decimal_small (i : Nat) (hi : i < 100) (w : World) : Calls Tryd.prog 16 #[.int .i64 (i : Int)] w (Gives (.string (decS i)) w) := by
  go_enter Tryd.func16, Tryd.ntmps16
  go_wp2_with fail
  refine (Tryd.strconv_FormatInt_10_small i hi _).mono ?_
  rintro e w' ⟨rfl, rfl⟩
  go_wp2
  go_ret
  exact ⟨by rw [decS, itoa_nat]; rfl, Below.refl _ _⟩
set_option maxHeartbeats 2000000 in
theorem spec_pairingText (w : World) (A : Option Addr) (n c : Nat) (f : Nat → Int) (hr : Row .i64 w A n c f) :
    Calls Tryd.prog 5 #[.slice A n c] w (Gives (.string (ptT n f)) w) := by
  have HR := Lib.hid hr
  cases hv : paB n f
  · have e1 : ptT n f = ⟨#[]⟩ := by simp [ptT, hv]
    rw [e1]
    have HC := Lib.hid (okP_is hv hr)
    clear hr hv e1
    go_enter Tryd.func5, Tryd.ntmps5
    go_wp2_with fail
    refine HC.out.mono ?_
    rintro e w1 ⟨rfl, b1⟩
    go_wp2
    go_ret
    exact ⟨rfl, b1⟩
  · have e1 : ptT n f = ptS f n := by simp [ptT, hv]
    rw [e1]
    have HC := Lib.hid (okP_is hv hr)
    obtain ⟨n1, n2, hp⟩ := pa_yes hv
    have HP := Lib.hid hp
    clear hr hv hp e1
    go_enter Tryd.func5, Tryd.ntmps5
    go_wp2_with fail
    refine HC.out.mono ?_
    rintro e w1 ⟨rfl, b1⟩
    have HB1 := Lib.hid b1
    clear b1 HC
    go_wp2
    go_loopw [3, 4] (fun sv kv wr => ∃ k : Nat, k ≤ n ∧ kv = .int .i64 k ∧ sv = .string (ptS f k) ∧ Hid (Below w.heap.size w wr)) (fun _ kv _ => n - (intOf kv).toNat)
    case atStart => exact ⟨0, Nat.zero_le _, rfl, rfl, HB1⟩
    case round =>
      clear HB1
      obtain ⟨k, hk, rfl, rfl, HB⟩ := hrel
      by_cases hlt : k < n
      · obtain ⟨b, o, rfl, hbl, hc⟩ := (HR.out.below HB.out (Nat.le_refl _)).2.2.2 (by omega)
        have hck := hc k hlt
        have hfk := HP.out.pars k hlt
        have hd := Lib.itoa_length_le (f k) (by omega) (by omega)
        have hd1 : (decS (f k)).size ≤ 21 := by simpa [decS, ByteArray.size] using hd
        have hl := ptt_len f n (fun i hi => by have := HP.out.pars i hi; omega) k (by omega)
        have hl1 : (ptS f k).size ≤ 22 * k := by simpa [ptS, ByteArray.size] using hl
        have hc1 : (⟨#[44]⟩ : ByteArray).size = 1 := rfl
        have hl2 : (ptS f k ++ ⟨#[44]⟩).size ≤ 22 * k + 1 := by rw [ByteArray.size_append]; omega
        clear hc hd hl
        by_cases h0 : k = 0
        · subst h0
          have HE := Lib.hid (ptt_first f)
          simp only [Nat.add_zero] at hck
          have hz1 : (ptS f 0).size = 0 := rfl
          go_wp2_with fail
          refine (spec_l01Dec (f 0) (by omega) (by omega) wr).mono ?_
          rintro e w2 ⟨rfl, b2⟩
          have HB2 := Lib.hid (HB.out.trans (b2.mono HB.out.size))
          clear b2
          go_wp2
          go_roundw
          case rel => exact ⟨1, by omega, by go_num, by rw [HE.out]; rfl, HB2⟩
          case measure => simp [intOf]; omega
        · have HE := Lib.hid (ptt_next f (k := k) (by omega))
          have hk0 : (0 : Int) < (k : Int) := by omega
          go_wp2_with fail
          refine (spec_l01Dec (f k) (by omega) (by omega) wr).mono ?_
          rintro e w2 ⟨rfl, b2⟩
          have HB2 := Lib.hid (HB.out.trans (b2.mono HB.out.size))
          clear b2
          go_wp2
          go_roundw
          case rel => exact ⟨k + 1, by omega, by go_num, by rw [HE.out], HB2⟩
          case measure => simp [intOf]; omega
      · obtain rfl : k = n := by omega
        go_wp2
        go_ret
        exact ⟨rfl, HB.out⟩
theorem join_call (w : World) (base : Nat) (Ao : Option Addr) (co : Nat) (f : Nat → Int) (m : Nat) (hu : w.ownsRow base 9 1 (.slice Ao (m + 1) co) (m + 1) ((dcL f (m + 1)).map Value.string)) (hm : m + 1 ≤ 16) (hl : (ptx f (m + 1)).length ≤ 22 * (m + 1)) :
    Calls Tryd.prog 17 #[.slice Ao (m + 1) co, .string ⟨#[44]⟩] w (Gives (.string (ptS f (m + 1))) w) := by
  have hll := dcL_len f (m + 1)
  have hj := dcL_join f m
  rcases hu.2 with ⟨e, e'⟩ | ⟨g, cap, cur, e, hg0, hg, hnc2, hcm2, hcs, ht⟩
  · cases e'
  · injection e with e1 e2 e3
    subst e1 e3
    have h := Tryd.strings_Join g 0 co (dcL f (m + 1)) ⟨#[44]⟩ w (fun j x hx => by
      have hjl : j < m + 1 := by
        rcases Nat.lt_or_ge j (m + 1) with q | q
        · exact q
        · rw [List.getElem?_eq_none (by rw [hll]; exact q)] at hx; cases hx
      rw [Nat.zero_add, hu.cellAt j (by omega), List.getElem?_map, hx]
      rfl) (Array.getElem?_eq_some_iff.1 hg).1 (by rw [hll]; omega) (by rw [hll]; exact hnc2) (by
      have e5 : (⟨#[44]⟩ : ByteArray).data.toList = [44] := rfl
      rw [e5, hj]; omega)
    rw [hll] at h
    have e5 : (⟨#[44]⟩ : ByteArray).data.toList = [44] := rfl
    rw [e5, hj] at h
    exact h
set_option maxHeartbeats 4000000 in
set_option maxRecDepth 100000 in
theorem impl_pairingText (w : World) (A : Option Addr) (n c : Nat) (f : Nat → Int) (hr : Row .i64 w A n c f) :
    Calls Tryd.prog 7 #[.slice A n c] w (Gives (.string (ptT n f)) w) := by
  have HR := Lib.hid hr
  cases hv : paB n f
  · have e1 : ptT n f = ⟨#[]⟩ := by simp [ptT, hv]
    rw [e1]
    have HC := Lib.hid (isPairing_is hv hr)
    clear hr hv e1
    go_enter Tryd.func7, Tryd.ntmps7
    go_wp2_with fail
    refine HC.out.mono ?_
    rintro e w1 ⟨rfl, b1⟩
    go_wp2
    go_ret
    exact ⟨rfl, b1⟩
  · have e1 : ptT n f = ptS f n := by simp [ptT, hv]
    rw [e1]
    have HC := Lib.hid (isPairing_is hv hr)
    obtain ⟨n1, n2, hp⟩ := pa_yes hv
    have HP := Lib.hid hp
    have hcm := HR.out.2.1
    have hnc := HR.out.1
    unfold maxLen at hcm
    clear hr hv hp e1
    obtain ⟨i2, hi2, hz0, hz1, hz2⟩ := info_parts infoStr
    go_enter Tryd.func7, Tryd.ntmps7
    go_wp2_with fail
    refine HC.out.mono ?_
    rintro e w1 ⟨rfl, b1⟩
    have HB0 := Lib.hid b1
    have hbz := b1.size
    clear b1 HC
    go_wp2_with (first
      | (at_make; refine wpList_make_own _ rfl (.const (.int .i64 0)) (.tmp 10) 35 rfl w.heap.size 9 i2 _ 1 Tryd.underlying35 hi2 hz0 hz1 .i64 .i64 (n : Int) n (by rfl) (by rfl) (by rfl) (by rw [hz2]; omega) (by unfold maxLen; omega) (by simpa using hbz) ?_; intro w4 hown4 hgrow4; have HO1 := Lib.hid hown4; have HB1 : Hid (Below w.heap.size w w4) := Lib.hid (HB0.out.grown hgrow4 hbz (fun b e => by cases e)); clear hown4 hgrow4))
    go_loopw [3, 14] (fun u kv wr => ∃ k : Nat, k ≤ n ∧ kv = .int .i64 k ∧ Hid (wr.ownsRow w.heap.size 9 1 u k ((dcL f k).map Value.string)) ∧ Hid (Below w.heap.size w wr)) (fun _ kv _ => n - (intOf kv).toNat)
    case atStart => exact ⟨0, Nat.zero_le _, rfl, HO1, HB1⟩
    case round =>
      clear HO1 HB1 HB0
      obtain ⟨k, hk, rfl, HU, HB⟩ := hrel
      obtain ⟨Ao, co, rfl⟩ := sp_slice HU.out
      have hB := HB.out.size
      by_cases hlt : k < n
      · obtain ⟨b, o, rfl, hbl, hc⟩ := (HR.out.below HB.out (Nat.le_refl _)).2.2.2 (by omega)
        have hck := hc k hlt
        have hfk := HP.out.pars k hlt
        clear hc
        obtain ⟨z, hz⟩ : ∃ z : Nat, f k = z := ⟨(f k).toNat, by omega⟩
        have HZ := Lib.hid hz
        rw [hz] at hck hfk
        have hz100 : z < 100 := by omega
        clear hz hfk
        go_wp2_with fail
        refine (impl_decimal_small z hz100 wr).mono ?_
        rintro e w2 ⟨rfl, b2⟩
        have HO2 := Lib.hid (sp_below HU.out b2)
        have HB2 := Lib.hid (HB.out.trans (b2.mono hB))
        have hB2 := HB2.out.size
        clear b2 HU HB
        have hXa := Lib.hid ((Below.refl w2.heap.size w2).alloc (Nat.le_refl _) (.cells #[.string (decS z)] 9))
        have hsz : (w2.alloc (.cells #[.string (decS z)] 9)).heap.size = w2.heap.size + 1 := by simp
        go_wp2_with (first
          | (at_builtin; refine wpList_append_lies _ (by rfl) _ _ _ (by rfl) w.heap.size 9 i2 _ 1 16 Tryd.underlying35 hi2 hz0 hz1 hz2 rfl (by omega) _ k ((dcL f k).map Value.string) (by rfl) (sp_below HO2.out hXa.out) ⟨w2.heap.size, 0, none⟩ 1 1 [.string (decS z)] (by rfl) (by rfl) (World.news_of_block (cs := #[.string (decS z)]) (t := 9) (fr := (0, 0)) (heap_alloc_new w2 _)) (fun u hu => by simp at hu; subst hu; rfl) (by omega) (by unfold maxLen; omega) (by omega) (by simp; omega) (w2.heap.size + 1) (by simp) ?_; intro g6 cap6 w6 hown6 hgrow6 hat6 hlt6; have HOW := Lib.hid hown6; have HGR := Lib.hid hgrow6; have HAT := Lib.hid hat6; clear hown6 hgrow6 hat6))
        go_roundw
        case rel =>
          refine ⟨k + 1, by omega, by go_num, Lib.hid ?_, Lib.hid ((HB2.out.trans (hXa.out.mono (by omega))).grown HGR.out (by omega) (fun b e => (HO2.out.lt b e).1))⟩
          rw [dcL_succ, HZ.out]
          exact HOW.out
        case measure => simp [intOf]; omega
      · obtain rfl : k = n := by omega
        obtain ⟨m, rfl⟩ : ∃ m, k = m + 1 := ⟨k - 1, by omega⟩
        have HC2 := Lib.hid (join_call wr w.heap.size Ao co f m HU.out (by omega) (ptt_len f (m + 1) (fun i hi => by have := HP.out.pars i hi; omega) (m + 1) (Nat.le_refl _)))
        go_wp2_with fail
        refine HC2.out.mono ?_
        rintro e w2 ⟨rfl, b2⟩
        go_wp2
        go_ret
        exact ⟨rfl, HB.out.trans (b2.mono hB)⟩
end Go.Proofs.YtpkajonnopmciaaDoor.Base
