/-
  SplitWords: the specification's.
-/
import Derived.Test.YtekblfhpabgabaaSpi
import Derived.WalkKit
import Derived.OwnWalk
import Derived.Laws.AppendOwn
import Derived.Deep.AppendLies
import Derived.Deep.DeepMust
import Derived.Lib.Strings
namespace Go.Proofs.Ytekblfhpabgabaa.Base
open Go Go.RowKit
open Go.PlainAid (bt get_bt bt_nonneg bt_le)
set_option linter.unusedVariables false
set_option linter.unusedSimpArgs false

theorem infoStr : (Try.prog.info? 9).map (fun i => (i.zero, i.size, i.bytes)) = some (some (.string ⟨#[]⟩), 1, 16) := by kernel_rfl
theorem sp_slice {w : World} {base n s : Nat} {e : TypeId} {v : Value} {xs : List Value} (h : w.ownsRow base e s v n xs) : ∃ A c, v = .slice A n c := by
  rcases h.2 with ⟨rfl, rfl⟩ | ⟨g, cap, cur, rfl, _⟩
  · exact ⟨none, 0, rfl⟩
  · exact ⟨_, cap, rfl⟩
theorem sp_below {wr wa : World} {base n s : Nat} {e : TypeId} {v : Value} {xs : List Value} (h : wr.ownsRow base e s v n xs) (hb : Below wr.heap.size wr wa) : wa.ownsRow base e s v n xs :=
  h.kept (grown_of_below (r := none) hb) (by by_cases e : v.ownBlock = none <;> simp [e])
theorem sp_new0 {X : World} {e : TypeId} {s base p : Nat} (hp : X.heap.size = p) (hb : base ≤ p) : (X.alloc (.cells #[] e)).ownsRow base e s (.slice (some ⟨p, 0, none⟩) 0 0) 0 [] := by
  subst hp
  exact World.ownsRow_lit (size := s) _ #[] 0 hb (Nat.zero_le _) (by simp)
/-- parts as values -/
def pcs (s : ByteArray) (L : List (Nat × Nat)) : List Value := L.map fun x => .string (s.extract x.1 x.2)
theorem pcs_snoc (s : ByteArray) (L : List (Nat × Nat)) (a b : Nat) : pcs s (L ++ [(a, b)]) = pcs s L ++ [.string (s.extract a b)] := by simp [pcs]
/-- a list of parts, made from block base on -/
def PartsOut (s : ByteArray) (L : List (Nat × Nat)) (base : Nat) (w : World) (e : Ending) (w' : World) : Prop :=
  ∃ v, e = .returned v ∧ w'.ownsRow base 9 1 v L.length (pcs s L) ∧ Below base w w'
set_option maxHeartbeats 1000000 in
theorem spec_split (w : World) (s : ByteArray) (hs : s.size ≤ 1048576) :
    Calls Try.prog 9 #[.string s, .int .u8 32] w (PartsOut s (prtAll s) w.heap.size w) := by
  obtain ⟨i2, hi2, hz0, hz1, hz2⟩ := info_parts infoStr
  have hb := get_bt s
  have hb1 := bt_nonneg s
  have hb2 := bt_le s
  have HB0 := Lib.hid hb
  have HB1 := Lib.hid hb1
  have HB2 := Lib.hid hb2
  clear hb hb1 hb2
  go_enter Try.func9, Try.ntmps9
  go_wp2
  have HO1 := Lib.hid (sp_new0 (X := w) (e := 9) (s := 1) rfl (Nat.le_refl w.heap.size))
  go_loopw [5, 6, 7] (fun lv av iv wr => ∃ (i a : Nat), i ≤ s.size ∧ iv = .int .i64 i ∧ av = .int .i64 a ∧ a ≤ i ∧ Hid ((prt s i).2 = a) ∧ Hid (wr.ownsRow w.heap.size 9 1 lv (prt s i).1.length (pcs s (prt s i).1)) ∧ Hid (Below w.heap.size w wr)) (fun _ _ iv _ => s.size - (intOf iv).toNat)
  case atStart => exact ⟨0, 0, Nat.zero_le _, rfl, rfl, Nat.le_refl _, Lib.hid rfl, HO1, Lib.hid ((Below.refl _ _).alloc (Nat.le_refl _) _)⟩
  case round =>
    clear HO1
    obtain ⟨i, a, hi, rfl, rfl, hai, HA, HU, HB⟩ := hrel
    have hlen := (prt_le s i).2.1
    obtain ⟨k, hk⟩ : ∃ k, (prt s i).1.length = k := ⟨_, rfl⟩
    have HU' := Lib.hid (hk ▸ HU.out)
    have HK := Lib.hid hk
    rw [hk] at hlen
    clear hk HU
    obtain ⟨Ao, co, rfl⟩ := sp_slice HU'.out
    have hBr := HB.out.size
    by_cases hlt : i < s.size
    · have c1 := HB1.out i
      have c2 := HB2.out i
      have hbi := HB0.out i hlt
      by_cases h32 : bt s i = 32
      · have heq : (bt s i == 32) = true := beq_iff_eq.2 h32
        have HP := Lib.hid (prt_blank h32)
        clear h32
        have hXa := Lib.hid ((Below.refl wr.heap.size wr).alloc (Nat.le_refl _) (.cells #[.string (s.extract a i)] 9))
        have hsz : (wr.alloc (.cells #[.string (s.extract a i)] 9)).heap.size = wr.heap.size + 1 := by simp
        go_wp2_with (first
          | (at_builtin; refine wpList_append_lies _ (by rfl) _ _ _ (by rfl) w.heap.size 9 i2 _ 1 16 Try.underlying22 hi2 hz0 hz1 hz2 rfl (by omega) _ k (pcs s (prt s i).1) (by rfl) (sp_below HU'.out hXa.out) ⟨wr.heap.size, 0, none⟩ 1 1 [.string (s.extract a i)] (by rfl) (by rfl) (World.news_of_block (cs := #[.string (s.extract a i)]) (t := 9) (fr := (0, 0)) (heap_alloc_new wr _)) (fun u hu => by simp at hu; subst hu; rfl) (by omega) (by unfold maxLen; omega) (by omega) (by simp; omega) (wr.heap.size + 1) (by simp) ?_; intro g6 cap6 w6 hown6 hgrow6 hat6 hlt6; have HOW := Lib.hid hown6; have HGR := Lib.hid hgrow6; have HAT := Lib.hid hat6; clear hown6 hgrow6 hat6))
        go_roundw
        case rel =>
          refine ⟨i + 1, i + 1, by omega, by go_num, by go_num, Nat.le_refl _, Lib.hid (by rw [HP.out]), Lib.hid ?_, Lib.hid ((HB.out.trans (hXa.out.mono hBr)).grown HGR.out (by omega) (fun b e => (HU'.out.lt b e).1))⟩
          rw [HP.out]
          simp only [List.length_append, List.length_singleton, HK.out, pcs_snoc, HA.out]
          exact HOW.out
        case measure => simp [intOf]; omega
      · have heq : (bt s i == 32) = false := beq_eq_false_iff_ne.2 h32
        have HP := Lib.hid (prt_same h32)
        clear h32
        go_wp2
        go_roundw
        case rel => exact ⟨i + 1, a, by omega, by go_num, rfl, by omega, Lib.hid (by rw [HP.out]; exact HA.out), Lib.hid (by rw [HP.out, HK.out]; exact HU'.out), HB⟩
        case measure => simp [intOf]; omega
    · obtain rfl : i = s.size := by omega
      have hXa := Lib.hid ((Below.refl wr.heap.size wr).alloc (Nat.le_refl _) (.cells #[.string (s.extract a s.size)] 9))
      have hsz : (wr.alloc (.cells #[.string (s.extract a s.size)] 9)).heap.size = wr.heap.size + 1 := by simp
      go_wp2_with (first
        | (at_builtin; refine wpList_append_lies _ (by rfl) _ _ _ (by rfl) w.heap.size 9 i2 _ 1 16 Try.underlying22 hi2 hz0 hz1 hz2 rfl (by omega) _ k (pcs s (prt s s.size).1) (by rfl) (sp_below HU'.out hXa.out) ⟨wr.heap.size, 0, none⟩ 1 1 [.string (s.extract a s.size)] (by rfl) (by rfl) (World.news_of_block (cs := #[.string (s.extract a s.size)]) (t := 9) (fr := (0, 0)) (heap_alloc_new wr _)) (fun u hu => by simp at hu; subst hu; rfl) (by omega) (by unfold maxLen; omega) (by omega) (by simp; omega) (wr.heap.size + 1) (by simp) ?_; intro g6 cap6 w6 hown6 hgrow6 hat6 hlt6; have HOW := Lib.hid hown6; have HGR := Lib.hid hgrow6; have HAT := Lib.hid hat6; clear hown6 hgrow6 hat6))
      go_ret
      refine ⟨_, rfl, ?_, (HB.out.trans (hXa.out.mono hBr)).grown HGR.out (by omega) (fun b e => (HU'.out.lt b e).1)⟩
      unfold prtAll
      simp only [List.length_append, List.length_singleton, HK.out, pcs_snoc, HA.out]
      exact HOW.out
/-- the words among the first k parts -/
def wdk (s : ByteArray) (k : Nat) : List (Nat × Nat) := ((prtAll s).take k).filter neB
theorem wdk_all (s : ByteArray) : (wdk s (prtAll s).length).map (fun x => s.extract x.1 x.2) = wrds s := by unfold wdk wrds; rw [List.take_length]
theorem wdk_yes {s : ByteArray} {k : Nat} {x : Nat × Nat} (h : (prtAll s)[k]? = some x) (hx : neB x = true) : wdk s (k + 1) = wdk s k ++ [x] := by
  unfold wdk
  rw [List.take_add_one, h, List.filter_append]
  simp [hx]
theorem wdk_no {s : ByteArray} {k : Nat} {x : Nat × Nat} (h : (prtAll s)[k]? = some x) (hx : neB x = false) : wdk s (k + 1) = wdk s k := by
  unfold wdk
  rw [List.take_add_one, h, List.filter_append]
  simp [hx]
theorem wdk_len (s : ByteArray) (k : Nat) : (wdk s k).length ≤ k := by
  unfold wdk
  exact Nat.le_trans (List.length_filter_le _ _) (by rw [List.length_take]; omega)
theorem prtAll_len (s : ByteArray) : 1 ≤ (prtAll s).length ∧ (prtAll s).length ≤ s.size + 1 := by
  have := (prt_le s s.size).2.1
  unfold prtAll
  simp
  omega
theorem prtAll_bd {s : ByteArray} {x : Nat × Nat} (h : x ∈ prtAll s) : x.1 ≤ x.2 ∧ x.2 ≤ s.size := by
  obtain ⟨h1, -, h3⟩ := prt_le s s.size
  rcases List.mem_append.1 h with h | h
  · exact h3 x h
  · obtain rfl := List.mem_singleton.1 h
    exact ⟨h1, Nat.le_refl _⟩
theorem wrds_len (s : ByteArray) : (wrds s).length ≤ s.size + 1 := by
  have h1 := (prtAll_len s).2
  have h2 := wdk_len s (prtAll s).length
  rw [← wdk_all, List.length_map]
  omega
theorem toList_empty {p : ByteArray} (h : p.size = 0) : p.toList = [] := by
  rw [Lib.toList_data]
  exact List.eq_nil_of_length_eq_zero (by rw [Array.length_toList]; exact h)
theorem toList_full {p : ByteArray} (h : p.size ≠ 0) : p.toList ≠ [] := by
  rw [Lib.toList_data]
  intro e
  have h1 := congrArg List.length e
  rw [Array.length_toList] at h1
  exact h h1
set_option maxHeartbeats 1000000 in
theorem spec_splitWords (w : World) (s : ByteArray) (hs : s.size ≤ 1048576) :
    Calls Try.prog 4 #[.string s] w (WordsOut (wrds s) w.heap.size w) := by
  obtain ⟨i2, hi2, hz0, hz1, hz2⟩ := info_parts infoStr
  have hl := wrds_len s
  have HLW := Lib.hid (show (wrds s).length ≤ maxLen by unfold maxLen; omega)
  obtain ⟨n1, n2⟩ := prtAll_len s
  obtain ⟨N, hN⟩ : ∃ N, (prtAll s).length = N := ⟨_, rfl⟩
  rw [hN] at n1 n2
  have HN := Lib.hid hN
  clear hN hl
  go_enter Try.func4, Try.ntmps4
  go_wp2_with fail
  refine (spec_split _ s hs).mono ?_
  rintro e w1 ⟨v, rfl, hO, hb⟩
  rw [HN.out] at hO
  have HO := Lib.hid hO
  have HB1 := Lib.hid hb
  have hz := hb.size
  obtain ⟨gO, capO, rfl, gO1, gO2⟩ := HO.out.form (by omega)
  clear hO hb
  have HO1 := Lib.hid (sp_new0 (X := w1) (e := 9) (s := 1) rfl (Nat.le_refl w1.heap.size))
  go_wp2
  go_loopw [4, 5] (fun u kv wr => ∃ k : Nat, k ≤ N ∧ kv = .int .i64 k ∧ Hid (wr.ownsRow w1.heap.size 9 1 u (wdk s k).length (pcs s (wdk s k))) ∧ Hid (Below w1.heap.size w1 wr)) (fun _ kv _ => N - (intOf kv).toNat)
  case atStart => exact ⟨0, Nat.zero_le _, rfl, HO1, Lib.hid ((Below.refl _ _).alloc (Nat.le_refl _) _)⟩
  case round =>
    clear HO1
    obtain ⟨k, hk, rfl, HU, HB⟩ := hrel
    have hBr := HB.out.size
    have hwl := wdk_len s k
    obtain ⟨q, hq⟩ : ∃ q, (wdk s k).length = q := ⟨_, rfl⟩
    have HU' := Lib.hid (hq ▸ HU.out)
    have HQ := Lib.hid hq
    rw [hq] at hwl
    clear hq HU
    obtain ⟨Ao, co, rfl⟩ := sp_slice HU'.out
    by_cases hlt : k < N
    · obtain ⟨x, hx⟩ : ∃ x, (prtAll s)[k]? = some x := ⟨_, List.getElem?_eq_getElem (by rw [HN.out]; exact hlt)⟩
      obtain ⟨x1, x2⟩ := prtAll_bd (List.mem_of_getElem? hx)
      obtain ⟨p, hp⟩ : ∃ p, s.extract x.1 x.2 = p := ⟨_, rfl⟩
      have hps : p.size = x.2 - x.1 := by rw [← hp, ByteArray.size_extract]; omega
      have kO : wr.cell? ⟨gO, k, none⟩ = some (.string p) := by
        have e1 : wr.cell? ⟨gO, k, none⟩ = w1.cell? ⟨gO, k, none⟩ := HB.out.cell (p := ⟨gO, k, none⟩) gO2
        rw [e1, HO.out.cellAt k (by omega)]
        simp [pcs, hx, hp]
      have hgO : gO < wr.heap.size := by omega
      have hps2 : p.size ≤ 1048576 := by omega
      have HX := Lib.hid hx
      have HPP := Lib.hid hp
      cases hne : neB x
      · have hp0 : p.toList = [] := toList_empty (by have : ¬ x.1 < x.2 := of_decide_eq_false hne; omega)
        have e1 : p.toList.isEmpty = true := by rw [hp0]; rfl
        have HW := Lib.hid (wdk_no hx hne)
        clear hne hp0 hx hp hps
        go_wp2
        go_roundw
        case rel => exact ⟨k + 1, by omega, by go_num, Lib.hid (by rw [HW.out, HQ.out]; exact HU'.out), HB⟩
        case measure => simp [intOf]; omega
      · have hp0 : p.toList ≠ [] := toList_full (by have : x.1 < x.2 := of_decide_eq_true hne; omega)
        have e1 : p.toList.isEmpty = false := by simpa using hp0
        have HW := Lib.hid (wdk_yes hx hne)
        clear hne hp0 hx hp hps
        have hXa := Lib.hid ((Below.refl wr.heap.size wr).alloc (Nat.le_refl _) (.cells #[.string p] 9))
        have hsz : (wr.alloc (.cells #[.string p] 9)).heap.size = wr.heap.size + 1 := by simp
        go_wp2_with (first
          | (at_builtin; refine wpList_append_lies _ (by rfl) _ _ _ (by rfl) w1.heap.size 9 i2 _ 1 16 Try.underlying22 hi2 hz0 hz1 hz2 rfl (by omega) _ q (pcs s (wdk s k)) (by rfl) (sp_below HU'.out hXa.out) ⟨wr.heap.size, 0, none⟩ 1 1 [.string p] (by rfl) (by rfl) (World.news_of_block (cs := #[.string p]) (t := 9) (fr := (0, 0)) (heap_alloc_new wr _)) (fun u hu => by simp at hu; subst hu; rfl) (by omega) (by unfold maxLen; omega) (by omega) (by simp; omega) (wr.heap.size + 1) (by simp) ?_; intro g6 cap6 w6 hown6 hgrow6 hat6 hlt6; have HOW := Lib.hid hown6; have HGR := Lib.hid hgrow6; have HAT := Lib.hid hat6; clear hown6 hgrow6 hat6))
        go_roundw
        case rel =>
          refine ⟨k + 1, by omega, by go_num, Lib.hid ?_, Lib.hid ((HB.out.trans (hXa.out.mono hBr)).grown HGR.out (by omega) (fun b e => (HU'.out.lt b e).1))⟩
          have e2 : pcs s (wdk s (k + 1)) = pcs s (wdk s k) ++ [.string p] := by rw [HW.out, show [x] = [(x.1, x.2)] from rfl, pcs_snoc, HPP.out]
          rw [e2, HW.out]
          simp only [List.length_append, List.length_singleton, HQ.out]
          exact HOW.out
        case measure => simp [intOf]; omega
    · obtain rfl : k = N := by omega
      go_wp2
      go_ret
      have e1 : (wdk s k).length = (wrds s).length := by rw [← wdk_all, HN.out, List.length_map]
      have e2 : pcs s (wdk s k) = (wrds s).map Value.string := by rw [← wdk_all, HN.out]; simp [pcs]
      have hu := HU'.out
      have hq := HQ.out
      rw [e1] at hq
      subst hq
      rw [e2] at hu
      exact ⟨_, _, rfl, vown_of hu (by omega) HLW.out, HB1.out.trans (HB.out.mono hz)⟩
end Go.Proofs.Ytekblfhpabgabaa.Base
