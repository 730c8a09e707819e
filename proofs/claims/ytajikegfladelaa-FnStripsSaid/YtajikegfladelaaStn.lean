/-
  Panels of the height 1, by computation: each upright mirror gives one more curve.
-/
import Derived.Test.YtajikegfladelaaCtr
import Derived.Test.YtajikegfladelaaNum
namespace Go.Proofs.Ytajikegfladelaa.Base
open Go Go.RowKit
set_option linter.unusedVariables false
set_option linter.unusedSimpArgs false

def stripOk (W : Int) (l : List Int) : Bool := match trC W 1 (fun i => l.getD i 0) (4 * W * 1).toNat with
  | none => false
  | some (_, L) => decide ((L.length : Int) = 1 + cntK 1 (fun i => l.getD i 0) l.length)
/-- whether p holds of all lists of n numbers from 0 to 2 -/
def allK : Nat → (List Int → Bool) → Bool
  | 0, p => p []
  | n + 1, p => allK n (fun l => p (0 :: l)) && allK n (fun l => p (1 :: l)) && allK n (fun l => p (2 :: l))
theorem allK_all : ∀ {n : Nat} {p : List Int → Bool}, allK n p = true → ∀ l : List Int, l.length = n → (∀ x ∈ l, x = 0 ∨ x = 1 ∨ x = 2) → p l = true
  | 0, p, h, l, hl, _ => by
    cases l with
    | nil => exact h
    | cons a r => simp at hl
  | n + 1, p, h, l, hl, hx => by
    cases l with
    | nil => simp at hl
    | cons a r =>
      simp only [allK, Bool.and_eq_true] at h
      have hr : ∀ x ∈ r, x = 0 ∨ x = 1 ∨ x = 2 := fun x hx' => hx x (List.mem_cons_of_mem _ hx')
      have hl' : r.length = n := by simpa using hl
      rcases hx a (List.mem_cons_self ..) with rfl | rfl | rfl
      · exact allK_all h.1.1 r hl' hr
      · exact allK_all h.1.2 r hl' hr
      · exact allK_all h.2 r hl' hr
theorem strips_7 : ∀ w : Fin 7, allK w.val (stripOk (w.val + 1 : Nat)) = true := by decide +kernel
theorem strips_8a : allK 5 (fun l => stripOk 8 (0 :: 0 :: l) && stripOk 8 (0 :: 1 :: l) && stripOk 8 (0 :: 2 :: l)) = true := by decide +kernel
theorem strips_8b : allK 5 (fun l => stripOk 8 (1 :: 0 :: l) && stripOk 8 (1 :: 1 :: l) && stripOk 8 (1 :: 2 :: l)) = true := by decide +kernel
theorem strips_8c : allK 5 (fun l => stripOk 8 (2 :: 0 :: l) && stripOk 8 (2 :: 1 :: l) && stripOk 8 (2 :: 2 :: l)) = true := by decide +kernel
theorem strips_is {W : Int} (hW : sideB W = true) (l : List Int) (hl : (l.length : Int) = W - 1) (hx : ∀ x ∈ l, x = 0 ∨ x = 1 ∨ x = 2) : stripOk W l = true := by
  obtain ⟨a1, a2⟩ := side_mk hW
  by_cases h8 : W = 8
  · subst h8
    match l, hl, hx with
    | a :: b :: r, hl, hx =>
      have hr : ∀ x ∈ r, x = 0 ∨ x = 1 ∨ x = 2 := fun x hx' => hx x (List.mem_cons_of_mem _ (List.mem_cons_of_mem _ hx'))
      have hl' : r.length = 5 := by simp at hl; omega
      have q1 := allK_all strips_8a r hl' hr
      have q2 := allK_all strips_8b r hl' hr
      have q3 := allK_all strips_8c r hl' hr
      simp only [Bool.and_eq_true] at q1 q2 q3
      rcases hx a (List.mem_cons_self ..) with rfl | rfl | rfl <;> rcases hx b (List.mem_cons_of_mem _ (List.mem_cons_self ..)) with rfl | rfl | rfl
      · exact q1.1.1
      · exact q1.1.2
      · exact q1.2
      · exact q2.1.1
      · exact q2.1.2
      · exact q2.2
      · exact q3.1.1
      · exact q3.1.2
      · exact q3.2
    | [_], hl, _ => simp at hl
    | [], hl, _ => simp at hl
  · have h := strips_7 ⟨(W - 1).toNat, by omega⟩
    have e : ((((W - 1).toNat : Nat) + 1 : Nat) : Int) = W := by omega
    rw [e] at h
    exact allK_all h l (by simp only; omega) hx

/-! a walk depends on the breaks alone -/
section
variable {W H : Int} {n : Nat} {f f' : Nat → Int}
theorem stp_congr (hn : (n : Int) = inner W H) (hf : ∀ i, i < n → f i = f' i) {v : W4} (h : okW W H n f v = true) : stp W H f v = stp W H f' v := by
  obtain ⟨hv, hg⟩ := wk_valid h
  obtain ⟨hW, hH, -, -⟩ := validB_yes hv
  obtain ⟨s1, s2, p1, p2⟩ := go_yes hg
  have e : tkOf W H f (v.1 + v.2.2.1) (v.2.1 + v.2.2.2) = tkOf W H f' (v.1 + v.2.2.1) (v.2.1 + v.2.2.2) := by
    unfold tkOf
    by_cases c1 : v.1 + v.2.2.1 = 0 ∨ v.1 + v.2.2.1 = 2 * W
    · rw [if_pos c1, if_pos c1]
    · rw [if_neg c1, if_neg c1]
      by_cases c2 : v.2.1 + v.2.2.2 = 0 ∨ v.2.1 + v.2.2.2 = 2 * H
      · rw [if_pos c2, if_pos c2]
      · rw [if_neg c2, if_neg c2]
        have he : edgeB W H (v.1 + v.2.2.1) (v.2.1 + v.2.2.2) = false := by
          unfold edgeB
          apply decide_eq_false
          omega
        obtain ⟨k1, k2⟩ := num_lt hW hH p2 he
        exact hf _ (by omega)
  simp only [stp, stDX, stDY, e]
theorem stps_congr (hn : (n : Int) = inner W H) (hf : ∀ i, i < n → f i = f' i) {v : W4} (h : okW W H n f v = true) : ∀ k, stps W H f k v = stps W H f' k v
  | 0 => rfl
  | k + 1 => by
    show stp W H f (stps W H f k v) = stp W H f' (stps W H f' k v)
    rw [← stps_congr hn hf h k]
    exact stp_congr hn hf (stps_ok h k)
theorem per_congr (hn : (n : Int) = inner W H) (hf : ∀ i, i < n → f i = f' i) {v : W4} (h : okW W H n f v = true) : per W H f v = per W H f' v := by
  have hp := per_is h
  refine (per_of (W := W) (H := H) (f := f') (v := v) ⟨hp.1, hp.2.1, ?_, fun j h1 h2 => ?_⟩).symm
  · rw [← stps_congr hn hf h]; exact hp.2.2.1
  · rw [← stps_congr hn hf h]; exact hp.2.2.2 j h1 h2
theorem mkd_congr (hn : (n : Int) = inner W H) (hf : ∀ i, i < n → f i = f' i) {v : W4} (h : okW W H n f v = true) (i : Int) (of : Nat → Int) : ∀ j, mkd W H f v i of j = mkd W H f' v i of j
  | 0 => rfl
  | j + 1 => by
    funext s
    rw [mkd_succ, mkd_succ, mkd_congr hn hf h i of j, stps_congr hn hf h j]
theorem trs_congr (hv : validB W H n f = true) (hf : ∀ i, i < n → f i = f' i) : ∀ k : Nat, (k : Int) ≤ 4 * W * H → trs W H f k = trs W H f' k
  | 0, _ => rfl
  | k + 1, hk => by
    obtain ⟨-, -, hn, -⟩ := validB_yes hv
    have ih := trs_congr hv hf k (by omega)
    obtain ⟨hok, -⟩ := wkr_ok (n := n) (f := f) hv (k := k) (by omega)
    show trS W H f k (trs W H f k) = trS W H f' k (trs W H f' k)
    rw [ih]
    unfold trS
    rw [per_congr hn hf hok, mkd_congr hn hf hok]
end
theorem cntK_congr {z : Int} {f f' : Nat → Int} : ∀ k : Nat, (∀ i, i < k → f i = f' i) → cntK z f k = cntK z f' k
  | 0, _ => rfl
  | k + 1, h => by
    show cntK z f k + _ = cntK z f' k + _
    rw [cntK_congr k (fun i hi => h i (by omega)), h k (by omega)]
theorem strip_curves {W : Int} {n : Nat} {f : Nat → Int} (hv : validB W 1 n f = true) : (cnN W 1 f : Int) = 1 + cntK 1 f n := by
  obtain ⟨hW, hH, hn, hk⟩ := validB_yes hv
  have hb := kinds_iff.1 hk
  obtain ⟨a1, a2⟩ := side_mk hW
  have hn' : (n : Int) = W - 1 := by rw [hn]; unfold inner; omega
  obtain ⟨l, hl⟩ : ∃ l : List Int, l = (List.range n).map f := ⟨_, rfl⟩
  have hlen : l.length = n := by rw [hl]; simp
  have hg : ∀ i, i < n → f i = (fun i => l.getD i 0) i := fun i hi => by rw [hl]; simp [hi]
  have hs := strips_is hW l (by rw [hlen]; exact hn') (fun x hx => by
    rw [hl] at hx
    obtain ⟨i, hi, rfl⟩ := List.mem_map.1 hx
    have := hb i (List.mem_range.1 hi)
    omega)
  unfold stripOk at hs
  obtain ⟨m0, m1⟩ := segs_bd hW hH
  have ht := trs_congr hv hg (4 * W * 1).toNat (by omega)
  cases e : trC W 1 (fun i => l.getD i 0) (4 * W * 1).toNat with
  | none => rw [e] at hs; cases hs
  | some p =>
    obtain ⟨m, L⟩ := p
    rw [e] at hs
    simp only [decide_eq_true_eq] at hs
    obtain ⟨b1, -, -⟩ := trC_is _ _ _ e
    unfold cnN
    rw [ht, b1, hs, hlen, cntK_congr n hg]
end Go.Proofs.Ytajikegfladelaa.Base
