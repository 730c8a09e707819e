/-
  The widths with which panels without breaks have one curve: the model's list, the program's.
-/
import Derived.Test.YtajikegfladelaaGcd
import Derived.Test.YtajikegfladelaaWls
namespace Go.Proofs.Ytajikegfladelaa.Base
open Go Go.RowKit
set_option linter.unusedVariables false
set_option linter.unusedSimpArgs false

/-- those of the first k widths -/
def ssI (h : Int) : Nat → List Int
  | 0 => []
  | k + 1 => if (gcI ((k : Int) + 1) h == 1) then ssI h k ++ [(k : Int) + 1] else ssI h k
section
variable {h : Int}
theorem ssI_yes {k : Nat} (e : (gcI ((k : Int) + 1) h == 1) = true) : ssI h (k + 1) = ssI h k ++ [(k : Int) + 1] := if_pos e
theorem ssI_no {k : Nat} (e : (gcI ((k : Int) + 1) h == 1) = false) : ssI h (k + 1) = ssI h k := if_neg (by simp [e])
theorem ssI_len : ∀ k, (ssI h k).length ≤ k
  | 0 => Nat.le_refl _
  | k + 1 => by
    have := ssI_len k
    cases e : (gcI ((k : Int) + 1) h == 1)
    · rw [ssI_no e]; omega
    · rw [ssI_yes e]; simp; omega
theorem ssI_bd : ∀ k, ∀ x ∈ ssI h k, 1 ≤ x ∧ x ≤ (k : Int)
  | 0 => fun x hx => by cases hx
  | k + 1 => fun x hx => by
    cases e : (gcI ((k : Int) + 1) h == 1)
    · rw [ssI_no e] at hx
      have := ssI_bd k x hx
      omega
    · rw [ssI_yes e] at hx
      rcases List.mem_append.1 hx with hx | hx
      · have := ssI_bd k x hx
        omega
      · simp at hx
        omega
theorem ssI_mem : ∀ (k : Nat) (x : Int), x ∈ ssI h k ↔ 1 ≤ x ∧ x ≤ (k : Int) ∧ gcI x h = 1
  | 0, x => by simp [ssI]; omega
  | k + 1, x => by
    have ih := ssI_mem k x
    cases e : (gcI ((k : Int) + 1) h == 1)
    · rw [ssI_no e, ih]
      have e' : gcI ((k : Int) + 1) h ≠ 1 := by simpa using e
      constructor
      · rintro ⟨a, b, c⟩
        exact ⟨a, by omega, c⟩
      · rintro ⟨a, b, c⟩
        refine ⟨a, ?_, c⟩
        by_cases hx : x = (k : Int) + 1
        · subst hx; exact absurd c e'
        · omega
    · rw [ssI_yes e, List.mem_append, ih]
      have e' : gcI ((k : Int) + 1) h = 1 := by simpa using e
      simp only [List.mem_singleton]
      constructor
      · rintro (⟨a, b, c⟩ | rfl)
        · exact ⟨a, by omega, c⟩
        · exact ⟨by omega, by omega, e'⟩
      · rintro ⟨a, b, c⟩
        by_cases hx : x = (k : Int) + 1
        · exact .inr hx
        · exact .inl ⟨a, by omega, c⟩
end
def ssF (h : Int) (i : Nat) : Int := (ssI h 8).getD i 0
def ssM (h : Int) : Nat := (ssI h 8).length
def ssN (h : Int) : Nat := if sideB h then ssM h else 0
def ssC (h : Int) : Int := if sideB h then 0 else 2
theorem ssM_le (h : Int) : ssM h ≤ 8 := ssI_len 8
theorem ssN_le (h : Int) : ssN h ≤ 8 := by
  unfold ssN
  split
  · exact ssI_len 8
  · omega
theorem ss_own {w : World} {base : Nat} {h : Int} {A : Option Addr} {c : Nat} (ho : w.ownsRow base 2 1 (.slice A (ssM h) c) (ssM h) (ivs (ssI h 8))) : OwnS 1 w base A (ssM h) c (ssF h) :=
  ownS_ivs ho (fun i hi => by
      unfold ivs
      have hi' : i < (ssI h 8).length := hi
      simp [ssF, hi'])
    (fun i hi => by
      have hi' : i < (ssI h 8).length := hi
      have hm : ssF h i ∈ ssI h 8 := by
        unfold ssF
        rw [List.getD_eq_getElem?_getD, List.getElem?_eq_getElem hi']
        exact List.getElem_mem hi'
      have := ssI_bd 8 _ hm
      exact WalkArith.wf_i64 (by omega)) (Nat.le_refl _) (by unfold maxLen; have : ssM h ≤ 8 := ssI_len 8; omega)
theorem side_is {n : Int} {v : Bool} (h : sideB n = v) (w : World) : Calls Try.prog 18 #[.int .i64 n] w fun e w' => e = .returned (.bool v) ∧ w = w' := by rw [← h]; exact side_any n w
theorem impl_singleSizes_bad (w : World) (h : Int) (hb : sideB h = false) :
    Calls Try.prog 16 #[.int .i64 h] w (ListOut 1 (ssN h) (ssF h) (ssC h) w.heap.size w) := by
  have e1 : ssN h = 0 := by unfold ssN; rw [hb]; rfl
  have e2 : ssC h = 2 := by unfold ssC; rw [hb]; rfl
  rw [e1, e2]
  clear e1 e2
  have hno := side_no hb
  clear hb
  by_cases h1 : 1 ≤ h
  · have h2 : ¬ h ≤ 8 := fun e => hno ⟨h1, e⟩
    clear hno
    go_enter Try.func16, Try.ntmps16
    go_wp2
    go_ret2
    exact ⟨none, 0, rfl, ownS_nil _ _ _ _, Below.refl _ _⟩
  · clear hno
    go_enter Try.func16, Try.ntmps16
    go_wp2
    go_ret2
    exact ⟨none, 0, rfl, ownS_nil _ _ _ _, Below.refl _ _⟩
set_option maxHeartbeats 4000000 in
set_option maxRecDepth 100000 in
theorem impl_singleSizes_ok (w : World) (h : Int) (hb : sideB h = true) :
    Calls Try.prog 16 #[.int .i64 h] w (ListOut 1 (ssN h) (ssF h) (ssC h) w.heap.size w) := by
  have e1 : ssN h = ssM h := by unfold ssN; rw [hb]; rfl
  have e2 : ssC h = 0 := by unfold ssC; rw [hb]; rfl
  rw [e1, e2]
  clear e1 e2
  obtain ⟨i2, hi2, hz0, hz1, hz2⟩ := info_parts infoI64
  obtain ⟨h1, h2⟩ := side_mk hb
  have HO1 := Lib.hid (owns_empty w 2)
  clear hb
  go_enter Try.func16, Try.ntmps16
  go_wp2
  go_loopw [4, 5] (fun u kv wr => ∃ k : Nat, k ≤ 8 ∧ kv = .int .i64 ((k : Int) + 1) ∧ Hid (wr.ownsRow w.heap.size 2 1 u (ssI h k).length (ivs (ssI h k))) ∧ Hid (Below w.heap.size w wr)) (fun _ kv _ => 9 - (intOf kv).toNat)
  case atStart => exact ⟨0, Nat.zero_le _, rfl, HO1, Lib.hid ((Below.refl _ _).alloc (Nat.le_refl _) _)⟩
  case round =>
    clear HO1
    obtain ⟨k, hk, rfl, HU, HB⟩ := hrel
    obtain ⟨Ao, co, rfl⟩ := owns_slice HU.out
    have hBz := HB.out.size
    have hln := ssI_len (h := h) k
    by_cases hlt : k < 8
    · have hdec : decide ((k : Int) + 1 ≤ 8) = true := decide_eq_true (by omega)
      obtain ⟨v, hv⟩ : ∃ v, (gcI ((k : Int) + 1) h == 1) = v := ⟨_, rfl⟩
      go_wp2_with fail
      refine (impl_gcd _ ((k : Int) + 1) h (by omega) (by omega) (by omega) (by omega)).mono ?_
      rintro e wq ⟨rfl, rfl⟩
      have HVV := Lib.hid hv
      cases v
      · go_wp2
        go_roundw
        case rel => exact ⟨k + 1, by omega, by go_num, Lib.hid (by rw [ssI_no HVV.out]; exact HU.out), HB⟩
        case measure => simp [intOf]; omega
      · have hXa := Lib.hid ((Below.refl wr.heap.size wr).alloc (Nat.le_refl _) (.cells #[.int .i64 ((k : Int) + 1)] 2))
        obtain ⟨ln, hlne⟩ : ∃ ln, (ssI h k).length = ln := ⟨_, rfl⟩
        rw [hlne] at HU hln ⊢
        have HLN := Lib.hid hlne
        clear hlne
        go_wp2_with (first
          | (at_builtin; refine wpList_append_lies _ (by rfl) _ _ _ (by rfl) w.heap.size 2 i2 _ 1 8 Try.underlying24 hi2 hz0 hz1 hz2 rfl (by omega) _ ln (ivs (ssI h k)) (by rfl) (owns_belowS HU.out hXa.out) ⟨wr.heap.size, 0, none⟩ 1 1 [.int .i64 ((k : Int) + 1)] (by rfl) (by rfl) (World.news_of_block (cs := #[.int .i64 ((k : Int) + 1)]) (t := 2) (fr := (0, 0)) (heap_alloc_new wr _)) (fun u hu => by simp at hu; subst hu; rfl) (by omega) (by unfold maxLen; omega) (by omega) (by simp; omega) (wr.heap.size + 1) (by simp) ?_; intro g6 cap6 w6 hown6 hgrow6 hat6 hlt6; have HOW := Lib.hid hown6; have HGR := Lib.hid hgrow6; clear hown6 hgrow6 hat6))
        go_roundw
        case rel =>
          refine ⟨k + 1, by omega, by go_num, Lib.hid ?_, Lib.hid ((HB.out.trans (hXa.out.mono (by omega))).grown HGR.out (by simp; omega) (fun b e => (HU.out.lt b e).1))⟩
          have e : ivs (ssI h (k + 1)) = ivs (ssI h k) ++ [.int .i64 ((k : Int) + 1)] := by rw [ssI_yes HVV.out]; unfold ivs; simp
          have e2 : (ssI h (k + 1)).length = ln + 1 := by rw [ssI_yes HVV.out, List.length_append, HLN.out]; rfl
          rw [e, e2]
          exact HOW.out
        case measure => simp [intOf]; omega
    · obtain rfl : k = 8 := by omega
      have hdec : decide (((8 : Nat) : Int) + 1 ≤ 8) = false := rfl
      go_wp2
      go_ret2
      exact ⟨Ao, co, rfl, ss_own HU.out, HB.out⟩
theorem impl_singleSizes (w : World) (h : Int) : Calls Try.prog 16 #[.int .i64 h] w (ListOut 1 (ssN h) (ssF h) (ssC h) w.heap.size w) := by
  cases hb : sideB h
  · exact impl_singleSizes_bad w h hb
  · exact impl_singleSizes_ok w h hb
end Go.Proofs.Ytajikegfladelaa.Base
