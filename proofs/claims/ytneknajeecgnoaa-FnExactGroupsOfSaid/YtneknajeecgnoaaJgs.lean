/-
  JoinGroups of the model.
-/
import Derived.Test.YtneknajeecgnoaaGro
import Derived.Test.YtneknajeecgnoaaJo1
import Derived.Test.YtneknajeecgnoaaOwa
namespace Go.Proofs.Ytneknajeecgnoaa.Base
open Go Go.RowKit
set_option linter.unusedVariables false
set_option linter.unusedSimpArgs false

theorem own_owns (w : World) (A : Option Addr) (n c : Nat) (f : Nat → Int) (hr : Row .i64 w A n c f) (hn2 : n ≤ 1048576) :
    Calls Try.prog 96 #[.slice A n c] w (CloneOut n f w) := by
  obtain ⟨hnc, hcm, hwf, hcell⟩ := hr
  obtain ⟨i0, hi, hz0, hz1, hz2⟩ := info_parts infoI64
  have HBL := Lib.hid (show Below w.heap.size w (w.alloc (.cells #[] 2)) from (Below.refl _ _).alloc (Nat.le_refl _) _)
  by_cases hn : 0 < n
  · obtain ⟨b, o, rfl, hb, hc⟩ := hcell hn
    have HC := Lib.hid hc
    clear hcell hc hwf
    go_enter Try.func96, Try.ntmps96
    go_wp2_with (at_builtin; refine wpList_append_own _ rfl (.tmp 3) (.tmp 4) 24 rfl w.heap.size 2 i0 (.int .i64 0) 1 8 Try.underlying24 hi hz0 hz1 hz2 rfl (by decide) _ 0 [] rfl (owns_empty w _) ⟨b, o, none⟩ n c (cellsOfF n f) rfl ?c1 ?c2 ?c3 ?c4 ?c5 ?c6 ?_)
    case c1 => rw [cellsOfF_len]; omega
    case c2 =>
      intro j u hj
      have hjn : j < n := by
        rcases Nat.lt_or_ge j n with h | h
        · exact h
        · rw [List.getElem?_eq_none (by rw [cellsOfF_len]; exact h)] at hj; cases hj
      rw [cellsOfF_at hjn] at hj
      cases hj
      have e : (⟨b, o, none⟩ : Addr).add j = ⟨b, o + j, none⟩ := by unfold Addr.add; split <;> simp_all
      rw [e, HBL.out.cell (p := ⟨b, o + j, none⟩) hb]
      exact HC.out j hjn
    case c3 => intro u hu; simp [cellsOfF] at hu; obtain ⟨i, _, rfl⟩ := hu; rfl
    case c4 => unfold maxLen; omega
    case c5 => omega
    case c6 => simp
    intro v' w1 hown hg _
    have HBB := Lib.hid (HBL.out.grown hg (by simp) (fun k hk => by simp [Value.ownBlock] at hk; omega))
    have HO := Lib.hid hown
    clear hown hg
    go_wp2
    go_ret
    exact ⟨v', rfl, HO.out, HBB.out⟩
  · obtain rfl : n = 0 := by omega
    cases A with
    | none =>
      go_enter Try.func96, Try.ntmps96
      go_wp2_with (at_builtin; refine wpList_append_none0 rfl (.tmp 3) (.tmp 4) 24 rfl w.heap.size 2 i0 1 Try.underlying24 hi _ 0 [] rfl (owns_empty w _) c rfl ?_)
      go_ret
      exact ⟨_, rfl, by rw [cells_zero]; exact owns_empty w _, HBL.out⟩
    | some ad =>
      go_enter Try.func96, Try.ntmps96
      go_wp2_with (at_builtin; refine wpList_append_own _ rfl (.tmp 3) (.tmp 4) 24 rfl w.heap.size 2 i0 (.int .i64 0) 1 8 Try.underlying24 hi hz0 hz1 hz2 rfl (by decide) _ 0 [] rfl (owns_empty w _) ad 0 c [] rfl rfl (fun j u hj => by simp at hj) (fun u hu => by simp at hu) (by decide) (by decide) (by simp) ?_)
      intro v' w1 hown hg _
      have HBB := Lib.hid (HBL.out.grown hg (by simp) (fun k hk => by simp [Value.ownBlock] at hk; omega))
      have HO := Lib.hid hown
      clear hown hg
      go_wp2
      go_ret
      exact ⟨v', rfl, by rw [cells_zero]; exact HO.out, HBB.out⟩
/-- copies of the parents and the log -/
def JnMade2 (n : Nat) (f : Nat → Int) (m : Nat) (g : Nat → Int) (w : World) (e : Ending) (w' : World) : Prop :=
  ∃ A c B d, e = .returned (.agg #[.slice A n c, .slice B m d]) ∧ w'.ownsRow (w.heap.size + 1) 2 1 (.slice A n c) n (cellsOfF n f) ∧ w'.ownsRow (w.heap.size + 1) 2 1 (.slice B m d) m (cellsOfF m g) ∧ (∀ q, (Value.slice A n c).ownBlock = some q → (Value.slice B m d).ownBlock = some q → False) ∧ Below w.heap.size w w'
set_option maxHeartbeats 2000000 in
theorem spec_ownJ2 (w : World) (p : Nat) (A : Option Addr) (n c : Nat) (f : Nat → Int) (B : Option Addr) (m d : Nat) (g : Nat → Int) (hb : Cel w p [.slice A n c, .slice B m d]) (hr : Row .i64 w A n c f) (hr' : Row .i64 w B m d g) (hn : n ≤ 1048576) (hm : m ≤ 1048576) :
    Calls Try.prog 67 #[.pointer (some ⟨p, 0, none⟩)] w (JnMade2 n f m g w) := by
  have HR := Lib.hid hr
  have HR' := Lib.hid hr'
  have hbel := (Below.refl w.heap.size w).alloc (Nat.le_refl _) (.cells #[.slice none 0 0, .slice none 0 0] 26)
  have HL := Lib.hid hbel
  have HX := Lib.hid (hb.below hbel hb.1)
  have HZ := Lib.hid (At.new w #[.slice none 0 0, .slice none 0 0] 26)
  have hp := hb.1
  have hpz := HX.out.1
  have k0 : (w.alloc (.cells #[.slice none 0 0, .slice none 0 0] 26)).cell? ⟨p, 0, none⟩ = some (.slice A n c) := HX.out.2 0 _ rfl
  have k1 : (w.alloc (.cells #[.slice none 0 0, .slice none 0 0] 26)).cell? ⟨p, 1, none⟩ = some (.slice B m d) := HX.out.2 1 _ rfl
  have HRd := Lib.hid (HR.out.below HL.out.drew (Nat.le_refl _))
  have HRd' := Lib.hid (HR'.out.below HL.out.drew (Nat.le_refl _))
  clear hr hr' hb hbel
  go_enter Try.func67, Try.ntmps67
  go_wp2
  go_region_with (first
    | (go_at_call 96; (with_reducible refine (own_owns _ A n c f HRd.out hn).mono ?_); rintro e wa ⟨va, rfl, hO, ba⟩; obtain ⟨A1, c1, rfl⟩ := owns_slice hO; have b1' := ((Below.refl _ (w.alloc (.cells #[.slice none 0 0, .slice none 0 0] 26))).drew).trans ba; have HBa := Lib.hid (HL.out.trans (b1'.mono (by simp))); have HXa := HX.out.below b1' hpz; have hpa := HXa.1; have k1a : wa.cell? ⟨p, 1, none⟩ = some (.slice B m d) := HXa.2 1 _ rfl; have HZa := Lib.hid (HZ.out.below b1' (by simp)); have HO := Lib.hid hO; have HRa := Lib.hid (HR'.out.below HBa.out (Nat.le_refl _)); have HRa' := Lib.hid (HR'.out.below HBa.out.drew (Nat.le_refl _)); have zba := ba.size; clear ba b1' hO HXa)
    | (go_at_call 96; (first | (with_reducible refine (own_owns _ B m d g HRa.out hm).mono ?_) | (with_reducible refine (own_owns _ B m d g HRa'.out hm).mono ?_)); rintro e wb ⟨vb, rfl, hO2, bb⟩; obtain ⟨B1, d1, rfl⟩ := owns_slice hO2; have HZb := Lib.hid (HZa.out.below bb (by first | exact HZa.out.lt | (have := HZa.out.lt; simpa using this))); have HBb := Lib.hid (HBa.out.trans (bb.mono HBa.out.size)); have HO1 := Lib.hid (owns_belowS HO.out bb); have HO2 := Lib.hid hO2; have zbb := bb.size; have lz := HZb.out.lt; have q0 : wb.cell? ⟨w.heap.size, 0, none⟩ = some (.slice none 0 0) := HZb.out.cellv (i := 0) rfl; have q1 : wb.cell? ⟨w.heap.size, 1, none⟩ = some (.slice none 0 0) := HZb.out.cellv (i := 1) rfl; have f0 := HZb.out.frozen 0; have f1 := HZb.out.frozen 1; clear bb hO2))
  all_goals
    have h0 : ∀ q, (Value.slice A1 n c1).ownBlock = some q → w.heap.size + 1 ≤ q ∧ q < wa.heap.size := fun q hq => by have h := HO.out.lt q hq; have h2 := sz_drew w (.cells #[.slice none 0 0, .slice none 0 0] 26); omega
    have h1 : ∀ q, (Value.slice B1 m d1).ownBlock = some q → wa.heap.size ≤ q ∧ w.heap.size + 1 ≤ q := fun q hq => by have h := (HO2.out.lt q hq).1; have h2 := HZa.out.lt; exact ⟨by first | exact h | simpa using h, by omega⟩
    have HO1' := Lib.hid (owns_mono HO1.out (show w.heap.size + 1 ≤ _ by have h2 := sz_drew w (.cells #[.slice none 0 0, .slice none 0 0] 26); omega))
    have HO2' := Lib.hid (owns_mono HO2.out (show w.heap.size + 1 ≤ _ by have h2 := HZa.out.lt; first | omega | (simp; omega)))
    go_wp2
    refine bodyPost_ret (v := .agg #[.slice A1 n c1, .slice B1 m d1]) (by simp [results, Try.results67, go_sem, q0, q1]) rfl ⟨A1, c1, B1, d1, rfl, ?_, ?_, ?_, ?_⟩
    · exact ownsRow_setCell_below (ownsRow_setCell_below HO1'.out (by simp) _) (by simp) _
    · exact ownsRow_setCell_below (ownsRow_setCell_below HO2'.out (by simp) _) (by simp) _
    · intro q h2 h3
      have := h0 q h2
      have := h1 q h3
      omega
    · exact (HBb.out.setCell (by simp) _).setCell (by simp) _
end Go.Proofs.Ytneknajeecgnoaa.Base
