/-
  GroupsOf of the program; what both sides return.
-/
import Derived.Test.YtneknajeecgnoaaGss
namespace Go.Proofs.Ytneknajeecgnoaa.Base
open Go Go.RowKit
set_option linter.unusedVariables false
set_option linter.unusedSimpArgs false
theorem ivs_cells (l : List Int) : ivs l = cellsOfF l.length (fun j => l.getD j 0) := by
  refine List.ext_getElem? (fun j => ?_)
  by_cases h : j < l.length
  · rw [cellsOfF_at h]
    unfold ivs
    rw [List.getElem?_map, List.getElem?_eq_getElem h]
    simp [h]
  · rw [List.getElem?_eq_none (by unfold ivs; simp; omega), List.getElem?_eq_none (by rw [cellsOfF_len]; omega)]
theorem getD_mem (l : List Int) {j : Nat} (h : j < l.length) : l.getD j 0 ∈ l := by
  rw [List.getD_eq_getElem?_getD, List.getElem?_eq_getElem h]
  exact List.getElem_mem h
def slP : Value → Option Addr | .slice p _ _ => p | _ => none
def slC : Value → Nat | .slice _ _ c => c | _ => 0
theorem own_blk {A : Option Addr} {n c b : Nat} (h : blk A = some b) : (Value.slice A n c).ownBlock = some b := by
  cases A with
  | none => simp [blk] at h
  | some ad => simpa [blk, Value.ownBlock] using h
theorem LLs.own {w : World} {base c : Nat} {A : Option Addr} {L : List (List Int)} {V : List Value} (h : LLs w base (.slice A L.length c) L V) (hw : ∀ l ∈ L, ∀ x ∈ l, (Lit.int .i64 x).wf = true) :
    LOwn w base A L.length c (fun i => slP (V.getD i undef)) (fun i => (L.getD i []).length) (fun i => slC (V.getD i undef)) (fun i j => (L.getD i []).getD j 0) := by
  have hv : ∀ i, i < L.length → V[i]? = some (.slice (slP (V.getD i undef)) (L.getD i []).length (slC (V.getD i undef))) ∧ L[i]? = some (L.getD i []) := fun i hi => by
    obtain ⟨v, h1, h2⟩ := h.at_ hi
    obtain ⟨P, cc, e⟩ := owns_slice (h.row i v _ h1 h2)
    subst e
    have e2 : V.getD i undef = .slice P (L.getD i []).length cc := by rw [List.getD_eq_getElem?_getD, h1]; rfl
    rw [e2]
    exact ⟨h1, h2⟩
  refine ⟨?_, ?_, fun hn => ?_, fun i hi => ?_, fun i hi hn b h1 h2 => ?_, fun i j hi hj hij _ _ b h1 h2 => ?_⟩
  · rcases h.out.2 with ⟨e, e2⟩ | ⟨g, cap, cur, e, -, -, h3, h4, -⟩
    · injection e with _ _ e3; omega
    · injection e with _ _ e3; omega
  · rcases h.out.2 with ⟨e, e2⟩ | ⟨g, cap, cur, e, -, -, h3, h4, -⟩
    · injection e with _ _ e3; unfold maxLen; omega
    · injection e with _ _ e3; omega
  · rcases h.out.2 with ⟨e, e2⟩ | ⟨g, cap, cur, e, h1, -⟩
    · omega
    · injection e with e1 _ e3
      subst e1 e3
      exact ⟨g, rfl, h1, (h.out.lt g rfl).2, fun i hi => by rw [h.out.cellAt i (by omega)]; exact (hv i hi).1⟩
  · obtain ⟨h1, h2⟩ := hv i hi
    have h3 := h.row i _ _ h1 h2
    rw [ivs_cells] at h3
    refine ownRow_any h3 (fun j hj => ?_)
    have hm := getD_mem (L.getD i []) hj
    exact hw _ (List.mem_of_getElem? h2) _ hm
  · exact h.apO i _ (hv i hi).1 b (own_blk h1) (own_blk h2)
  · exact h.apI i j _ _ hij (hv i hi).1 (hv j hj).1 b (own_blk h1) (own_blk h2)
/-- a list of lists and a code, made by the call -/
def LOut (n : Nat) (N : Nat → Nat) (F : Nat → Nat → Int) (code : Int) (w : World) (e : Ending) (w' : World) : Prop :=
  ∃ A c P C, e = .returned (.tuple #[.slice A n c, .int .i64 code]) ∧ LOwn w' w.heap.size A n c P N C F ∧ Below w.heap.size w w'
theorem LLOutC.out {L : List (List Int)} (hw : ∀ l ∈ L, ∀ x ∈ l, (Lit.int .i64 x).wf = true) {w : World} {e : Ending} {w' : World} (h : LLOutC L w e w') : LOut L.length (fun i => (L.getD i []).length) (fun i j => (L.getD i []).getD j 0) 0 w e w' := by
  obtain ⟨A, c, V, e1, h1, h2⟩ := h
  exact ⟨A, c, _, _, e1, h1.own hw, h2⟩
theorem lown_nil (w : World) (base : Nat) (N : Nat → Nat) (F : Nat → Nat → Int) : LOwn w base none 0 0 (fun _ => none) N (fun _ => 0) F :=
  ⟨Nat.le_refl _, by unfold maxLen; omega, fun h => absurd h (Nat.lt_irrefl _), fun i h => absurd h (Nat.not_lt_zero _), fun i h => absurd h (Nat.not_lt_zero _), fun i j h => absurd h (Nat.not_lt_zero _)⟩
theorem impl_groups_bad (w : World) (A : Option Addr) (n c : Nat) (f : Nat → Int) (B : Option Addr) (m d : Nat) (g : Nat → Int) (hr : Row .i64 w A n c f) (hr' : Row .i64 w B m d g) (hv : vjB n f m g = false) :
    Calls Try.prog 19 #[.agg #[.slice A n c, .slice B m d]] w (Gives (.tuple #[.slice none 0 0, .int .i64 1]) w) := by
  have HL := Lib.hid ((Below.refl w.heap.size w).alloc (Nat.le_refl _) (.cells #[.slice A n c, .slice B m d] 26))
  have HC := Lib.hid (impl_forestWith_no _ A n c f B m d g none 0 0 (hr.below HL.out (Nat.le_refl _)) (hr'.below HL.out (Nat.le_refl _)) hv)
  clear hr hr' hv
  go_enter Try.func19, Try.ntmps19
  go_wp2_with fail
  refine HC.out.mono ?_
  rintro e w1 ⟨rfl, b1⟩
  go_wp2
  go_ret2
  exact ⟨rfl, HL.out.trans (b1.mono (by simp))⟩
theorem impl_groups_ok (w : World) (A : Option Addr) (n c : Nat) (f : Nat → Int) (B : Option Addr) (m d : Nat) (g : Nat → Int) (rt : Nat → Nat) (hrt : ∀ k, upN f m k = rt k) (hr : Row .i64 w A n c f) (hr' : Row .i64 w B m d g) (hv : vjB n f m g = true) :
    Calls Try.prog 19 #[.agg #[.slice A n c, .slice B m d]] w (LLOutC (gs rt n).2 w) := by
  have HL := Lib.hid ((Below.refl w.heap.size w).alloc (Nat.le_refl _) (.cells #[.slice A n c, .slice B m d] 26))
  have HV := Lib.hid (vj_yes hv)
  have hn := (vj_yes hv).n2
  have hm := (vj_yes hv).le
  have h := impl_forestWith _ A n c f B m d g none 0 0 _ (hr.below HL.out (Nat.le_refl _)) (hr'.below HL.out (Nat.le_refl _)) (row_nil0 _) hv (by omega) true (by simp)
  rw [if_pos rfl] at h
  have HC := Lib.hid h
  have HRT := Lib.hid hrt
  clear hr hr' hv h hrt
  go_enter Try.func19, Try.ntmps19
  go_wp2_with fail
  refine HC.out.mono ?_
  rintro e w1 ⟨F, E, lv, base, rfl, hfs, hlo, hne, hF, hE, b1⟩
  have HFS := Lib.hid hfs
  have hbase := hfs.low
  have hF1 := hfs.far1
  have HB1 := Lib.hid (HL.out.trans (b1.mono (by simp)))
  have hw1 : w.heap.size ≤ w1.heap.size := HB1.out.size
  simp only [World.size_alloc] at hF hE
  clear hfs hlo hne b1 HC
  go_wp2_with fail
  refine (impl_groups w1 base F E n lv (fun x => nrN f x m) (pNat f) rt HFS.out HV.out.fr hn (fun x hx => by have := nr_le (f := f) x m; omega) (fun x hx => by have h1 := HV.out.rt hx; rw [HRT.out] at h1; exact h1)).mono ?_
  rintro e w2 ⟨A2, c2, V2, rfl, hl, fr⟩
  have HL2 := Lib.hid (hl.mono hw1)
  have HB2 := Lib.hid (HB1.out.trans (fr.below (B := w.heap.size) (by omega) (by omega) (by omega)))
  clear hl fr
  go_wp2
  go_ret2
  exact ⟨A2, c2, V2, rfl, HL2.out, HB2.out⟩
end Go.Proofs.Ytneknajeecgnoaa.Base
