/-
  The changes of a forest are taken back.
-/
import Derived.Test.YtneknajeecgnoaaBwd
import Derived.Shelf.Abstract
namespace Go.Proofs.Ytneknajeecgnoaa.Base
open Go Go.RowKit
set_option linter.unusedVariables false
set_option linter.unusedSimpArgs false
attribute [local go_sem] Oper.semAt_some

/-- what stands in the rounds -/
def RsI (w : World) (F E n : Nat) (p : Nat → Nat) (L : List (Nat × Nat)) (X : List Nat) (k : Nat) (A : World) : Prop :=
  X = [E] ∧ Elm A E n (undo (L.drop (L.length - k)) p) ∧ Frm w.heap.size F E w A ∧ A.heap[F]? = w.heap[F]?
theorem Elm.putObj {w : World} {E n : Nat} {p : Nat → Nat} (h : Elm w E n p) {l : Nat} (hl : l ≠ E) (o' : Obj) : Elm (w.putObj l o') E n p := h.of_block (World.putObj_heap_other (fun e => hl e.symm))
theorem Frm.put {base F E : Nat} {w A : World} (h : Frm base F E w A) {l : Nat} (hl : base ≤ l) (o' : Obj) : Frm base F E w (A.putObj l o') :=
  ⟨h.os, h.tape, h.output, by simpa using h.size, fun k h1 h2 h3 => (World.putObj_heap_other (by omega)).trans (h.block k h1 h2 h3)⟩
theorem Frm.set {base F E : Nat} {w A : World} (h : Frm base F E w A) {b : Nat} (hb : base ≤ b ∨ b = E ∨ b = F) (i : Nat) (v : Value) : Frm base F E w (A.setCell ⟨b, i, none⟩ v) :=
  ⟨h.os, h.tape, h.output, by simpa [World.setCell] using h.size, fun k h1 h2 h3 => (Below.heap_setCell A ⟨b, i, none⟩ v k (by show k ≠ b; rcases hb with hb | hb | hb <;> omega)).trans (h.block k h1 h2 h3)⟩
theorem Frm.bel {base F E K : Nat} {w A A' : World} (h : Frm base F E w A) (hb : Below K A A') (hK : base ≤ K) : Frm base F E w A' :=
  ⟨hb.os.trans h.os, hb.tape.trans h.tape, hb.output.trans h.output, Nat.le_trans h.size hb.size, fun k h1 h2 h3 => (hb.block k (by omega)).trans (h.block k h1 h2 h3)⟩
theorem holds_rsI {w : World} {F E n B : Nat} {p : Nat → Nat} {L : List (Nat × Nat)} (hF : F < w.heap.size) (hB : w.heap.size ≤ B) : HoldsY B (RsI w F E n p L) where
  below := fun X k A A' ⟨h1, h2, h3, h4⟩ hb => ⟨h1, h2.of_block (hb.block E h2.lt), h3.bel hb (by exact h3.size), (hb.block F (by have := h3.size; omega)).trans h4⟩
  put := fun X k A l o' ⟨h1, h2, h3, h4⟩ hl hX ho => ⟨h1, h2.putObj (by rintro rfl; exact hX (by rw [h1]; simp)) o', h3.put (by omega) o', (World.putObj_heap_other (by omega)).trans h4⟩
  set := fun X k A b i u ⟨h1, h2, h3, h4⟩ hl hX => ⟨h1, h2.of_block (Below.heap_setCell A ⟨b, i, none⟩ u E (by show E ≠ b; rintro rfl; exact hX (by rw [h1]; simp))), h3.set (.inl (by omega)) i u, (Below.heap_setCell A ⟨b, i, none⟩ u F (by show F ≠ b; omega)).trans h4⟩
theorem at_putR {A : World} {p : Nat} {cs : Array Value} {T : TypeId} (h : At A p cs T) {l : Nat} {o' : Obj} (ho : ∃ o : Obj, A.heap[l]? = some o ∧ o.isCells = false) : At (A.putObj l o') p cs T := by
  refine h.of_block (World.putObj_heap_other ?_)
  rintro rfl
  obtain ⟨o, h1, h2⟩ := ho
  unfold At at h
  rw [h] at h1
  cases h1
  cases h2
theorem holds_noY (B : Nat) : HoldsX B (fun _ _ => False) := ⟨fun _ _ _ h _ => h, fun _ _ _ _ h _ _ => h⟩
theorem drop_step {L : List (Nat × Nat)} {k j : Nat} (hk : k < L.length) (hj : L.length - 1 - k = j) : L.drop (L.length - (k + 1)) = L.getD j (0, 0) :: L.drop (L.length - k) := by
  have e1 : L.length - (k + 1) = j := by omega
  have e2 : L.length - k = j + 1 := by omega
  have hjl : j < L.length := by omega
  rw [e1, e2, List.drop_eq_getElem_cons hjl]
  simp [List.getD_eq_getElem?_getD, hjl]
/-- what restore leaves -/
def Restored (w : World) (F E n : Nat) (lv : Value) (p : Nat → Nat) (L : List (Nat × Nat)) (e : Ending) (w' : World) : Prop :=
  (∃ v, e = .returned v) ∧ Elm w' E n (undo L p) ∧ At w' F #[.slice (some ⟨E, 0, none⟩) n n, lv, .slice none 0 0] 95 ∧ Frm w.heap.size F E w w'
set_option maxHeartbeats 4000000 in
theorem impl_restore (w : World) (base F E n : Nat) (lv cv : Value) (p : Nat → Nat) (L : List (Nat × Nat)) (u : FrameMode) (hs : Fst w base F E n lv cv p L) (hn : n ≤ 256) (hL : L.length ≤ 1000000) (hin : ∀ c ∈ L, c.1 < n) :
    CallsD Try.prog 95 #[.pointer (some ⟨F, 0, none⟩)] u w (fun e u' w' => u' = u ∧ Restored w F E n lv p L e w') := by
  have HS := Lib.hid hs
  have HIN := Lib.hid hin
  obtain ⟨A, cap, rfl⟩ := owns_slice hs.chg
  have hG : ∃ G, G < w.heap.size ∧ G ≠ E ∧ (0 < L.length → A = some ⟨G, 0, none⟩ ∧ ChA w G E L) := by
    by_cases h0 : 0 < L.length
    · obtain ⟨G, c, e1, e2, e3⟩ := owns_chA hs.chg h0
      injection e1 with e1 e4 e5
      exact ⟨G, e3.lt, by have := hs.far2; omega, fun _ => ⟨e1, e3⟩⟩
    · exact ⟨F, hs.box.lt, hs.ne, fun h => absurd h h0⟩
  obtain ⟨G, gz, gE, hG⟩ := hG
  have HG := Lib.hid hG
  have b2 := hs.box.cellv (i := 2) rfl
  have fz := hs.box.lt
  have ez := hs.elm.lt
  have hEF := hs.ne
  clear hs hin hG
  refine callsD_of_wp_mark (n := 4) Try.func95 rfl ?_
  simp only [Try.ntmps95, List.size_toArray, List.length_cons, List.length_nil, Nat.reduceAdd, Nat.reduceSub, Array.replicate_succ, Array.replicate_zero, List.push_toArray, List.append_toArray, List.nil_append, List.cons_append]
  gi_wp2_with fail
  refine ⟨trivial, (callsIn_wide.2 (impl_backward w A L.length cap)).mono ?_⟩
  rintro e w1 ⟨rfl, rfl⟩
  clear b2
  have hb1 := (Below.refl w.heap.size w).alloc (Nat.le_refl _) (.cells #[.slice A L.length cap] 93)
  have HP := Lib.hid (At.new w #[.slice A L.length cap] 93)
  have HB := Lib.hid hb1
  have HG1 := Lib.hid (fun h : 0 < L.length => (show A = some ⟨G, 0, none⟩ ∧ ChA (w.alloc (.cells #[.slice A L.length cap] 93)) G E L from ⟨(HG.out h).1, (HG.out h).2.of_block (hb1.block G gz)⟩))
  have hz1 : (w.alloc (.cells #[.slice A L.length cap] 93)).heap.size = w.heap.size + 1 := by simp
  clear hb1 HG
  obtain ⟨pb, hpb⟩ : ∃ pb, w.heap.size = pb := ⟨_, rfl⟩
  have HPB := Lib.hid hpb
  rw [hpb] at HP hz1 fz ez gz ⊢
  clear hpb
  gi_wp2
  generalize hw1 : w.alloc (.cells #[.slice A L.length cap] 93) = w1 at *
  clear hw1
  have hit : IterY Fence.wide 3 Try.prog 119 #[.pointer (some ⟨pb, 0, none⟩)] (fun k => #[.int .i64 ((L.length : Int) - 1 - k), chE E L (L.length - 1 - k)]) L.length 0 [pb, G] w1 := bwd_iter 3 (by omega) w1 E pb G A cap L HP.out HG1.out (by omega)
  refine wpIn_rangeY rfl (by omega) (gf := 119) (lb := #[.pointer (some ⟨pb, 0, none⟩)]) rfl trivial (enters_of Try.func119 (by kernel_rfl) rfl) hit (Nat.zero_le _) (by simp; omega) (Below.refl _ _) (fun _ => rfl)
    (RsI w F E n p L) (fun _ _ _ => False) (holds_rsI (by rw [HPB.out]; exact fz) (by have := HPB.out; omega)) (fun _ => holds_noY _) [E] (by simp; omega)
    ⟨rfl, ?start, ?frm0, ?box0⟩
    (fun k a' X => ∃ p3, a' = { tmps := #[.pointer (some ⟨F, 0, none⟩), undef, undef, .pointer (some ⟨p3, 0, none⟩), .pointer (some ⟨F, 0, none⟩), .pointer (some ⟨F, 0, none⟩), .pointer (some ⟨F, 2, none⟩), .slice A L.length cap, .func (.func 119) #[] #[.pointer (some ⟨pb, 0, none⟩)], .int .i64 ((L.length : Int) - 1 - k),
        .agg #[.pointer (some ⟨E, (L.getD (L.length - 1 - k) (0, 0)).1 * 2, none⟩), .pointer (some ⟨E, (L.getD (L.length - 1 - k) (0, 0)).2 * 2, none⟩)], undef, undef, undef, undef, undef, undef, undef, undef, undef], defers := [] } ∧ At X p3 #[.pointer (some ⟨E, (L.getD (L.length - 1 - k) (0, 0)).1 * 2, none⟩), .pointer (some ⟨E, (L.getD (L.length - 1 - k) (0, 0)).2 * 2, none⟩)] 130)
    (fun k a' X l o' h ho => by obtain ⟨p3, e, ha⟩ := h; exact ⟨p3, e, at_putR ha ho⟩) ?assign ?body ?done ?stop
  case start =>
    have h := HS.out.elm.of_block (HB.out.block E (by rw [HPB.out]; exact ez))
    simpa [undo] using h
  case frm0 =>
    exact (Frm.refl w.heap.size F E w).bel HB.out (Nat.le_refl _)
  case box0 => exact HB.out.block F (by rw [HPB.out]; exact fz)
  case assign =>
    intro l j X Aw K hj hX hi hK
    clear hit
    dsimp only [chE]
    obtain ⟨⟨x, y⟩, hq⟩ : ∃ q, L.getD (L.length - 1 - j) (0, 0) = q := ⟨_, rfl⟩
    rw [hq] at hK ⊢
    clear hq
    gi_wp2
    exact hK _ _ ((Below.refl _ _).alloc (Nat.le_refl _) _) ⟨_, rfl, At.new _ _ _⟩
  case body =>
    rintro l k X a' Aw hk hX hXb ⟨rfl, i2, i3, i4⟩ ⟨p3, rfl, h3⟩
    clear hit
    have HI2 := Lib.hid i2
    have HI3 := Lib.hid i3
    have HI4 := Lib.hid i4
    have hjl : L.length - 1 - k < L.length := by omega
    have hmem : L.getD (L.length - 1 - k) (0, 0) ∈ L := by simp [List.getD_eq_getElem?_getD, hjl]
    have hstep := drop_step hk (j := L.length - 1 - k) rfl
    obtain ⟨⟨x, y⟩, hq⟩ : ∃ q, L.getD (L.length - 1 - k) (0, 0) = q := ⟨_, rfl⟩
    rw [hq] at h3 hmem hstep ⊢
    have hx : x < n := HIN.out _ hmem
    have HST := Lib.hid hstep
    have H3 := Lib.hid h3
    obtain ⟨-, e1, -, e2⟩ := i2.at_ hx
    have q0 := h3.cellv (i := 0) rfl
    have q1 := h3.cellv (i := 1) rfl
    have l3 := h3.lt
    have lE := i2.lt
    clear hq hmem hstep h3 i2 i3 i4
    gi_wp2
    refine ⟨[E], ⟨rfl, ?_, HI3.out.set (.inr (.inl rfl)) _ _, (Below.heap_setCell Aw ⟨E, x * 2 + 1, none⟩ _ F hEF).trans HI4.out⟩, Ext.set _ _ _ (by simp), fun b hb => ⟨.inl hb, by simp at hb; subst hb; simpa [World.setCell] using lE⟩⟩
    rw [HST.out]
    exact HI2.out.put hx y
  case done =>
    rintro D X W hD hXb ⟨rfl, i2, i3, i4⟩ hK
    clear hit
    have HI2 := Lib.hid i2
    have HI3 := Lib.hid i3
    have HKD := Lib.hid hK
    have HF := Lib.hid (HS.out.box.of_block i4)
    have c2 := HF.out.cellv (i := 2) rfl
    have f2 := HF.out.frozen 2
    have lF := HF.out.lt
    clear i2 i3 i4 hK
    gi_wp2
    have hFD : F ≠ D := by omega
    have hED : E ≠ D := by omega
    have HKX := Lib.hid (show (W.setCell ⟨F, 2, none⟩ (.slice none 0 0)).heap[D]? = some (.deferred (some [])) from by
      rw [Below.heap_setCell _ _ _ _ (by simpa using fun e => hFD e.symm)]; exact HKD.out)
    refine ⟨D, #[], _, rfl, run_takeDeferred HKX.out, _, results_none rfl _ _ _, ⟨_, rfl⟩, ?_, ?_, ?_⟩
    · have h := (HI2.out.of_block (Below.heap_setCell W ⟨F, 2, none⟩ (.slice none 0 0) E (fun e => hEF e.symm))).putObj (fun e => hED e.symm) (.deferred none)
      simpa using h
    · exact at_putR (HF.out.set 2 (.slice none 0 0)) ⟨_, HKX.out, rfl⟩
    · exact (HI3.out.set (.inr (.inr rfl)) _ _).put (by have := HPB.out; omega) _
  case stop => rintro D t k X hD hk h _; exact h.elim
end Go.Proofs.Ytneknajeecgnoaa.Base
