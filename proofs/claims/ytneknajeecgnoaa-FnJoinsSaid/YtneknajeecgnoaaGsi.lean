/-
  All groups: the program's forest lists them.
-/
import Derived.Test.YtneknajeecgnoaaGsm
import Derived.Test.YtneknajeecgnoaaCgs
import Derived.Test.YtneknajeecgnoaaMpz
import Derived.Deep.DeepCutAuto
import Derived.Maps.OwnSet
namespace Go.Proofs.Ytneknajeecgnoaa.Base
open Go Go.RowKit
set_option linter.unusedVariables false
set_option linter.unusedSimpArgs false

/-- block b is a map of at most n entries: for each number r with p r > 0 the number p r - 1 -/
def PlcM (w : World) (b n : Nat) (p : Nat → Nat) : Prop :=
  ∃ D : DataW Nat, w.ownsMap Try.prog 2 (plainElem Try.prog 3) b n D ∧ ∀ r : Nat, r ≤ 1000 → Maps.has D (.int .i64 r) = decide (p r ≠ 0) ∧ (p r ≠ 0 → D.atKey (.int .i64 r) (.lit (.int .i64 0)) = .lit (.int .i64 ((p r - 1 : Nat) : Int)))
section
variable {w w' : World} {b n : Nat} {p : Nat → Nat}
theorem PlcM.lt (h : PlcM w b n p) : b < w.heap.size := by
  obtain ⟨D, ⟨es, cl, hb, _⟩, _⟩ := h
  exact (Array.getElem?_eq_some_iff.1 hb).1
theorem PlcM.of_block (h : PlcM w b n p) (e : w'.heap[b]? = w.heap[b]?) : PlcM w' b n p := by
  obtain ⟨D, ⟨es, cl, hb, h1, h2, h3⟩, h4⟩ := h
  exact ⟨D, ⟨es, cl, e.trans hb, h1, h2, h3⟩, h4⟩
theorem PlcM.more {n' : Nat} (h : PlcM w b n p) (hn : n ≤ n') : PlcM w b n' p := by
  obtain ⟨D, ⟨es, cl, hb, h1, h2, h3⟩, h4⟩ := h
  exact ⟨D, ⟨es, cl, hb, h1, Nat.le_trans h2 hn, h3⟩, h4⟩
theorem PlcM.new (w : World) : PlcM (w.alloc (.map #[] 0)) w.heap.size 0 (fun _ => 0) :=
  ⟨.map [], World.ownsMap_made w Try.prog 2 (plainElem Try.prog 3), fun r _ => ⟨rfl, fun h => absurd rfl h⟩⟩
theorem PlcM.lookOk (h : PlcM w b n p) {r : Nat} (hr : r ≤ 1000) : ∃ v, (Instr.lookup 131 (.map (some b)) (.int .i64 (r : Int)) true).run Try.prog w = .ok (.tuple #[v, .bool (decide (p r ≠ 0))]) w := by
  have hz : (Lit.int .i64 (r : Int)).wf = true := WalkArith.wf_i64 (by omega)
  obtain ⟨D, h1, h2⟩ := h
  obtain ⟨v, ps, hrun, hv⟩ := h1.look_ok (t := 131) (Maps.int_keyed Try.underlying2) Try.underlying131 (Try.zeroValue3 w) (plainElem_int Try.underlying3 (by decide)) (Maps.keyOf_int_mk Try.underlying2 hz)
  rw [(h2 r hr).1] at hrun
  exact ⟨v, hrun⟩
theorem PlcM.look (h : PlcM w b n p) {r : Nat} (hr : r ≤ 1000) (hp : p r ≠ 0) : (Instr.lookup 131 (.map (some b)) (.int .i64 (r : Int)) false).run Try.prog w = .ok (.int .i64 ((p r - 1 : Nat) : Int)) w := by
  have hz : (Lit.int .i64 (r : Int)).wf = true := WalkArith.wf_i64 (by omega)
  obtain ⟨D, h1, h2⟩ := h
  obtain ⟨c, hrun, hat, -⟩ := h1.lookup_int (t := 131) (Maps.int_keyed Try.underlying2) Try.underlying131 Try.underlying3 (Try.zeroValue3 w) (Maps.keyOf_int_mk Try.underlying2 (hz))
  have h3 := (h2 r hr).2 hp
  rw [hrun, (Lit.int.inj (DataW.lit.inj (hat.symm.trans h3))).2]
theorem PlcM.put (h : PlcM w b n p) {r : Nat} (hr : r ≤ 1000) (v : Nat) (hv : v ≤ 1000) (hn : n < maxLen) :
    ∃ w', (Instr.mapUpdate 131 (.map (some b)) (.int .i64 (r : Int)) (.int .i64 (v : Int))).run Try.prog w = .ok () w' ∧ PlcM w' b (n + 1) (fun x => if x = r then v + 1 else p x) ∧ w.grownBy w' (some b) := by
  have hz : (Lit.int .i64 (r : Int)).wf = true := WalkArith.wf_i64 (by omega)
  have hzv : (Lit.int .i64 (v : Int)).wf = true := WalkArith.wf_i64 (by omega)
  obtain ⟨D, h1, h2⟩ := h
  obtain ⟨w', hrun, r1, r2⟩ := h1.update (t := 131) (Maps.int_keyed Try.underlying2) Try.underlying131 hn (Maps.keyOf_int_mk Try.underlying2 (hz)) (plainElem_int Try.underlying3 (hzv))
  refine ⟨w', hrun, ⟨_, r1, fun s hs => ?_⟩, r2⟩
  by_cases e : s = r
  · subst e
    rw [Maps.has_put_same h1.isMap (by trivial), Maps.atKey_put_same h1.isMap (by trivial)]
    simp
  · have hne : Lit.int .i64 (s : Int) ≠ Lit.int .i64 (r : Int) := fun e' => e (by have := (Lit.int.inj e').2; omega)
    rw [Maps.has_put_other hne, Maps.atKey_put_other hne]
    simpa [e] using h2 s hs
end
theorem Fst.low' {w : World} {base F E n : Nat} {lv cv : Value} {p : Nat → Nat} {L : List (Nat × Nat)} (h : Fst w base F E n lv cv p L) : F < w.heap.size ∧ E < w.heap.size := ⟨h.box.lt, h.elm.lt⟩
/-- a list of lists, made by the call -/
def LLOut (F E base : Nat) (L : List (List Int)) (w : World) (e : Ending) (w' : World) : Prop :=
  ∃ A c V, e = .returned (.slice A L.length c) ∧ LLs w' w.heap.size (.slice A L.length c) L V ∧ Frm base F E w w'
/-- block b belongs to a list of lists -/
def LBk (u : Value) (V : List Value) (b : Nat) : Prop := u.ownBlock = some b ∨ ∃ (i : Nat) (v : Value), V[i]? = some v ∧ v.ownBlock = some b
theorem LLs.ofb {w w' : World} {base : Nat} {u : Value} {L : List (List Int)} {V : List Value} (h : LLs w base u L V) (hs : w.heap.size ≤ w'.heap.size) (hb : ∀ b, b < w.heap.size → LBk u V b → w'.heap[b]? = w.heap[b]?) : LLs w' base u L V := by
  have key : ∀ {n s : Nat} {t : TypeId} {v : Value} {xs : List Value}, w.ownsRow base t s v n xs → (∀ b, v.ownBlock = some b → w'.heap[b]? = w.heap[b]?) → w'.ownsRow base t s v n xs := fun {n s t v xs} ho hk => by
    refine ⟨ho.1, ?_⟩
    rcases ho.2 with e | ⟨g, cap, cur, rfl, h1, h2, r⟩
    · exact .inl e
    · exact .inr ⟨g, cap, cur, rfl, h1, (hk g rfl).trans h2, r⟩
  exact ⟨key h.out (fun b e => hb b (h.out.lt b e).2 (.inl e)), fun i v l h1 h2 => key (h.row i v l h1 h2) (fun b e => hb b ((h.row i v l h1 h2).lt b e).2 (.inr ⟨i, v, h1, e⟩)), h.apO, h.apI⟩
theorem LLs.ge {w : World} {base : Nat} {u : Value} {L : List (List Int)} {V : List Value} (h : LLs w base u L V) {b : Nat} (hb : LBk u V b) : base ≤ b ∧ b < w.heap.size := by
  rcases hb with e | ⟨i, v, h1, e⟩
  · exact h.out.lt b e
  · have hl := h.len
    obtain ⟨v2, h3, h4⟩ := h.at_ (i := i) (by rw [← hl]; exact (List.getElem?_eq_some_iff.1 h1).1)
    rw [h1] at h3
    cases h3
    exact (h.row i v _ h1 h4).lt b e
theorem owns_frozen {w : World} {base n s cap g : Nat} {e : TypeId} {xs : List Value} (h : w.ownsRow base e s (.slice (some ⟨g, 0, none⟩) n cap) n xs) (i : Nat) : w.frozen? ⟨g, i, none⟩ = false := by
  rcases h.2 with ⟨e1, -⟩ | ⟨g1, c1, cur, e1, -, h2, -⟩
  · cases e1
  · injection e1 with e1
    injection e1 with e1
    injection e1 with e1 _ _
    subst e1
    simp [World.frozen?, h2]
/-- the changes' block, the map's, and those of the lists are apart -/
structure Apt (cv u : Value) (V : List Value) (mb : Nat) : Prop where
  cm : cv.ownBlock ≠ some mb
  cl : ∀ b, cv.ownBlock = some b → LBk u V b → False
  ml : ¬ LBk u V mb
theorem Apt.next {cv u u' : Value} {V V' : List Value} {mb K : Nat} (h : Apt cv u V mb) (hn : ∀ b, LBk u' V' b → LBk u V b ∨ K ≤ b) (hc : ∀ b, cv.ownBlock = some b → b < K) (hm : mb < K) : Apt cv u' V' mb :=
  ⟨h.cm, fun b e hx => (hn b hx).elim (h.cl b e) (fun h2 => by have := hc b e; omega), fun hx => (hn mb hx).elim h.ml (fun h2 => by omega)⟩
theorem lbk_next {u : Value} {V : List Value} {g cap n H b : Nat} (hat : u.ownBlock = some g ∨ H ≤ g) (h : LBk (.slice (some ⟨g, 0, none⟩) n cap) (V ++ [.slice none 0 0]) b) : LBk u V b ∨ H ≤ b := by
  rcases h with e | ⟨i, v, h1, e⟩
  · have e3 : g = b := by simpa [Value.ownBlock] using e
    subst e3
    exact hat.imp (fun h => .inl h) id
  · rcases Nat.lt_or_ge i V.length with h2 | h2
    · rw [List.getElem?_append_left h2] at h1
      exact .inl (.inr ⟨i, v, h1, e⟩)
    · rw [List.getElem?_append_right h2] at h1
      rcases Nat.eq_zero_or_pos (i - V.length) with h3 | h3
      · rw [h3] at h1
        simp at h1
        subst h1
        simp [Value.ownBlock] at e
      · rw [List.getElem?_eq_none (by simp; omega)] at h1; cases h1
theorem lbk_put {u v : Value} {V : List Value} {g cap n H b i : Nat} (hv : V[i]? = some v) (hat : v.ownBlock = some g ∨ H ≤ g) (h : LBk u (V.set i (.slice (some ⟨g, 0, none⟩) n cap)) b) : LBk u V b ∨ H ≤ b := by
  rcases h with e | ⟨j, v', h1, e⟩
  · exact .inl (.inl e)
  · rw [List.getElem?_set] at h1
    by_cases e2 : i = j
    · have hj : i < V.length := (List.getElem?_eq_some_iff.1 hv).1
      rw [if_pos e2, if_pos (by omega)] at h1
      simp at h1
      subst h1
      have e3 : g = b := by simpa [Value.ownBlock] using e
      subst e3
      exact hat.imp (fun h => .inr ⟨i, v, hv, h⟩) id
    · rw [if_neg e2] at h1
      exact .inl (.inr ⟨j, v', h1, e⟩)
theorem Fst.ofb {w w' : World} {base F E n : Nat} {lv cv : Value} {p : Nat → Nat} {L : List (Nat × Nat)} (h : Fst w base F E n lv cv p L) (hs : w.heap.size ≤ w'.heap.size) (hb : ∀ b, b < w.heap.size → b = F ∨ b = E ∨ cv.ownBlock = some b → w'.heap[b]? = w.heap[b]?) : Fst w' base F E n lv cv p L := by
  refine ⟨h.box.of_block (hb F h.box.lt (.inl rfl)), h.elm.of_block (hb E h.elm.lt (.inr (.inl rfl))), ?_, h.far1, h.far2, h.ne, Nat.le_trans h.low hs⟩
  refine ⟨h.chg.1, ?_⟩
  rcases h.chg.2 with e | ⟨g, cap, cur, e1, h1, h2, r⟩
  · exact .inl e
  · exact .inr ⟨g, cap, cur, e1, h1, (hb g (h.chg.lt g (by rw [e1]; rfl)).2 (.inr (.inr (by rw [e1]; rfl)))).trans h2, r⟩
theorem Frm.grow {base F E : Nat} {w w' : World} {r : Option Nat} (h : w.grownBy w' r) (hr : ∀ b, r = some b → base ≤ b) (hz : base ≤ w.heap.size) : Frm base F E w w' :=
  ⟨h.os, h.tape, h.output, h.size, fun k hk _ _ => h.block k (by omega) (fun e => by have := hr k e.symm; omega)⟩
set_option maxHeartbeats 8000000 in
set_option maxRecDepth 100000 in
theorem impl_groups (w : World) (base F E n : Nat) (lv : Value) (rk p0 rt : Nat → Nat) (hs : Fst w base F E n lv (.slice none 0 0) p0 []) (hf : FR n p0 rk) (hn : n ≤ 256) (hrk : ∀ x, x < n → rk x ≤ 256) (hrt : ∀ x, x < n → Rt p0 x (rt x)) :
    Calls Try.prog 63 #[.pointer (some ⟨F, 0, none⟩)] w (LLOut F E base (gs rt n).2 w) := by
  have hbw := hs.low
  have hF := hs.far1
  have hE := hs.far2
  have HRT := Lib.hid hrt
  have HRK := Lib.hid hrk
  have HF0 := Lib.hid hf
  have X1 := (Below.refl w.heap.size w).alloc (Nat.le_refl _) (.cells #[] 24)
  have X2 := X1.alloc X1.size (.map #[] 0)
  have HS := Lib.hid (hs.bel X2)
  have HB0 := Lib.hid X2
  have hmp := PlcM.new (w.alloc (.cells #[] 24))
  rw [World.size_alloc] at hmp
  have HP := Lib.hid hmp
  have ho := owns_empty w 24
  have HL0 : Hid (LLs ((w.alloc (.cells #[] 24)).alloc (.map #[] 0)) w.heap.size (.slice (some ⟨w.heap.size, 0, none⟩) 0 0) [] []) := Lib.hid ⟨owns_belowS ho ((Below.refl _ _).alloc (Nat.le_refl _) _), fun i v l h => by simp at h, fun i v h => by simp at h, fun i j v v' _ h => by simp at h⟩
  have hz2 : ((w.alloc (.cells #[] 24)).alloc (.map #[] 0)).heap.size = w.heap.size + 2 := by simp
  have b0 := HS.out.box.cellv (i := 0) rfl
  have bz := HS.out.box.lt
  obtain ⟨i0, hi, hzz0, hzz1, hzz2⟩ := info_parts infoI64
  obtain ⟨j0, hj, hyy0, hyy1, hyy2⟩ := info_parts infoLst
  have hmm := @run_makeMap Try.prog
  clear hs hf hrk hrt X1 X2 hmp ho
  go_enter Try.func63, Try.ntmps63
  go_wp2_with fail
  clear hmm
  generalize (w.alloc (.cells #[] 24)).alloc (.map #[] 0) = w2 at *
  obtain ⟨mb, hmb⟩ : ∃ mb, w.heap.size + 1 = mb := ⟨_, rfl⟩
  rw [hmb] at HP ⊢
  go_loopw [3, 16] (fun u iv wr => ∃ (k : Nat) (cv : Value) (p : Nat → Nat) (Lg : List (Nat × Nat)) (V : List Value), k ≤ n ∧ iv = .int .i64 (k : Int) ∧ Lg.length ≤ 256 * k ∧ Hid (LLs wr w.heap.size u (gs rt k).2 V) ∧ Hid (PlcM wr mb k (gs rt k).1) ∧ Hid (FR n p rk) ∧ Hid (∀ x y, x < n → (Rt p x y ↔ Rt p0 x y)) ∧ Hid (Fst wr base F E n lv cv p Lg) ∧ Hid (Frm base F E w wr) ∧ Hid (Apt cv u V mb)) (fun _ iv _ => n - (intOf iv).toNat)
  case atStart => exact ⟨0, .slice none 0 0, p0, [], [], Nat.zero_le _, rfl, Nat.zero_le _, HL0, HP, HF0, Lib.hid (fun x y _ => Iff.rfl), HS, Lib.hid ⟨HB0.out.os, HB0.out.tape, HB0.out.output, HB0.out.size, fun k hk _ _ => HB0.out.block k (by omega)⟩, Lib.hid ⟨by simp [Value.ownBlock], fun b e => by simp [Value.ownBlock] at e, fun h => by rcases h with h | ⟨i, v, h, _⟩; (simp [Value.ownBlock] at h; omega); (simp at h)⟩⟩
  case round =>
    clear HL0 HP HS b0 bz HB0
    obtain ⟨k, cv, p, Lg, V, hk, rfl, hlg, HL, HP, HF, HQ, HS, HW, HA⟩ := hrel
    have hwz := HW.out.size
    obtain ⟨Ao, co, rfl⟩ := owns_slice HL.out.out
    by_cases hlt : k < n
    · have hr := HRT.out k hlt
      obtain ⟨r, hre⟩ : ∃ r, rt k = r := ⟨_, rfl⟩
      rw [hre] at hr
      have hrn := hr.lt HF0.out hlt
      have hrk : r ≤ 1000 := by omega
      have HRE := Lib.hid hre
      have HRr := Lib.hid hr
      clear hr hre
      go_wp2_with fail
      refine (impl_standing2 wr base F E n lv cv rk p Lg k r HS.out HF.out hlt ((HQ.out k r hlt).2 HRr.out) hn (by omega) HRK.out).mono ?_
      rintro e w1 ⟨cv', p', L', rfl, f1, q1, u1, l1, d1, s1, fr1, kp⟩
      have hs1 := fr1.size
      have hL1 := HL.out.ofb hs1 (fun b hb hx => kp.1 b hb (by have := HL.out.ge hx; omega) (by have := HL.out.ge hx; omega) (fun e => HA.out.cl b e hx))
      have hmbl := HP.out.lt
      have hP1 := HP.out.of_block (kp.1 mb hmbl (by omega) (by omega) HA.out.cm)
      have hcb : ∀ b, cv'.ownBlock = some b → b < w1.heap.size := fun b e => (s1.chg.lt b e).2
      have hA1 : Apt cv' (.slice Ao (gs rt k).2.length co) V mb := by
        refine ⟨fun e => ?_, fun b e hx => ?_, HA.out.ml⟩
        · rcases kp.2 mb e with h | h
          · exact HA.out.cm h
          · omega
        · rcases kp.2 b e with h | h
          · exact HA.out.cl b h hx
          · have := (HL.out.ge hx).2; omega
      have HL1 := Lib.hid hL1
      have HP1 := Lib.hid hP1
      have HA1 := Lib.hid hA1
      have HF1 := Lib.hid f1
      have HQ1 := Lib.hid (fun x y (hx : x < n) => (q1 x y hx).trans (HQ.out x y hx))
      have HS1 := Lib.hid s1
      have HW1 := Lib.hid (HW.out.trans fr1)
      have HCB := Lib.hid hcb
      have hlg' : L'.length ≤ 256 * (k + 1) := by omega
      have hmb1 : mb < w1.heap.size := by omega
      obtain ⟨x1, -, -, -⟩ := s1.elm.at_ hrn
      have ez := s1.elm.lt
      obtain ⟨lv1, hlk⟩ := HP1.out.lookOk hrk
      obtain ⟨pr, hpre⟩ : ∃ pr, (gs rt k).1 r = pr := ⟨_, rfl⟩
      rw [hpre] at hlk
      have HPR := Lib.hid hpre
      have hlen := gs_len (rt := rt) k
      have hpb : pr ≤ (gs rt k).2.length := by rw [← hpre]; exact gs_bd k r
      have HMM := Lib.hid (gs_mem (rt := rt) k)
      clear f1 q1 u1 l1 d1 s1 fr1 kp hL1 hP1 hA1 hcb hpre HL HP HF HQ HS HW HA
      by_cases hp0 : pr = 0
      · have e1 : decide (pr ≠ 0) = false := by simp [hp0]
        rw [e1] at hlk
        have HG := Lib.hid (gs_new (rt := rt) (k := k) (by rw [HRE.out, HPR.out]; exact hp0))
        rw [HRE.out] at HG
        have HGS : Hid ((gs rt (k + 1)).2 = snocAt ((gs rt k).2 ++ [[]]) (gs rt k).2.length (k : Int)) := Lib.hid (by rw [HG.out])
        have HGP : Hid ((gs rt (k + 1)).1 = fun x => if x = r then (gs rt k).2.length + 1 else (gs rt k).1 x) := Lib.hid (by rw [HG.out])
        clear HG
        obtain ⟨w3, hup, hP3, hg3⟩ := HP1.out.put hrk (gs rt k).2.length (by omega) (by unfold maxLen; omega)
        have hw13 := hg3.size
        have hL3 := HL1.out.ofb hw13 (fun b hb hx => hg3.block b hb (fun e => HA1.out.ml (by cases e; exact hx)))
        have HL3 := Lib.hid hL3
        have HP3 := Lib.hid hP3
        have HG3 := Lib.hid hg3
        generalize hLx : (gs rt k).2 = L0 at *
        generalize hpx : (gs rt k).1 = p00 at *
        clear hLx hpx hL3 hP3 hg3
        have hXa := Lib.hid ((Below.refl w3.heap.size w3).alloc (Nat.le_refl _) (.cells #[.slice none 0 0] 24))
        have hXz : (w3.alloc (.cells #[.slice none 0 0] 24)).heap.size = w3.heap.size + 1 := by simp
        go_wp2_with (first
          | (at_builtin; refine wpList_append_lies _ (by rfl) _ _ _ (by rfl) w.heap.size 24 j0 _ 1 24 Try.underlying35 hj hyy0 hyy1 hyy2 rfl (by omega) _ L0.length V (by rfl) (owns_belowS HL3.out.out hXa.out) ⟨w3.heap.size, 0, none⟩ 1 1 [.slice none 0 0] (by rfl) (by rfl) (World.news_of_block (cs := #[.slice none 0 0]) (t := 24) (fr := (0, 0)) (heap_alloc_new w3 _)) (fun u hu => by simp at hu; subst hu; rfl) (by omega) (by unfold maxLen; omega) (by omega) (by simp; omega) (w3.heap.size + 1) (by simp) ?_; intro g6 cap6 w6 hown6 hgrow6 hat6 hlt6; have HOW6 := Lib.hid hown6; have HGR6 := Lib.hid hgrow6; have HAT6 := Lib.hid hat6; clear hown6 hgrow6 hat6))
        have hw36 := HGR6.out.size
        rw [hXz] at hw36
        have hk6 : ∀ b, b < w1.heap.size → b ≠ mb → (Value.slice Ao L0.length co).ownBlock ≠ some b → w6.heap[b]? = w1.heap[b]? := fun b hb h1 h2 =>
          ((HGR6.out.block b (by rw [hXz]; omega) (fun e => h2 e.symm)).trans (Below.heap_alloc w3 _ _ (by omega))).trans (HG3.out.block b hb (fun e => h1 (by cases e; rfl)))
        have hat7 : (Value.slice Ao L0.length co).ownBlock = some g6 ∨ w3.heap.size ≤ g6 := HAT6.out.imp id (fun e => by omega)
        have hub : ∀ b, (Value.slice Ao L0.length co).ownBlock = some b → w.heap.size ≤ b := fun b e => (HL3.out.out.lt b e).1
        have HLx0 := Lib.hid (HL3.out.next (wa := w3.alloc (.cells #[.slice none 0 0] 24)) (w5 := w6) (v := .slice none 0 0) hXa.out (World.ownsRow_nil _ _ _ _) (by omega) HOW6.out HGR6.out (HAT6.out.imp id (fun e => by rw [hXz]; omega)))
        have HPx0 := Lib.hid (HP3.out.of_block (w' := w6) ((HGR6.out.block mb (by rw [hXz]; omega) (fun e => HA1.out.ml (.inl e.symm))).trans (Below.heap_alloc w3 _ mb (by omega))))
        have HAx0 : Hid (Apt cv' (.slice (some ⟨g6, 0, none⟩) (L0.length + 1) cap6) (V ++ [.slice none 0 0]) mb) := Lib.hid (HA1.out.next (fun b hb => lbk_next (hat7.imp id (fun h => Nat.le_trans hw13 h)) hb) HCB.out hmb1)
        have HSx0 := Lib.hid (HS1.out.ofb (w' := w6) (by omega) (fun b hb hx => hk6 b hb (fun e => by
          subst e
          rcases hx with h | h | h
          · omega
          · omega
          · exact HA1.out.cm h) (fun e => by
          have h1 := hub b e
          rcases hx with rfl | rfl | h
          · omega
          · omega
          · exact HA1.out.cl b h (.inl e))))
        have HWx0 : Hid (Frm base F E w w6) := Lib.hid ⟨(HGR6.out.os.trans HG3.out.os).trans HW1.out.os, (HGR6.out.tape.trans HG3.out.tape).trans HW1.out.tape, (HGR6.out.output.trans HG3.out.output).trans HW1.out.output, by have := HW1.out.size; omega, fun b hb h1 h2 => (hk6 b (by have := HW1.out.size; omega) (by omega) (fun e => by have := hub b e; omega)).trans (HW1.out.block b hb h1 h2)⟩
        have HCB0 : Hid (∀ b, cv'.ownBlock = some b → b < w6.heap.size) := Lib.hid (fun b e => by have := HCB.out b e; omega)
        have HMM0 : Hid (∀ l ∈ L0 ++ [[]], l.length ≤ k ∧ ∀ x ∈ l, 0 ≤ x ∧ x < (k : Int)) := Lib.hid (fun l hl => by
          rcases List.mem_append.1 hl with h1 | h1
          · exact HMM.out l h1
          · simp at h1
            subst h1
            exact ⟨Nat.zero_le _, fun x hx => by cases hx⟩)
        have HIX0 : Hid (((fun x => if x = r then L0.length + 1 else p00 x) r ≠ 0 ∧ (fun x => if x = r then L0.length + 1 else p00 x) r - 1 = L0.length) ∧ L0.length < (L0 ++ [[]]).length) := Lib.hid ⟨⟨by simp, by simp⟩, by simp⟩
        have hmbx : mb < w6.heap.size := by omega
        clear hk6 hat7 hub HOW6 HGR6 HAT6 HG3 HP3 HL3 HL1 HP1 HA1 HS1 HW1 HCB HMM hXa hXz hlk hup x1 ez
        generalize (fun x => if x = r then L0.length + 1 else p00 x) = px at *
        have hl00 : L0.length + 1 = (L0 ++ [[]]).length := by simp
        have hl01 := hlen
        rw [hl00] at HLx0 HAx0 ⊢
        generalize hix0 : L0.length = ix at *
        generalize L0 ++ [[]] = Lx at *
        generalize V ++ [.slice none 0 0] = Vx at *
        have HLx := HLx0
        have HPx := HPx0
        have HAx := HAx0
        have HIX := HIX0
        have HSx := HSx0
        have HWx := HWx0
        have HCB := HCB0
        have HMM := HMM0
        clear HLx0 HPx0 HAx0 HIX0 HSx0 HWx0 HCB0 HMM0 e1 hp0 hpb HPR hl00 hix0 hl01
        generalize hux : Value.slice (some ⟨g6, 0, none⟩) Lx.length cap6 = ux at *
        clear hux
        generalize hwx : w6 = wx at *
        clear hwx w6
        -- the element goes into its list
        have hix : ix < Lx.length := HIX.out.2
        obtain ⟨v, hv, hli⟩ := HLx.out.at_ hix
        obtain ⟨li, hle⟩ : ∃ li, Lx.getD ix [] = li := ⟨_, rfl⟩
        rw [hle] at hli
        have HLE := Lib.hid hle
        have HRv := Lib.hid (HLx.out.row ix v li hv hli)
        obtain ⟨Pv, cv2, hvs⟩ := owns_slice HRv.out
        have hll : li.length ≤ k := (HMM.out li (List.mem_of_getElem? hli)).1
        obtain ⟨gO, cO, hgo⟩ : ∃ gO cO, ux = .slice (some ⟨gO, 0, none⟩) Lx.length cO := by
          rcases HLx.out.out.2 with ⟨-, e⟩ | ⟨g1, c1, cur, e, -⟩
          · omega
          · exact ⟨g1, c1, e⟩
        subst hgo
        have hgOl := (HLx.out.out.lt gO rfl).2
        have hgOb := (HLx.out.out.lt gO rfl).1
        have hc0 : wx.cell? ⟨gO, ix, none⟩ = some v := by
          have h1 := HLx.out.out.cellAt ix (by omega)
          rw [h1]
          exact hv
        have hfz : wx.frozen? ⟨gO, ix, none⟩ = false := owns_frozen HLx.out.out ix
        subst hvs
        have HVV := Lib.hid hv
        have hl0 := (HPx.out.of_block (w' := wx.drew) rfl).look hrk HIX.out.1.1
        have hl1 := (HPx.out.of_block (w' := (wx.alloc (.cells #[.int .i64 (k : Int)] 2)).drew) (Below.heap_alloc wx _ mb (by exact hmbx))).look hrk HIX.out.1.1
        rw [HIX.out.1.2] at hl0 hl1
        have HP1 := Lib.hid (HPx.out.of_block (w' := wx.drew.alloc (.cells #[.int .i64 (k : Int)] 2)) (Below.heap_alloc wx.drew _ mb (by exact hmbx)))
        have hxz : (wx.drew.alloc (.cells #[.int .i64 (k : Int)] 2)).heap.size = wx.heap.size + 1 := by simp
        have hgl : ∀ b, (Value.slice Pv li.length cv2).ownBlock = some b → b < wx.heap.size ∧ b ≠ gO ∧ b ≠ mb := fun b e => ⟨(HRv.out.lt b e).2, fun e2 => HLx.out.apO ix _ HVV.out b e (by rw [e2]; rfl), fun e2 => HAx.out.ml (.inr ⟨ix, _, HVV.out, by rw [← e2]; exact e⟩)⟩
        have HGL := Lib.hid hgl
        clear hv hli hgl
        refine region_out ?_
        go_region_law (refine step_append_lies (wx.drew.alloc (.cells #[.int .i64 (k : Int)] 2)) (by rfl) (.tmp 49) (.tmp 51) 24 (by rfl) w.heap.size 2 i0 (.int .i64 0) 1 8 Try.underlying24 hi hzz0 hzz1 hzz2 rfl (by decide) (.slice Pv li.length cv2) li.length (ivs li) (by rfl) (HRv.out.drew.alloc _) ⟨wx.heap.size, 0, none⟩ 1 1 [.int .i64 (k : Int)] (by rfl) (by rfl) (World.news_of_block (cs := #[.int .i64 (k : Int)]) (t := 2) (fr := (0, 0)) (heap_alloc_new wx.drew _)) (fun u hu => by simp at hu; subst hu; rfl) (by omega) (by unfold maxLen; omega) (by omega) (by simp; omega) (wx.heap.size + 1) (by simp) ?_; intro gg cap wz hown1 hgrow hat hlt1; have hl2 := (HP1.out.of_block (w' := wz) (hgrow.block mb (by rw [hxz]; omega) (fun e => (HGL.out mb e.symm).2.2 rfl))).look hrk HIX.out.1.1; rw [HIX.out.1.2] at hl2; have eO := (hgrow.block gO (by rw [hxz]; omega) (fun e => (HGL.out gO e.symm).2.1 rfl)).trans (Below.heap_alloc wx.drew (.cells #[.int .i64 (k : Int)] 2) gO (by exact hgOl)); have qO := (World.cell?_of_block (a := ⟨gO, ix, none⟩) eO).trans hc0; have fO := (World.frozen?_of_block (a := ⟨gO, ix, none⟩) eO).trans hfz; have zO : gO < wz.heap.size := Nat.lt_of_lt_of_le (by rw [hxz]; omega) hgrow.size; have HOW := Lib.hid hown1; have HGR := Lib.hid hgrow; have HAT := Lib.hid hat; clear hown1 hgrow hat eO)
        all_goals
          go_wp2
          clear hl0 hl1 hl2 qO fO zO hc0 hfz
          go_roundw
          case rel =>
            have hgm : gO ≠ mb := fun e => HAx.out.ml (.inl (by rw [e]; rfl))
            have hat2 : (Value.slice Pv li.length cv2).ownBlock = some gg ∨ wx.heap.size ≤ gg := HAT.out.imp id (fun e => by omega)
            have hkeep : ∀ b, b < wx.heap.size → b ≠ gO → (Value.slice Pv li.length cv2).ownBlock ≠ some b → (wz.setCell ⟨gO, ix, none⟩ (.slice (some ⟨gg, 0, none⟩) (li.length + 1) cap)).heap[b]? = wx.heap[b]? := fun b hb h1 h2 => by
              rw [Below.heap_setCell _ _ _ _ h1]
              exact (HGR.out.block b (by rw [hxz]; omega) (fun e => h2 e.symm)).trans (Below.heap_alloc wx.drew _ _ (by exact hb))
            have hzsz : wx.heap.size ≤ (wz.setCell ⟨gO, ix, none⟩ (.slice (some ⟨gg, 0, none⟩) (li.length + 1) cap)).heap.size := by have := HGR.out.size; rw [hxz] at this; simp [World.setCell]; omega
            refine ⟨k + 1, cv', p', L', Vx.set ix (.slice (some ⟨gg, 0, none⟩) (li.length + 1) cap), by omega, by go_num, hlg', Lib.hid ?_, Lib.hid ?_, HF1, HQ1, Lib.hid ?_, Lib.hid ?_, Lib.hid ?_⟩
            · rw [HGS.out]
              have h1 := (HLx.out.bel (((Below.refl wx.heap.size wx).drew).alloc (Nat.le_refl _) (.cells #[.int .i64 (k : Int)] 2)))
              have h2 := h1.put (i := ix) (x := (k : Int)) (w5 := wz) (g := gg) (cap := cap) (v := .slice Pv li.length cv2) hix HVV.out (by rw [HLE.out]; exact HOW.out) HGR.out (HAT.out.imp id (fun e => by rw [hxz]; omega))
              rw [HLE.out] at h2
              exact h2
            · have h1 := ((HP1.out.of_block (w' := wz) (HGR.out.block mb (by rw [hxz]; omega) (fun e => (HGL.out mb e.symm).2.2 rfl))).of_block (Below.heap_setCell wz ⟨gO, ix, none⟩ (.slice (some ⟨gg, 0, none⟩) (li.length + 1) cap) mb (by exact fun e => hgm e.symm))).more (Nat.le_refl _)
              rw [HGP.out]
              exact h1
            · exact HSx.out.ofb hzsz (fun b hb hx => hkeep b hb (fun e => by
                rcases hx with rfl | rfl | hx
                · omega
                · omega
                · exact HAx.out.cl b hx (.inl (by rw [e]; rfl))) (fun e => by
                have h1 := (HRv.out.lt b e).1
                rcases hx with rfl | rfl | hx
                · omega
                · omega
                · exact HAx.out.cl b hx (.inr ⟨ix, _, HVV.out, e⟩)))
            · refine ⟨HGR.out.os.trans HWx.out.os, HGR.out.tape.trans HWx.out.tape, HGR.out.output.trans HWx.out.output, Nat.le_trans HWx.out.size hzsz, fun b hb h1 h2 => (hkeep b (by have := HWx.out.size; omega) (by omega) (fun e => by have h3 := (HRv.out.lt b e).1; omega)).trans (HWx.out.block b hb h1 h2)⟩
            · exact HAx.out.next (fun b hb => lbk_put HVV.out hat2 hb) HCB.out hmbx
          case measure => simp [intOf]; omega
      · have e1 : decide (pr ≠ 0) = true := by simp [hp0]
        rw [e1] at hlk
        have HG := Lib.hid (gs_old (rt := rt) (k := k) (by rw [HRE.out, HPR.out]; exact hp0))
        go_wp2_with fail
        clear x1 hlk
        have hmbx : mb < w1.heap.size := hmb1
        have HIX0 := Lib.hid (show (((gs rt k).1 r ≠ 0 ∧ (gs rt k).1 r - 1 = pr - 1) ∧ pr - 1 < (gs rt k).2.length) from ⟨⟨by rw [HPR.out]; exact hp0, by rw [HPR.out]⟩, by omega⟩)
        have HGS : Hid ((gs rt (k + 1)).2 = snocAt (gs rt k).2 (pr - 1) (k : Int)) := Lib.hid (by rw [HG.out, HRE.out, HPR.out])
        have HGP : Hid ((gs rt (k + 1)).1 = (gs rt k).1) := Lib.hid (by rw [HG.out])
        clear HG
        generalize hLx : (gs rt k).2 = Lx at *
        generalize hpx : (gs rt k).1 = px at *
        generalize hixe : pr - 1 = ix at *
        have HLx := HL1
        have HPx := HP1
        have HAx := HA1
        have HIX := HIX0
        have HSx := HS1
        have HWx := HW1
        clear hLx hpx hixe HL1 HP1 HA1 HIX0 HS1 HW1 e1 hp0 hpb HPR
        generalize hux : Value.slice Ao Lx.length co = ux at *
        clear hux
        generalize hwx : w1 = wx at *
        clear hwx w1
        -- the element goes into its list
        have hix : ix < Lx.length := HIX.out.2
        obtain ⟨v, hv, hli⟩ := HLx.out.at_ hix
        obtain ⟨li, hle⟩ : ∃ li, Lx.getD ix [] = li := ⟨_, rfl⟩
        rw [hle] at hli
        have HLE := Lib.hid hle
        have HRv := Lib.hid (HLx.out.row ix v li hv hli)
        obtain ⟨Pv, cv2, hvs⟩ := owns_slice HRv.out
        have hll : li.length ≤ k := (HMM.out li (List.mem_of_getElem? hli)).1
        obtain ⟨gO, cO, hgo⟩ : ∃ gO cO, ux = .slice (some ⟨gO, 0, none⟩) Lx.length cO := by
          rcases HLx.out.out.2 with ⟨-, e⟩ | ⟨g1, c1, cur, e, -⟩
          · omega
          · exact ⟨g1, c1, e⟩
        subst hgo
        have hgOl := (HLx.out.out.lt gO rfl).2
        have hgOb := (HLx.out.out.lt gO rfl).1
        have hc0 : wx.cell? ⟨gO, ix, none⟩ = some v := by
          have h1 := HLx.out.out.cellAt ix (by omega)
          rw [h1]
          exact hv
        have hfz : wx.frozen? ⟨gO, ix, none⟩ = false := owns_frozen HLx.out.out ix
        subst hvs
        have HVV := Lib.hid hv
        have hl0 := (HPx.out.of_block (w' := wx.drew) rfl).look hrk HIX.out.1.1
        have hl1 := (HPx.out.of_block (w' := (wx.alloc (.cells #[.int .i64 (k : Int)] 2)).drew) (Below.heap_alloc wx _ mb (by exact hmbx))).look hrk HIX.out.1.1
        rw [HIX.out.1.2] at hl0 hl1
        have HP1 := Lib.hid (HPx.out.of_block (w' := wx.drew.alloc (.cells #[.int .i64 (k : Int)] 2)) (Below.heap_alloc wx.drew _ mb (by exact hmbx)))
        have hxz : (wx.drew.alloc (.cells #[.int .i64 (k : Int)] 2)).heap.size = wx.heap.size + 1 := by simp
        have hgl : ∀ b, (Value.slice Pv li.length cv2).ownBlock = some b → b < wx.heap.size ∧ b ≠ gO ∧ b ≠ mb := fun b e => ⟨(HRv.out.lt b e).2, fun e2 => HLx.out.apO ix _ HVV.out b e (by rw [e2]; rfl), fun e2 => HAx.out.ml (.inr ⟨ix, _, HVV.out, by rw [← e2]; exact e⟩)⟩
        have HGL := Lib.hid hgl
        clear hv hli hgl
        go_wp2_with fail
        refine region_out ?_
        go_region_law (refine step_append_lies (wx.drew.alloc (.cells #[.int .i64 (k : Int)] 2)) (by rfl) (.tmp 49) (.tmp 51) 24 (by rfl) w.heap.size 2 i0 (.int .i64 0) 1 8 Try.underlying24 hi hzz0 hzz1 hzz2 rfl (by decide) (.slice Pv li.length cv2) li.length (ivs li) (by rfl) (HRv.out.drew.alloc _) ⟨wx.heap.size, 0, none⟩ 1 1 [.int .i64 (k : Int)] (by rfl) (by rfl) (World.news_of_block (cs := #[.int .i64 (k : Int)]) (t := 2) (fr := (0, 0)) (heap_alloc_new wx.drew _)) (fun u hu => by simp at hu; subst hu; rfl) (by omega) (by unfold maxLen; omega) (by omega) (by simp; omega) (wx.heap.size + 1) (by simp) ?_; intro gg cap wz hown1 hgrow hat hlt1; have hl2 := (HP1.out.of_block (w' := wz) (hgrow.block mb (by rw [hxz]; omega) (fun e => (HGL.out mb e.symm).2.2 rfl))).look hrk HIX.out.1.1; rw [HIX.out.1.2] at hl2; have eO := (hgrow.block gO (by rw [hxz]; omega) (fun e => (HGL.out gO e.symm).2.1 rfl)).trans (Below.heap_alloc wx.drew (.cells #[.int .i64 (k : Int)] 2) gO (by exact hgOl)); have qO := (World.cell?_of_block (a := ⟨gO, ix, none⟩) eO).trans hc0; have fO := (World.frozen?_of_block (a := ⟨gO, ix, none⟩) eO).trans hfz; have zO : gO < wz.heap.size := Nat.lt_of_lt_of_le (by rw [hxz]; omega) hgrow.size; have HOW := Lib.hid hown1; have HGR := Lib.hid hgrow; have HAT := Lib.hid hat; clear hown1 hgrow hat eO)
        all_goals
          go_wp2
          clear hl0 hl1 hl2 qO fO zO hc0 hfz
          go_roundw
          case rel =>
            have hgm : gO ≠ mb := fun e => HAx.out.ml (.inl (by rw [e]; rfl))
            have hat2 : (Value.slice Pv li.length cv2).ownBlock = some gg ∨ wx.heap.size ≤ gg := HAT.out.imp id (fun e => by omega)
            have hkeep : ∀ b, b < wx.heap.size → b ≠ gO → (Value.slice Pv li.length cv2).ownBlock ≠ some b → (wz.setCell ⟨gO, ix, none⟩ (.slice (some ⟨gg, 0, none⟩) (li.length + 1) cap)).heap[b]? = wx.heap[b]? := fun b hb h1 h2 => by
              rw [Below.heap_setCell _ _ _ _ h1]
              exact (HGR.out.block b (by rw [hxz]; omega) (fun e => h2 e.symm)).trans (Below.heap_alloc wx.drew _ _ (by exact hb))
            have hzsz : wx.heap.size ≤ (wz.setCell ⟨gO, ix, none⟩ (.slice (some ⟨gg, 0, none⟩) (li.length + 1) cap)).heap.size := by have := HGR.out.size; rw [hxz] at this; simp [World.setCell]; omega
            refine ⟨k + 1, cv', p', L', V.set ix (.slice (some ⟨gg, 0, none⟩) (li.length + 1) cap), by omega, by go_num, hlg', Lib.hid ?_, Lib.hid ?_, HF1, HQ1, Lib.hid ?_, Lib.hid ?_, Lib.hid ?_⟩
            · rw [HGS.out]
              have h1 := (HLx.out.bel (((Below.refl wx.heap.size wx).drew).alloc (Nat.le_refl _) (.cells #[.int .i64 (k : Int)] 2)))
              have h2 := h1.put (i := ix) (x := (k : Int)) (w5 := wz) (g := gg) (cap := cap) (v := .slice Pv li.length cv2) hix HVV.out (by rw [HLE.out]; exact HOW.out) HGR.out (HAT.out.imp id (fun e => by rw [hxz]; omega))
              rw [HLE.out] at h2
              exact h2
            · have h1 := ((HP1.out.of_block (w' := wz) (HGR.out.block mb (by rw [hxz]; omega) (fun e => (HGL.out mb e.symm).2.2 rfl))).of_block (Below.heap_setCell wz ⟨gO, ix, none⟩ (.slice (some ⟨gg, 0, none⟩) (li.length + 1) cap) mb (by exact fun e => hgm e.symm))).more (Nat.le_succ k)
              rw [HGP.out]
              exact h1
            · exact HSx.out.ofb hzsz (fun b hb hx => hkeep b hb (fun e => by
                rcases hx with rfl | rfl | hx
                · omega
                · omega
                · exact HAx.out.cl b hx (.inl (by rw [e]; rfl))) (fun e => by
                have h1 := (HRv.out.lt b e).1
                rcases hx with rfl | rfl | hx
                · omega
                · omega
                · exact HAx.out.cl b hx (.inr ⟨ix, _, HVV.out, e⟩)))
            · refine ⟨HGR.out.os.trans HWx.out.os, HGR.out.tape.trans HWx.out.tape, HGR.out.output.trans HWx.out.output, Nat.le_trans HWx.out.size hzsz, fun b hb h1 h2 => (hkeep b (by have := HWx.out.size; omega) (by omega) (fun e => by have h3 := (HRv.out.lt b e).1; omega)).trans (HWx.out.block b hb h1 h2)⟩
            · exact HAx.out.next (fun b hb => lbk_put HVV.out hat2 hb) HCB.out hmbx
          case measure => simp [intOf]; omega
    · obtain rfl : k = n := by omega
      go_wp2
      go_ret
      exact ⟨Ao, co, V, rfl, HL.out, HW.out⟩
end Go.Proofs.Ytneknajeecgnoaa.Base
