/-
  The rule of XStab in a round's frame: a region of a loop's body that ranges over a function.
-/
import Derived.Test.YtbpdjmjkjiddjaaDoorStab
import Derived.OrdersIn
import Derived.RangeFuncCalls
import Derived.TacticsIn
namespace Go.Proofs.YtbpdjmjkjiddjaaDoor.Base
open Go Go.RowKit
set_option linter.unusedVariables false

section
variable {P : Program} {ops : Array Oper} {Q : Exit → Act → World → Prop}
theorem oper_round {l' n : Nat} {o : Oper} {a : Act} {w : World} {K : Act → World → Prop} (hd : ∀ c, o.op ≠ .defer c) (h : o.wp P a w K Q) : o.wpIn (Fence.wide.inRound l') n P a w K Q := by
  unfold Oper.wp at h
  unfold Oper.wpIn
  rw [Oper.semAt_eq _ _ _ hd]
  refine ⟨fun _ _ => trivial, ?_⟩
  have hdep : ((Fence.wide.inRound l').depth.isSome = true → 1 ≤ n) := fun h => by simp [Fence.wide, Fence.inRound] at h
  generalize (execOp a.eval o).run P w = r at *
  cases r with
  | ok x w' =>
    cases x <;> simp only [Oper.upon, Oper.uponIn] at h ⊢ <;>
      first
        | exact h
        | exact ⟨hdep, CallsIn.inRound l' (callsIn_wide.2 (h.mono fun e w'' he => by cases e <;> exact he))⟩
        | exact ⟨hdep, fun c cs _ => let ⟨v, w', r, s⟩ := h c cs; ⟨v, w', r, stepsIn_wide.2 s⟩⟩
        | exact h.elim
  | halt x w' => cases x <;> simp only [Oper.upon, Oper.uponIn] at h ⊢ <;> exact h
/-- one operation, in whatever frame -/
def wpOpS (P : Program) (ops : Array Oper) (Q : Exit → Act → World → Prop) (i : Nat) (K : Act → World → Prop) (a : Act) (w : World) : Prop :=
  match ops[i]? with
  | none => K a w
  | some o => if Region.wanted o (yielded ops a.tmps) then o.wp P a w K Q else K (a.put o.dst undef) w
def wpAnyS (P : Program) (md : Region.Mode) (ops : Array Oper) (Q : Exit → Act → World → Prop) : Nat → Array Bool → Act → World → Prop
  | 0, listed, a, w => Region.ready md ops listed = [] ∧ Q .normal a w
  | fuel + 1, listed, a, w =>
    (Region.ready md ops listed = [] → Q .normal a w) ∧
    ∀ i ∈ Region.ready md ops listed, wpOpS P ops Q i (wpAnyS P md ops Q fuel (listed.setIfInBounds i true)) a w
theorem wpOpS_step {i : Nat} {o : Oper} {K : Act → World → Prop} {a : Act} {w : World} (ho : ops[i]? = some o)
    (h : ∀ K' : Act → World → Prop, (∀ a w, K a w → K' a w) → if Region.wanted o (yielded ops a.tmps) = true then Oper.wp P o a w K' Q else K' (a.put o.dst undef) w) : wpOpS P ops Q i K a w := by
  have := h K (fun _ _ h => h)
  unfold wpOpS
  rw [ho]
  exact this
theorem wpOpS_in {l' n i : Nat} {K K' : Act → World → Prop} {a : Act} {w : World} (hd : ∀ o ∈ ops, ∀ c, o.op ≠ .defer c) (hK : ∀ a w, K a w → K' a w) (h : wpOpS P ops Q i K a w) : wpOpIn (Fence.wide.inRound l') n P ops Q i K' a w := by
  refine wpOpIn_mono hK ?_
  unfold wpOpS at h
  unfold wpOpIn
  split
  · next ho => rw [ho] at h; exact h
  · next o ho =>
    rw [ho] at h
    simp only at h
    have hm : o ∈ ops := Array.mem_of_getElem? ho
    split
    · next hw => rw [if_pos hw] at h; exact oper_round (hd o hm) h
    · next hw => rw [if_neg hw] at h; exact ⟨fun _ _ => trivial, h⟩
theorem wpAnyS_in {l' n : Nat} {md : Region.Mode} {l : List Oper} (hd : ∀ o ∈ l, ∀ c, o.op ≠ .defer c) : ∀ (fuel : Nat) (listed : Array Bool) (a : Act) (w : World), wpAnyS P md l.toArray Q fuel listed a w → wpAnyIn (Fence.wide.inRound l') n P md l.toArray Q fuel listed a w
  | 0, _, _, _, h => h
  | fuel + 1, listed, a, w, h => ⟨h.1, fun i hi => wpOpS_in (fun o ho => hd o (by simpa using ho)) (fun a w => wpAnyS_in hd fuel _ a w) (h.2 i hi)⟩
end
section
variable {P : Program} {l : List Oper} {Q : Exit → Act → World → Prop}
theorem wpAnyS_stab {a0 : Act} {W : World} {dl : List (Option Nat)} {ds X : List Nat} {Bx : List (Nat × Nat)} {Φ : List Fact} {As Ds : List (List Nat)} (hB : stabB l dl ds Bx As Ds = true) (hX : ∀ k ∈ X, k < W.heap.size) (hst : StableAll W.heap.size X Φ)
    (hop : OblAll P l Q a0 dl ds X Bx Φ Ds W 0 l As)
    (hend : ∀ (vs : Nat → Value) (iv : Nat → Nat × Nat) (w : World), Ext X W w → Apart Bx iv l.length → AllFacts Φ Bx Ds W.heap.size vs iv w 0 dl → Q .normal (setA a0 ds vs) w) :
    ∀ (fuel : Nat) (listed : Array Bool) (vs : Nat → Value) (iv : Nat → Nat × Nat) (w : World), listed.toList.count false ≤ fuel → Mid l X Bx Φ Ds W listed vs iv w →
      wpAnyS P .any l.toArray Q fuel listed (setA a0 ds vs) w := by
  simp only [stabB, Bool.and_eq_true] at hB
  obtain ⟨⟨⟨⟨⟨⟨⟨hIn, hAp⟩, hAn⟩, hTx⟩, hBx⟩, hSep⟩, hArg⟩, hDl⟩ := hB
  have hDl : l.map (·.dst) = dl := beq_iff_eq.1 hDl
  have hlen : dl.length = l.length := by rw [← hDl]; simp
  have hdg : ∀ (j : Nat) (oj : Oper), l[j]? = some oj → dl.getD j none = oj.dst := fun j oj h => by
    rw [← hDl]; simp [List.getD, h]
  obtain ⟨hbx, hinj⟩ := boxB_spec hBx
  have hsep : ∀ b ∈ Bx, Bx.lookup b.2 = none := fun b hb => by
    cases hl : Bx.lookup b.2 with
    | none => rfl
    | some a =>
      have hm := lookup_mem hl
      simp only [boxSep, List.all_eq_true, bne_iff_ne] at hSep
      exact absurd rfl (hSep _ hm b hb)
  -- where nothing is ready, all has come up
  have hall : ∀ (listed : Array Bool), listed.size = l.length → Region.ready .any l.toArray listed = [] → ∀ j, j < l.length → listed.getD j false = true := by
    intro listed hsz hr j
    induction j using Nat.strongRecOn with
    | ind j ih =>
      intro hj
      cases e : listed.getD j false with
      | true => rfl
      | false =>
        have hn : j ∉ Region.ready .any l.toArray listed := by rw [hr]; simp
        refine absurd ?_ hn
        rw [mem_ready]
        refine ⟨by simpa [Array.getD, hsz, hj] using e, l[j], by simp [hj], fun e he hb => ?_⟩
        have hlt := textB_spec hTx (i := j) (o := l[j]) (by simp [hj]) e he hb
        exact ih e.on (by omega) (by omega)
  have hfin : ∀ (listed : Array Bool) (vs : Nat → Value) (iv : Nat → Nat × Nat) (w : World), (∀ j, j < l.length → listed.getD j false = true) → Mid l X Bx Φ Ds W listed vs iv w → Q .normal (setA a0 ds vs) w := by
    intro listed vs iv w h1 h2
    refine hend vs iv w h2.ext (fun i j hi hj => h2.apart i j (h1 i hi) (h1 j hj)) (AllFacts.mk_ fun i hi he => ?_)
    rw [Nat.zero_add] at he
    rw [Nat.zero_add]
    have hi' : i < l.length := by omega
    have hio : l[i]? = some l[i] := by simp [hi']
    have hl := h1 i hi'
    rw [hdg i _ hio, ← valOf_dval]
    refine ⟨h2.fact i _ hl hio fun b hb e => ?_, h2.ivOf_in (fun b hb => (hbx b hb).1) hsep hl⟩
    have := List.any_eq_false.1 he b hb
    simp [e] at this
  intro fuel
  induction fuel with
  | zero =>
    intro listed vs iv w hc hM
    have hsz := hM.size
    have h1 : ∀ j, j < l.length → listed.getD j false = true := fun j hj => listed_of_count (by omega) (by omega)
    refine ⟨?_, hfin listed vs iv w h1 hM⟩
    cases hr : Region.ready .any l.toArray listed with
    | nil => rfl
    | cons j rest =>
      have hj : j ∈ Region.ready .any l.toArray listed := by rw [hr]; exact List.mem_cons_self
      obtain ⟨h2, o, ho, _⟩ := mem_ready.1 hj
      have hjl : j < l.length := by
        have := (Array.getElem?_eq_some_iff.1 ho).1
        simpa using this
      have h3 := h1 j hjl
      simp [Array.getD, hsz, hjl] at h2 h3
      rw [h3] at h2
      cases h2
  | succ fuel ih =>
    intro listed vs iv w hc hM
    refine ⟨fun hr => hfin listed vs iv w (hall listed hM.size hr) hM, fun i hi => ?_⟩
    obtain ⟨hun, o, ho, hpre⟩ := mem_ready.1 hi
    have ho' : l[i]? = some o := by simpa using ho
    have hil : i < l.length := (List.getElem?_eq_some_iff.1 ho').1
    have hunf : listed.getD i false = false := by
      have hs := hM.size
      simp only [Array.getD, show i < listed.size by omega, dif_pos] at hun ⊢
      exact hun
    obtain ⟨hanc, hancB⟩ := ancAll_spec hAn i
    rw [Nat.zero_add] at hanc hancB
    have hlist := ancChk_listed (listed := listed) ho' hpre hM.closed _ [i] (fun s hs => by simp at hs; exact .inl hs) hanc
    have hob := hop.get ho'
    rw [Nat.zero_add] at hob
    -- a box whose store is i, or comes behind i, has not been filled
    have hnot : ∀ j ∈ As.getD i [], ∀ b ∈ Bx, b.2 = j → listed.getD b.1 false = false := fun j hj b hb e => by
      cases hl : listed.getD b.1 false with
      | false => rfl
      | true =>
        rcases hancB j hj b hb e with h | h
        · rw [h, hunf] at hl; cases hl
        · obtain ⟨os, hos, ed, hed, hbd, hon⟩ := isAfter_spec h
          have := hM.closed b.1 os hl hos ed hed hbd
          rw [hon, hunf] at this
          cases this
    refine wpOpS_step ho fun K' hK => ?_
    refine hob vs iv w hM.ext (ancFacts_mk fun j hj => ⟨by
      have hjl : j < l.length := by
        have h1 := hlist j hj
        rcases Nat.lt_or_ge j l.length with h | h
        · exact h
        · simp [Array.getD, show ¬ j < listed.size by rw [hM.size]; omega] at h1
      have hjo : l[j]? = some l[j] := by simp [hjl]
      rw [hdg j _ hjo, ← valOf_dval]
      exact hM.fact j _ (hlist j hj) hjo (hnot j hj), hM.ivOf_in (fun b hb => (hbx b hb).1) hsep (hlist j hj)⟩) K' (fun a' v w' ha' hφ => hK _ _ ?_)
    subst ha'
    have hcount := count_set hun
    have hget : ∀ j, (listed.setIfInBounds i true).getD j false = true → j = i ∨ listed.getD j false = true := fun j hj => by
      by_cases e : j = i
      · exact .inl e
      · rw [getD_set_ne false (Ne.symm e)] at hj; exact .inr hj
    have hgetn : ∀ j, (listed.setIfInBounds i true).getD j false = false → listed.getD j false = false := fun j hj => by
      cases e : listed.getD j false with
      | false => rfl
      | true => rw [getD_set_true e] at hj; cases hj
    have hcl' : ∀ (j : Nat) (oj : Oper), (listed.setIfInBounds i true).getD j false = true → l[j]? = some oj → ∀ e ∈ oj.after, Region.binds .any e = true → (listed.setIfInBounds i true).getD e.on false = true := fun j oj hj hoj e he hb => by
      rcases hget j hj with rfl | hj
      · obtain rfl : oj = o := by rw [ho'] at hoj; exact (Option.some.inj hoj).symm
        exact getD_set_true (hpre e he hb)
      · exact getD_set_true (hM.closed j oj hj hoj e he hb)
    -- the values behind the step, read at whatever operation
    obtain ⟨vs', hput, hvi, hvo⟩ : ∃ vs', (setA a0 ds vs).put o.dst v = setA a0 ds vs' ∧ valOf o vs' = dstVal o v ∧ ∀ j oj, j ≠ i → l[j]? = some oj → valOf oj vs' = valOf oj vs := by
      cases hd : o.dst with
      | none => exact ⟨vs, rfl, by simp [valOf, dstVal, hd], fun _ _ _ _ => rfl⟩
      | some d =>
        refine ⟨updV vs d v, setA_put (dstsIn_spec hIn ho' hd), by simp [valOf, dstVal, hd, updV], fun j oj e hoj => ?_⟩
        have hne := dst_ne hAp (Ne.symm e) ho' hoj hd
        unfold valOf
        cases hdj : oj.dst with
        | none => rfl
        | some d' =>
          have : d' ≠ d := fun h => hne (by rw [hdj, h])
          simp [updV, this]
    -- whoever has come up by now, or comes up now, has its ancestors behind it
    have hargs : ∀ j oj, (j = i ∨ listed.getD j false = true) → l[j]? = some oj → (Ds.getD j []).map vs' = (Ds.getD j []).map vs := fun j oj hj hoj => by
      have hanj := (ancAll_spec hAn j).1
      rw [Nat.zero_add] at hanj
      have hpj : ∀ e ∈ oj.after, Region.binds .any e = true → listed.getD e.on false = true := by
        rcases hj with rfl | hj
        · obtain rfl : oj = o := by rw [ho'] at hoj; exact (Option.some.inj hoj).symm
          exact hpre
        · exact hM.closed j oj hj hoj
      have hls := ancChk_listed (listed := listed) hoj hpj hM.closed _ [j] (fun s hs => by simp at hs; exact .inl hs) hanj
      refine List.map_congr_left fun d hd => ?_
      obtain ⟨k, hk, hkd⟩ := argsB_spec hArg j d hd
      have hk1 := hls k hk
      have hki : k ≠ i := fun e => by rw [e, hunf] at hk1; cases hk1
      have hkl : k < l.length := by
        rcases Nat.lt_or_ge k l.length with h | h
        · exact h
        · simp [Array.getD, show ¬ k < listed.size by rw [hM.size]; omega] at hk1
      have hko : l[k]? = some l[k] := by simp [hkl]
      have hv := hvo k _ hki hko
      rw [hdg k _ hko] at hkd
      simpa [valOf, hkd] using hv
    rw [hput]
    cases hlk : Bx.lookup i with
    | none =>
      rw [hlk] at hφ
      obtain ⟨hx', hφ⟩ := hφ
      have hsame : ∀ lo hi, IvIn W.heap.size w (lo, hi) → Same W.heap.size X lo hi w w' := fun lo hi hq => ⟨hx'.os, hx'.tape, hx'.output, hx'.size, fun k hk hkk => hx'.block k hk (fun hm => by
        rcases hkk with h | h
        · exact h.2 hm
        · have h1 := hX k hm
          have h2 : W.heap.size ≤ lo := hq.1
          omega)⟩
      let iv' : Nat → Nat × Nat := fun j => if j = i then (w.heap.size, w'.heap.size) else iv j
      have hivn : ∀ j, j ≠ i → iv' j = iv j := fun j h => by simp [iv', h]
      have hivi : iv' i = (w.heap.size, w'.heap.size) := by simp [iv']
      have hivo : ∀ j, listed.getD j false = true → ivOf Bx iv' j = ivOf Bx iv j := fun j hj => by
        unfold ivOf
        cases hl : Bx.lookup j with
        | none => exact hivn j (fun e => by rw [e, hunf] at hj; cases hj)
        | some a =>
          have hm := lookup_mem hl
          obtain ⟨oj, hoj, e, he, hb, ha⟩ := isAfter_spec (hbx _ hm).1
          refine hivn a (fun e2 => ?_)
          have := hM.closed j oj hj hoj e he hb
          rw [ha, e2, hunf] at this
          cases this
      refine ih _ vs' iv' w' (by omega) ⟨by rw [Array.size_setIfInBounds]; exact hM.size, hcl', fun j oj hj hoj hk => ?_, fun j hj hl => ?_, fun p q hp hq hpq hlp hlq => ?_, hM.ext.trans hx'⟩
      · rcases hget j hj with rfl | hj
        · obtain rfl : oj = o := by rw [ho'] at hoj; exact (Option.some.inj hoj).symm
          rw [hvi, hargs j oj (.inl rfl) ho']
          unfold ivOf
          rw [hlk]
          simp only [hivi]
          exact hφ
        · have hne : j ≠ i := fun e => by rw [e, hunf] at hj; cases hj
          rw [hvo j oj hne hoj, hivo j hj, hargs j oj (.inr hj) hoj]
          exact hst.get j _ _ _ _ w w' (hM.fact j oj hj hoj fun b hb e => hgetn _ (hk b hb e)) (hsame _ _ (hM.ivOf_in (fun b hb => (hbx b hb).1) hsep hj))
      · rcases hget j hj with rfl | hj
        · rw [hivi]; exact ⟨hM.ext.size, hx'.size, Nat.le_refl _⟩
        · rw [hivn j (fun e => by rw [e, hunf] at hj; cases hj)]
          obtain ⟨q1, q2, q3⟩ := hM.made j hj hl
          exact ⟨q1, q2, Nat.le_trans q3 hx'.size⟩
      · rcases hget p hp with rfl | hp
        · rcases hget q hq with rfl | hq
          · exact absurd rfl hpq
          · rw [hivi, hivn q (Ne.symm hpq)]
            exact .inr (hM.made q hq hlq).2.2
        · rcases hget q hq with rfl | hq
          · rw [hivi, hivn p hpq]
            exact .inl (hM.made p (by assumption) hlp).2.2
          · rw [hivn p (fun e => by rw [e, hunf] at hp; cases hp), hivn q (fun e => by rw [e, hunf] at hq; cases hq)]
            exact hM.apart p q hp hq hpq hlp hlq
    | some a =>
      rw [hlk] at hφ
      obtain ⟨hne0, hx', hφ⟩ := hφ
      have hma := lookup_mem hlk
      have hal : listed.getD a false = true := by
        obtain ⟨os, hos, e, he, hb, ha⟩ := isAfter_spec (hbx _ hma).1
        obtain rfl : os = o := by rw [ho'] at hos; exact (Option.some.inj hos).symm
        have := hpre e he hb
        rw [ha] at this
        exact this
      have hla : Bx.lookup a = none := hsep _ hma
      have hiva := hM.made a hal hla
      have hxx : Ext X W w' := by
        refine ⟨hx'.os.trans hM.ext.os, hx'.tape.trans hM.ext.tape, hx'.output.trans hM.ext.output, Nat.le_trans hM.ext.size hx'.size, fun k hk hkx => ?_⟩
        have h1 : W.heap.size ≤ (iv a).1 := hiva.1
        exact (hx'.block k (Nat.lt_of_lt_of_le hk hM.ext.size) (fun hm => by
          rcases List.mem_cons.1 hm with e | hm
          · omega
          · exact hkx hm)).trans (hM.ext.block k hk hkx)
      refine ih _ vs' iv w' (by omega) ⟨by rw [Array.size_setIfInBounds]; exact hM.size, hcl', fun j oj hj hoj hk => ?_, fun j hj hl => ?_, fun p q hp hq hpq hlp hlq => ?_, hxx⟩
      · rcases hget j hj with rfl | hj
        · obtain rfl : oj = o := by rw [ho'] at hoj; exact (Option.some.inj hoj).symm
          rw [hvi, hargs j oj (.inl rfl) ho']
          unfold ivOf
          rw [hlk]
          exact hφ
        · have hne : j ≠ i := fun e => by rw [e, hunf] at hj; cases hj
          rw [hvo j oj hne hoj, hargs j oj (.inr hj) hoj]
          -- j is not the alloc of this store: that fact is over
          have hja : j ≠ a := fun e => by
            have := hk _ hma e.symm
            rw [show ((i, a) : Nat × Nat).1 = i from rfl] at this
            have h2 : (listed.setIfInBounds i true).getD i false = true := by simp [Array.getD, hM.size, hil]
            rw [h2] at this
            cases this
          refine hst.get j _ _ _ _ w w' (hM.fact j oj hj hoj fun b hb e => hgetn _ (hk b hb e)) ⟨hx'.os, hx'.tape, hx'.output, hx'.size, fun k hk2 hkk => hx'.block k hk2 (fun hm => ?_)⟩
          have h1 : W.heap.size ≤ (iv a).1 := hiva.1
          -- whose interval is it?
          have hown : (ivOf Bx iv j).2 ≤ (iv a).1 ∨ (iv a).2 ≤ (ivOf Bx iv j).1 := by
            unfold ivOf
            cases hl : Bx.lookup j with
            | none => exact hM.apart j a hj hal hja hl hla
            | some a' =>
              have hm' := lookup_mem hl
              have hne' : a' ≠ a := fun e => by
                have := hinj _ hm' _ hma (.inr e)
                exact hne (congrArg Prod.fst this)
              obtain ⟨oj', hoj', e, he, hb, ha⟩ := isAfter_spec (hbx _ hm').1
              have hc := hM.closed j oj' hj hoj' e he hb
              rw [ha] at hc
              exact hM.apart a' a hc hal hne' (hsep _ hm') hla
          have hj2 := hM.ivOf_in (fun b hb => (hbx b hb).1) hsep hj
          rcases List.mem_cons.1 hm with e | hm
          · rcases hkk with h | h
            · omega
            · omega
          · rcases hkk with h | h
            · exact h.2 hm
            · have := hX k hm
              have h2 : W.heap.size ≤ (ivOf Bx iv j).1 := hj2.1
              omega
      · rcases hget j hj with rfl | hj
        · rw [hlk] at hl; cases hl
        · obtain ⟨q1, q2, q3⟩ := hM.made j hj hl
          exact ⟨q1, q2, Nat.le_trans q3 hx'.size⟩
      · rcases hget p hp with rfl | hp
        · rw [hlk] at hlp; cases hlp
        · rcases hget q hq with rfl | hq
          · rw [hlk] at hlq; cases hlq
          · exact hM.apart p q hp hq hpq hlp hlq

theorem wpIn_region_stab {l' : Nat} {nF : Nat} {id : Nat} {a0 : Act} {w0 : World} (dl : List (Option Nat)) (ds X : List Nat) (Bx : List (Nat × Nat)) (Φ : List Fact) (As Ds : List (List Nat)) (hd : ∀ o ∈ l, ∀ c, o.op ≠ .defer c) (hm : P.follows .mixedOrders = true) (hB : stabB l dl ds Bx As Ds = true) (hX : ∀ k ∈ X, k < w0.drew.heap.size)
    (hst : StableAll w0.drew.heap.size X Φ) (hop : OblAll P l Q a0 dl ds X Bx Φ Ds w0.drew 0 l As)
    (hend : ∀ (vs : Nat → Value) (iv : Nat → Nat × Nat) (w : World), Ext X w0.drew w → Apart Bx iv l.length → AllFacts Φ Bx Ds w0.drew.heap.size vs iv w 0 dl → Q .normal (setA a0 ds vs) w) :
    (Code.region id l.toArray true).wpIn (Fence.wide.inRound l') nF P Q a0 w0 := by
  refine wpIn_region_any hm ?_
  refine wpAnyS_in hd _ _ _ _ ?_
  have hno : ∀ j, (Array.replicate l.toArray.size false).getD j false = false := fun j => by simp [Array.getD]
  have h := wpAnyS_stab hB hX hst hop hend l.toArray.size (Array.replicate l.toArray.size false) (fun d => a0.tmps.getD d undef) (fun _ => (0, 0)) w0.drew (by simp)
    ⟨by simp, fun j oj hj => (by rw [hno] at hj; cases hj), fun j oj hj => (by rw [hno] at hj; cases hj), fun j hj => (by rw [hno] at hj; cases hj), fun i j hi => (by rw [hno] at hi; cases hi), Ext.refl _ _⟩
  rw [setA_self] at h
  exact h
end
end Go.Proofs.YtbpdjmjkjiddjaaDoor.Base
