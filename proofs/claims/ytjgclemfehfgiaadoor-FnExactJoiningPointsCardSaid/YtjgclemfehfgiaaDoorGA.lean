/-
  Several texts in one.
-/
import Derived.Test.YtjgclemfehfgiaaDoorStab
import Derived.OrdersIn
import Derived.RangeFuncCalls
import Derived.TacticsIn
import Derived.Test.YtjgclemfehfgiaaDoorTch
import Derived.Test.YtjgclemfehfgiaaDoorCrs
import Derived.Test.YtjgclemfehfgiaaDoorMps
import Derived.WalkMore
import Derived.Test.YtjgclemfehfgiaaDoorShape
import Derived.Test.YtjgclemfehfgiaaDoorNew
import Derived.Test.YtjgclemfehfgiaaDoorPan
import Derived.IntWalk
namespace Go.Proofs.YtjgclemfehfgiaaDoor.Base
open Go Go.RowKit
set_option linter.unusedVariables false

section
variable {P : Program} {ops : Array Oper} {Q : Exit → Act → World → Prop}
theorem oper_round {l' n : Nat} {o : Oper} {a : Act} {w : World} {K : Act → World → Prop} (hd : ∀ c, o.op ≠ .defer c) (h : o.wp P a w K Q) : o.wpIn (Fence.wide.inRound l') n P a w K Q := by
  unfold Oper.wp at h
  unfold Oper.wpIn
  rw [Oper.semAt_eq _ _ _ hd]
  refine ⟨fun _ _ => trivial, ?_⟩
  have hdep : ((Fence.wide.inRound l').depth.isSome = true → 1 ≤ n) := fun h => by simp [Fence.wide, Fence.inRound] at h
  generalize (execOp a.eval o).run P w = r at *
  cases r with
  | ok x w' =>
    cases x <;> simp only [Oper.upon, Oper.uponIn] at h ⊢ <;>
      first
        | exact h
        | exact ⟨hdep, CallsIn.inRound l' (callsIn_wide.2 (h.mono fun e w'' he => by cases e <;> exact he))⟩
        | exact ⟨hdep, fun c cs _ => let ⟨v, w', r, s⟩ := h c cs; ⟨v, w', r, stepsIn_wide.2 s⟩⟩
        | exact h.elim
  | halt x w' => cases x <;> simp only [Oper.upon, Oper.uponIn] at h ⊢ <;> exact h
/-- one operation, in whatever frame -/
def wpOpS (P : Program) (ops : Array Oper) (Q : Exit → Act → World → Prop) (i : Nat) (K : Act → World → Prop) (a : Act) (w : World) : Prop :=
  match ops[i]? with
  | none => K a w
  | some o => if Region.wanted o (yielded ops a.tmps) then o.wp P a w K Q else K (a.put o.dst undef) w
def wpAnyS (P : Program) (md : Region.Mode) (ops : Array Oper) (Q : Exit → Act → World → Prop) : Nat → Array Bool → Act → World → Prop
  | 0, listed, a, w => Region.ready md ops listed = [] ∧ Q .normal a w
  | fuel + 1, listed, a, w =>
    (Region.ready md ops listed = [] → Q .normal a w) ∧
    ∀ i ∈ Region.ready md ops listed, wpOpS P ops Q i (wpAnyS P md ops Q fuel (listed.setIfInBounds i true)) a w
theorem wpOpS_step {i : Nat} {o : Oper} {K : Act → World → Prop} {a : Act} {w : World} (ho : ops[i]? = some o)
    (h : ∀ K' : Act → World → Prop, (∀ a w, K a w → K' a w) → if Region.wanted o (yielded ops a.tmps) = true then Oper.wp P o a w K' Q else K' (a.put o.dst undef) w) : wpOpS P ops Q i K a w := by
  have := h K (fun _ _ h => h)
  unfold wpOpS
  rw [ho]
  exact this
theorem wpOpS_in {l' n i : Nat} {K K' : Act → World → Prop} {a : Act} {w : World} (hd : ∀ o ∈ ops, ∀ c, o.op ≠ .defer c) (hK : ∀ a w, K a w → K' a w) (h : wpOpS P ops Q i K a w) : wpOpIn (Fence.wide.inRound l') n P ops Q i K' a w := by
  refine wpOpIn_mono hK ?_
  unfold wpOpS at h
  unfold wpOpIn
  split
  · next ho => rw [ho] at h; exact h
  · next o ho =>
    rw [ho] at h
    simp only at h
    have hm : o ∈ ops := Array.mem_of_getElem? ho
    split
    · next hw => rw [if_pos hw] at h; exact oper_round (hd o hm) h
    · next hw => rw [if_neg hw] at h; exact ⟨fun _ _ => trivial, h⟩
theorem wpAnyS_in {l' n : Nat} {md : Region.Mode} {l : List Oper} (hd : ∀ o ∈ l, ∀ c, o.op ≠ .defer c) : ∀ (fuel : Nat) (listed : Array Bool) (a : Act) (w : World), wpAnyS P md l.toArray Q fuel listed a w → wpAnyIn (Fence.wide.inRound l') n P md l.toArray Q fuel listed a w
  | 0, _, _, _, h => h
  | fuel + 1, listed, a, w, h => ⟨h.1, fun i hi => wpOpS_in (fun o ho => hd o (by simpa using ho)) (fun a w => wpAnyS_in hd fuel _ a w) (h.2 i hi)⟩
end
section
variable {P : Program} {l : List Oper} {Q : Exit → Act → World → Prop}
theorem wpAnyS_stab {a0 : Act} {W : World} {dl : List (Option Nat)} {ds X : List Nat} {Bx : List (Nat × Nat)} {Φ : List Fact} {As Ds : List (List Nat)} (hB : stabB l dl ds Bx As Ds = true) (hX : ∀ k ∈ X, k < W.heap.size) (hst : StableAll W.heap.size X Φ)
    (hop : OblAll P l Q a0 dl ds X Bx Φ Ds W 0 l As)
    (hend : ∀ (vs : Nat → Value) (iv : Nat → Nat × Nat) (w : World), Ext X W w → Apart Bx iv l.length → AllFacts Φ Bx Ds W.heap.size vs iv w 0 dl → Q .normal (setA a0 ds vs) w) :
    ∀ (fuel : Nat) (listed : Array Bool) (vs : Nat → Value) (iv : Nat → Nat × Nat) (w : World), listed.toList.count false ≤ fuel → Mid l X Bx Φ Ds W listed vs iv w →
      wpAnyS P .any l.toArray Q fuel listed (setA a0 ds vs) w := by
  simp only [stabB, Bool.and_eq_true] at hB
  obtain ⟨⟨⟨⟨⟨⟨⟨hIn, hAp⟩, hAn⟩, hTx⟩, hBx⟩, hSep⟩, hArg⟩, hDl⟩ := hB
  have hDl : l.map (·.dst) = dl := beq_iff_eq.1 hDl
  have hlen : dl.length = l.length := by rw [← hDl]; simp
  have hdg : ∀ (j : Nat) (oj : Oper), l[j]? = some oj → dl.getD j none = oj.dst := fun j oj h => by
    rw [← hDl]; simp [List.getD, h]
  obtain ⟨hbx, hinj⟩ := boxB_spec hBx
  have hsep : ∀ b ∈ Bx, Bx.lookup b.2 = none := fun b hb => by
    cases hl : Bx.lookup b.2 with
    | none => rfl
    | some a =>
      have hm := lookup_mem hl
      simp only [boxSep, List.all_eq_true, bne_iff_ne] at hSep
      exact absurd rfl (hSep _ hm b hb)
  -- where nothing is ready, all has come up
  have hall : ∀ (listed : Array Bool), listed.size = l.length → Region.ready .any l.toArray listed = [] → ∀ j, j < l.length → listed.getD j false = true := by
    intro listed hsz hr j
    induction j using Nat.strongRecOn with
    | ind j ih =>
      intro hj
      cases e : listed.getD j false with
      | true => rfl
      | false =>
        have hn : j ∉ Region.ready .any l.toArray listed := by rw [hr]; simp
        refine absurd ?_ hn
        rw [mem_ready]
        refine ⟨by simpa [Array.getD, hsz, hj] using e, l[j], by simp [hj], fun e he hb => ?_⟩
        have hlt := textB_spec hTx (i := j) (o := l[j]) (by simp [hj]) e he hb
        exact ih e.on (by omega) (by omega)
  have hfin : ∀ (listed : Array Bool) (vs : Nat → Value) (iv : Nat → Nat × Nat) (w : World), (∀ j, j < l.length → listed.getD j false = true) → Mid l X Bx Φ Ds W listed vs iv w → Q .normal (setA a0 ds vs) w := by
    intro listed vs iv w h1 h2
    refine hend vs iv w h2.ext (fun i j hi hj => h2.apart i j (h1 i hi) (h1 j hj)) (AllFacts.mk_ fun i hi he => ?_)
    rw [Nat.zero_add] at he
    rw [Nat.zero_add]
    have hi' : i < l.length := by omega
    have hio : l[i]? = some l[i] := by simp [hi']
    have hl := h1 i hi'
    rw [hdg i _ hio, ← valOf_dval]
    refine ⟨h2.fact i _ hl hio fun b hb e => ?_, h2.ivOf_in (fun b hb => (hbx b hb).1) hsep hl⟩
    have := List.any_eq_false.1 he b hb
    simp [e] at this
  intro fuel
  induction fuel with
  | zero =>
    intro listed vs iv w hc hM
    have hsz := hM.size
    have h1 : ∀ j, j < l.length → listed.getD j false = true := fun j hj => listed_of_count (by omega) (by omega)
    refine ⟨?_, hfin listed vs iv w h1 hM⟩
    cases hr : Region.ready .any l.toArray listed with
    | nil => rfl
    | cons j rest =>
      have hj : j ∈ Region.ready .any l.toArray listed := by rw [hr]; exact List.mem_cons_self
      obtain ⟨h2, o, ho, _⟩ := mem_ready.1 hj
      have hjl : j < l.length := by
        have := (Array.getElem?_eq_some_iff.1 ho).1
        simpa using this
      have h3 := h1 j hjl
      simp [Array.getD, hsz, hjl] at h2 h3
      rw [h3] at h2
      cases h2
  | succ fuel ih =>
    intro listed vs iv w hc hM
    refine ⟨fun hr => hfin listed vs iv w (hall listed hM.size hr) hM, fun i hi => ?_⟩
    obtain ⟨hun, o, ho, hpre⟩ := mem_ready.1 hi
    have ho' : l[i]? = some o := by simpa using ho
    have hil : i < l.length := (List.getElem?_eq_some_iff.1 ho').1
    have hunf : listed.getD i false = false := by
      have hs := hM.size
      simp only [Array.getD, show i < listed.size by omega, dif_pos] at hun ⊢
      exact hun
    obtain ⟨hanc, hancB⟩ := ancAll_spec hAn i
    rw [Nat.zero_add] at hanc hancB
    have hlist := ancChk_listed (listed := listed) ho' hpre hM.closed _ [i] (fun s hs => by simp at hs; exact .inl hs) hanc
    have hob := hop.get ho'
    rw [Nat.zero_add] at hob
    -- a box whose store is i, or comes behind i, has not been filled
    have hnot : ∀ j ∈ As.getD i [], ∀ b ∈ Bx, b.2 = j → listed.getD b.1 false = false := fun j hj b hb e => by
      cases hl : listed.getD b.1 false with
      | false => rfl
      | true =>
        rcases hancB j hj b hb e with h | h
        · rw [h, hunf] at hl; cases hl
        · obtain ⟨os, hos, ed, hed, hbd, hon⟩ := isAfter_spec h
          have := hM.closed b.1 os hl hos ed hed hbd
          rw [hon, hunf] at this
          cases this
    refine wpOpS_step ho fun K' hK => ?_
    refine hob vs iv w hM.ext (ancFacts_mk fun j hj => ⟨by
      have hjl : j < l.length := by
        have h1 := hlist j hj
        rcases Nat.lt_or_ge j l.length with h | h
        · exact h
        · simp [Array.getD, show ¬ j < listed.size by rw [hM.size]; omega] at h1
      have hjo : l[j]? = some l[j] := by simp [hjl]
      rw [hdg j _ hjo, ← valOf_dval]
      exact hM.fact j _ (hlist j hj) hjo (hnot j hj), hM.ivOf_in (fun b hb => (hbx b hb).1) hsep (hlist j hj)⟩) K' (fun a' v w' ha' hφ => hK _ _ ?_)
    subst ha'
    have hcount := count_set hun
    have hget : ∀ j, (listed.setIfInBounds i true).getD j false = true → j = i ∨ listed.getD j false = true := fun j hj => by
      by_cases e : j = i
      · exact .inl e
      · rw [getD_set_ne false (Ne.symm e)] at hj; exact .inr hj
    have hgetn : ∀ j, (listed.setIfInBounds i true).getD j false = false → listed.getD j false = false := fun j hj => by
      cases e : listed.getD j false with
      | false => rfl
      | true => rw [getD_set_true e] at hj; cases hj
    have hcl' : ∀ (j : Nat) (oj : Oper), (listed.setIfInBounds i true).getD j false = true → l[j]? = some oj → ∀ e ∈ oj.after, Region.binds .any e = true → (listed.setIfInBounds i true).getD e.on false = true := fun j oj hj hoj e he hb => by
      rcases hget j hj with rfl | hj
      · obtain rfl : oj = o := by rw [ho'] at hoj; exact (Option.some.inj hoj).symm
        exact getD_set_true (hpre e he hb)
      · exact getD_set_true (hM.closed j oj hj hoj e he hb)
    -- the values behind the step, read at whatever operation
    obtain ⟨vs', hput, hvi, hvo⟩ : ∃ vs', (setA a0 ds vs).put o.dst v = setA a0 ds vs' ∧ valOf o vs' = dstVal o v ∧ ∀ j oj, j ≠ i → l[j]? = some oj → valOf oj vs' = valOf oj vs := by
      cases hd : o.dst with
      | none => exact ⟨vs, rfl, by simp [valOf, dstVal, hd], fun _ _ _ _ => rfl⟩
      | some d =>
        refine ⟨updV vs d v, setA_put (dstsIn_spec hIn ho' hd), by simp [valOf, dstVal, hd, updV], fun j oj e hoj => ?_⟩
        have hne := dst_ne hAp (Ne.symm e) ho' hoj hd
        unfold valOf
        cases hdj : oj.dst with
        | none => rfl
        | some d' =>
          have : d' ≠ d := fun h => hne (by rw [hdj, h])
          simp [updV, this]
    -- whoever has come up by now, or comes up now, has its ancestors behind it
    have hargs : ∀ j oj, (j = i ∨ listed.getD j false = true) → l[j]? = some oj → (Ds.getD j []).map vs' = (Ds.getD j []).map vs := fun j oj hj hoj => by
      have hanj := (ancAll_spec hAn j).1
      rw [Nat.zero_add] at hanj
      have hpj : ∀ e ∈ oj.after, Region.binds .any e = true → listed.getD e.on false = true := by
        rcases hj with rfl | hj
        · obtain rfl : oj = o := by rw [ho'] at hoj; exact (Option.some.inj hoj).symm
          exact hpre
        · exact hM.closed j oj hj hoj
      have hls := ancChk_listed (listed := listed) hoj hpj hM.closed _ [j] (fun s hs => by simp at hs; exact .inl hs) hanj
      refine List.map_congr_left fun d hd => ?_
      obtain ⟨k, hk, hkd⟩ := argsB_spec hArg j d hd
      have hk1 := hls k hk
      have hki : k ≠ i := fun e => by rw [e, hunf] at hk1; cases hk1
      have hkl : k < l.length := by
        rcases Nat.lt_or_ge k l.length with h | h
        · exact h
        · simp [Array.getD, show ¬ k < listed.size by rw [hM.size]; omega] at hk1
      have hko : l[k]? = some l[k] := by simp [hkl]
      have hv := hvo k _ hki hko
      rw [hdg k _ hko] at hkd
      simpa [valOf, hkd] using hv
    rw [hput]
    cases hlk : Bx.lookup i with
    | none =>
      rw [hlk] at hφ
      obtain ⟨hx', hφ⟩ := hφ
      have hsame : ∀ lo hi, IvIn W.heap.size w (lo, hi) → Same W.heap.size X lo hi w w' := fun lo hi hq => ⟨hx'.os, hx'.tape, hx'.output, hx'.size, fun k hk hkk => hx'.block k hk (fun hm => by
        rcases hkk with h | h
        · exact h.2 hm
        · have h1 := hX k hm
          have h2 : W.heap.size ≤ lo := hq.1
          omega)⟩
      let iv' : Nat → Nat × Nat := fun j => if j = i then (w.heap.size, w'.heap.size) else iv j
      have hivn : ∀ j, j ≠ i → iv' j = iv j := fun j h => by simp [iv', h]
      have hivi : iv' i = (w.heap.size, w'.heap.size) := by simp [iv']
      have hivo : ∀ j, listed.getD j false = true → ivOf Bx iv' j = ivOf Bx iv j := fun j hj => by
        unfold ivOf
        cases hl : Bx.lookup j with
        | none => exact hivn j (fun e => by rw [e, hunf] at hj; cases hj)
        | some a =>
          have hm := lookup_mem hl
          obtain ⟨oj, hoj, e, he, hb, ha⟩ := isAfter_spec (hbx _ hm).1
          refine hivn a (fun e2 => ?_)
          have := hM.closed j oj hj hoj e he hb
          rw [ha, e2, hunf] at this
          cases this
      refine ih _ vs' iv' w' (by omega) ⟨by rw [Array.size_setIfInBounds]; exact hM.size, hcl', fun j oj hj hoj hk => ?_, fun j hj hl => ?_, fun p q hp hq hpq hlp hlq => ?_, hM.ext.trans hx'⟩
      · rcases hget j hj with rfl | hj
        · obtain rfl : oj = o := by rw [ho'] at hoj; exact (Option.some.inj hoj).symm
          rw [hvi, hargs j oj (.inl rfl) ho']
          unfold ivOf
          rw [hlk]
          simp only [hivi]
          exact hφ
        · have hne : j ≠ i := fun e => by rw [e, hunf] at hj; cases hj
          rw [hvo j oj hne hoj, hivo j hj, hargs j oj (.inr hj) hoj]
          exact hst.get j _ _ _ _ w w' (hM.fact j oj hj hoj fun b hb e => hgetn _ (hk b hb e)) (hsame _ _ (hM.ivOf_in (fun b hb => (hbx b hb).1) hsep hj))
      · rcases hget j hj with rfl | hj
        · rw [hivi]; exact ⟨hM.ext.size, hx'.size, Nat.le_refl _⟩
        · rw [hivn j (fun e => by rw [e, hunf] at hj; cases hj)]
          obtain ⟨q1, q2, q3⟩ := hM.made j hj hl
          exact ⟨q1, q2, Nat.le_trans q3 hx'.size⟩
      · rcases hget p hp with rfl | hp
        · rcases hget q hq with rfl | hq
          · exact absurd rfl hpq
          · rw [hivi, hivn q (Ne.symm hpq)]
            exact .inr (hM.made q hq hlq).2.2
        · rcases hget q hq with rfl | hq
          · rw [hivi, hivn p hpq]
            exact .inl (hM.made p (by assumption) hlp).2.2
          · rw [hivn p (fun e => by rw [e, hunf] at hp; cases hp), hivn q (fun e => by rw [e, hunf] at hq; cases hq)]
            exact hM.apart p q hp hq hpq hlp hlq
    | some a =>
      rw [hlk] at hφ
      obtain ⟨hne0, hx', hφ⟩ := hφ
      have hma := lookup_mem hlk
      have hal : listed.getD a false = true := by
        obtain ⟨os, hos, e, he, hb, ha⟩ := isAfter_spec (hbx _ hma).1
        obtain rfl : os = o := by rw [ho'] at hos; exact (Option.some.inj hos).symm
        have := hpre e he hb
        rw [ha] at this
        exact this
      have hla : Bx.lookup a = none := hsep _ hma
      have hiva := hM.made a hal hla
      have hxx : Ext X W w' := by
        refine ⟨hx'.os.trans hM.ext.os, hx'.tape.trans hM.ext.tape, hx'.output.trans hM.ext.output, Nat.le_trans hM.ext.size hx'.size, fun k hk hkx => ?_⟩
        have h1 : W.heap.size ≤ (iv a).1 := hiva.1
        exact (hx'.block k (Nat.lt_of_lt_of_le hk hM.ext.size) (fun hm => by
          rcases List.mem_cons.1 hm with e | hm
          · omega
          · exact hkx hm)).trans (hM.ext.block k hk hkx)
      refine ih _ vs' iv w' (by omega) ⟨by rw [Array.size_setIfInBounds]; exact hM.size, hcl', fun j oj hj hoj hk => ?_, fun j hj hl => ?_, fun p q hp hq hpq hlp hlq => ?_, hxx⟩
      · rcases hget j hj with rfl | hj
        · obtain rfl : oj = o := by rw [ho'] at hoj; exact (Option.some.inj hoj).symm
          rw [hvi, hargs j oj (.inl rfl) ho']
          unfold ivOf
          rw [hlk]
          exact hφ
        · have hne : j ≠ i := fun e => by rw [e, hunf] at hj; cases hj
          rw [hvo j oj hne hoj, hargs j oj (.inr hj) hoj]
          -- j is not the alloc of this store: that fact is over
          have hja : j ≠ a := fun e => by
            have := hk _ hma e.symm
            rw [show ((i, a) : Nat × Nat).1 = i from rfl] at this
            have h2 : (listed.setIfInBounds i true).getD i false = true := by simp [Array.getD, hM.size, hil]
            rw [h2] at this
            cases this
          refine hst.get j _ _ _ _ w w' (hM.fact j oj hj hoj fun b hb e => hgetn _ (hk b hb e)) ⟨hx'.os, hx'.tape, hx'.output, hx'.size, fun k hk2 hkk => hx'.block k hk2 (fun hm => ?_)⟩
          have h1 : W.heap.size ≤ (iv a).1 := hiva.1
          -- whose interval is it?
          have hown : (ivOf Bx iv j).2 ≤ (iv a).1 ∨ (iv a).2 ≤ (ivOf Bx iv j).1 := by
            unfold ivOf
            cases hl : Bx.lookup j with
            | none => exact hM.apart j a hj hal hja hl hla
            | some a' =>
              have hm' := lookup_mem hl
              have hne' : a' ≠ a := fun e => by
                have := hinj _ hm' _ hma (.inr e)
                exact hne (congrArg Prod.fst this)
              obtain ⟨oj', hoj', e, he, hb, ha⟩ := isAfter_spec (hbx _ hm').1
              have hc := hM.closed j oj' hj hoj' e he hb
              rw [ha] at hc
              exact hM.apart a' a hc hal hne' (hsep _ hm') hla
          have hj2 := hM.ivOf_in (fun b hb => (hbx b hb).1) hsep hj
          rcases List.mem_cons.1 hm with e | hm
          · rcases hkk with h | h
            · omega
            · omega
          · rcases hkk with h | h
            · exact h.2 hm
            · have := hX k hm
              have h2 : W.heap.size ≤ (ivOf Bx iv j).1 := hj2.1
              omega
      · rcases hget j hj with rfl | hj
        · rw [hlk] at hl; cases hl
        · obtain ⟨q1, q2, q3⟩ := hM.made j hj hl
          exact ⟨q1, q2, Nat.le_trans q3 hx'.size⟩
      · rcases hget p hp with rfl | hp
        · rw [hlk] at hlp; cases hlp
        · rcases hget q hq with rfl | hq
          · rw [hlk] at hlq; cases hlq
          · exact hM.apart p q hp hq hpq hlp hlq

theorem wpIn_region_stab {l' : Nat} {nF : Nat} {id : Nat} {a0 : Act} {w0 : World} (dl : List (Option Nat)) (ds X : List Nat) (Bx : List (Nat × Nat)) (Φ : List Fact) (As Ds : List (List Nat)) (hd : ∀ o ∈ l, ∀ c, o.op ≠ .defer c) (hm : P.follows .mixedOrders = true) (hB : stabB l dl ds Bx As Ds = true) (hX : ∀ k ∈ X, k < w0.drew.heap.size)
    (hst : StableAll w0.drew.heap.size X Φ) (hop : OblAll P l Q a0 dl ds X Bx Φ Ds w0.drew 0 l As)
    (hend : ∀ (vs : Nat → Value) (iv : Nat → Nat × Nat) (w : World), Ext X w0.drew w → Apart Bx iv l.length → AllFacts Φ Bx Ds w0.drew.heap.size vs iv w 0 dl → Q .normal (setA a0 ds vs) w) :
    (Code.region id l.toArray true).wpIn (Fence.wide.inRound l') nF P Q a0 w0 := by
  refine wpIn_region_any hm ?_
  refine wpAnyS_in hd _ _ _ _ ?_
  have hno : ∀ j, (Array.replicate l.toArray.size false).getD j false = false := fun j => by simp [Array.getD]
  have h := wpAnyS_stab hB hX hst hop hend l.toArray.size (Array.replicate l.toArray.size false) (fun d => a0.tmps.getD d undef) (fun _ => (0, 0)) w0.drew (by simp)
    ⟨by simp, fun j oj hj => (by rw [hno] at hj; cases hj), fun j oj hj => (by rw [hno] at hj; cases hj), fun j hj => (by rw [hno] at hj; cases hj), fun i j hi => (by rw [hno] at hi; cases hi), Ext.refl _ _⟩
  rw [setA_self] at h
  exact h
end
end Go.Proofs.YtjgclemfehfgiaaDoor.Base
namespace Go.Proofs.YtjgclemfehfgiaaDoor.Base
open Go Go.RowKit
set_option linter.unusedVariables false
set_option linter.unusedSimpArgs false
attribute [local go_sem] Oper.semAt_some

section
variable (w : World) (W H : Int) (A : Option Addr) (n c : Nat) (f : Nat → Int) (s : Int)
/-- the program's memory while a curve is walked: the number of border points so far -/
structure TI (wL : World) (pn : Nat) (g : Nat → Nat) (w0 : World) (j : Nat) (w : World) : Prop where
  sz : wL.heap.size ≤ w.heap.size
  old : ∀ b, b < wL.heap.size → b ≠ pn → w.heap[b]? = wL.heap[b]?
  cnt : At w pn #[.int .i64 (g j : Int)] 2
  bel : Below w0.heap.size w0 w
end
theorem TI.b {wL w0 : World} {pn : Nat} {g : Nat → Nat} {j : Nat} {w w' : World} (h : TI wL pn g w0 j w) (hb : Below w.heap.size w w') : TI wL pn g w0 j w' :=
  ⟨Nat.le_trans h.sz hb.size, fun b h1 h2 => (hb.block b (Nat.lt_of_lt_of_le h1 h.sz)).trans (h.old b h1 h2), h.cnt.below hb h.cnt.lt, h.bel.trans (hb.mono h.bel.size)⟩
theorem holds_ti {wL w0 : World} {pn : Nat} {g : Nat → Nat} (hc : pn < wL.heap.size) (hw : w0.heap.size ≤ wL.heap.size) : HoldsY wL.heap.size (fun X j A => X = [pn] ∧ TI wL pn g w0 j A) where
  below := fun X k A A' h hb => ⟨h.1, h.2.b hb⟩
  put := fun X k A l o' h hl _ ho => ⟨h.1, by simpa using h.2.sz, fun b h1 h2 => (World.putObj_heap_other (by omega)).trans (h.2.old b h1 h2), at_put h.2.cnt ho, h.2.bel.grown (grownBy_putObj' _ _ _) h.2.bel.size (fun j e => by cases e; omega)⟩
  set := fun X k A b i u h hb _ => ⟨h.1, by simpa [World.setCell] using h.2.sz, fun b' h1 h2 => (Below.heap_setCell _ _ _ _ (by simp; omega)).trans (h.2.old b' h1 h2), h.2.cnt.setOther (a := ⟨b, i, none⟩) (show b ≠ pn by omega) u, h.2.bel.setCell (p := ⟨b, i, none⟩) (show w0.heap.size ≤ b by omega) u⟩

end Go.Proofs.YtjgclemfehfgiaaDoor.Base
namespace Go.Proofs.YtjgclemfehfgiaaDoor.Base
open Go Go.RowKit
set_option linter.unusedVariables false
set_option linter.unusedSimpArgs false

theorem dir_at0 (w : World) : (Instr.index 231 (.agg #[.int .i64 (-1), .int .i64 (-1), .int .i64 1, .int .i64 (-1), .int .i64 (-1), .int .i64 1, .int .i64 1, .int .i64 1]) (.int .i64 0)).run Tryd.prog w = .ok (.agg #[.int .i64 (-1), .int .i64 (-1)]) w := by kernel_rfl
theorem dir_at1 (w : World) : (Instr.index 231 (.agg #[.int .i64 (-1), .int .i64 (-1), .int .i64 1, .int .i64 (-1), .int .i64 (-1), .int .i64 1, .int .i64 1, .int .i64 1]) (.int .i64 1)).run Tryd.prog w = .ok (.agg #[.int .i64 1, .int .i64 (-1)]) w := by kernel_rfl
theorem dir_at2 (w : World) : (Instr.index 231 (.agg #[.int .i64 (-1), .int .i64 (-1), .int .i64 1, .int .i64 (-1), .int .i64 (-1), .int .i64 1, .int .i64 1, .int .i64 1]) (.int .i64 2)).run Tryd.prog w = .ok (.agg #[.int .i64 (-1), .int .i64 1]) w := by kernel_rfl
theorem dir_at3 (w : World) : (Instr.index 231 (.agg #[.int .i64 (-1), .int .i64 (-1), .int .i64 1, .int .i64 (-1), .int .i64 (-1), .int .i64 1, .int .i64 1, .int .i64 1]) (.int .i64 3)).run Tryd.prog w = .ok (.agg #[.int .i64 1, .int .i64 1]) w := by kernel_rfl
theorem arr_at0 (w : World) (a b c d : Int) : (Instr.index 226 (.agg #[.int .i64 a, .int .i64 b, .int .i64 c, .int .i64 d]) (.int .i64 0)).run Tryd.prog w = .ok (.int .i64 a) w := by kernel_rfl
theorem arr_at1 (w : World) (a b c d : Int) : (Instr.index 226 (.agg #[.int .i64 a, .int .i64 b, .int .i64 c, .int .i64 d]) (.int .i64 1)).run Tryd.prog w = .ok (.int .i64 b) w := by kernel_rfl
theorem arr_at2 (w : World) (a b c d : Int) : (Instr.index 226 (.agg #[.int .i64 a, .int .i64 b, .int .i64 c, .int .i64 d]) (.int .i64 2)).run Tryd.prog w = .ok (.int .i64 c) w := by kernel_rfl
theorem arr_at3 (w : World) (a b c d : Int) : (Instr.index 226 (.agg #[.int .i64 a, .int .i64 b, .int .i64 c, .int .i64 d]) (.int .i64 3)).run Tryd.prog w = .ok (.int .i64 d) w := by kernel_rfl
/-- the array of the four segments while it is filled -/
def sqA (s0 s1 s2 s3 : Int) : Nat → Array Value
  | 0 => #[.int .i64 0, .int .i64 0, .int .i64 0, .int .i64 0]
  | 1 => #[.int .i64 s0, .int .i64 0, .int .i64 0, .int .i64 0]
  | 2 => #[.int .i64 s0, .int .i64 s1, .int .i64 0, .int .i64 0]
  | 3 => #[.int .i64 s0, .int .i64 s1, .int .i64 s2, .int .i64 0]
  | _ => #[.int .i64 s0, .int .i64 s1, .int .i64 s2, .int .i64 s3]
/-- the array of the segments at an inner point -/
def sq4 (H x y : Int) : Value := .agg #[.int .i64 (segOf H x y (-1) (-1)), .int .i64 (segOf H x y 1 (-1)), .int .i64 (segOf H x y (-1) 1), .int .i64 (segOf H x y 1 1)]
set_option maxHeartbeats 1000000 in
theorem leaving_0 (w : World) (x y : Int) (hT : Cel w 1 [.int .i64 (-1), .int .i64 (-1), .int .i64 1, .int .i64 (-1), .int .i64 (-1), .int .i64 1, .int .i64 1, .int .i64 1]) : Calls Tryd.prog 159 #[.agg #[.int .i64 x, .int .i64 y], .int .i64 0] w (Gives (.agg #[.int .i64 x, .int .i64 y, .int .i64 (-1), .int .i64 (-1)]) w) := by
  have gl := hT.1
  have gz : w.heap.size ≠ 0 := by omega
  have gz2 : 0 < w.heap.size := by omega
  have g0 : w.cell? ⟨1, 0, none⟩ = some (.int .i64 (-1)) := hT.2 0 _ rfl
  have g1 : w.cell? ⟨1, 1, none⟩ = some (.int .i64 (-1)) := hT.2 1 _ rfl
  clear hT
  go_enter Tryd.func159, Tryd.ntmps159
  go_wp2
  refine bodyPost_ret ?_ rfl ⟨rfl, ?_⟩
  · simp [results, Tryd.results159, go_sem]
  · go_grown
set_option maxHeartbeats 1000000 in
theorem leaving_1 (w : World) (x y : Int) (hT : Cel w 1 [.int .i64 (-1), .int .i64 (-1), .int .i64 1, .int .i64 (-1), .int .i64 (-1), .int .i64 1, .int .i64 1, .int .i64 1]) : Calls Tryd.prog 159 #[.agg #[.int .i64 x, .int .i64 y], .int .i64 1] w (Gives (.agg #[.int .i64 x, .int .i64 y, .int .i64 (1), .int .i64 (-1)]) w) := by
  have gl := hT.1
  have gz : w.heap.size ≠ 0 := by omega
  have gz2 : 0 < w.heap.size := by omega
  have g0 : w.cell? ⟨1, 2, none⟩ = some (.int .i64 (1)) := hT.2 2 _ rfl
  have g1 : w.cell? ⟨1, 3, none⟩ = some (.int .i64 (-1)) := hT.2 3 _ rfl
  clear hT
  go_enter Tryd.func159, Tryd.ntmps159
  go_wp2
  refine bodyPost_ret ?_ rfl ⟨rfl, ?_⟩
  · simp [results, Tryd.results159, go_sem]
  · go_grown
set_option maxHeartbeats 1000000 in
theorem leaving_2 (w : World) (x y : Int) (hT : Cel w 1 [.int .i64 (-1), .int .i64 (-1), .int .i64 1, .int .i64 (-1), .int .i64 (-1), .int .i64 1, .int .i64 1, .int .i64 1]) : Calls Tryd.prog 159 #[.agg #[.int .i64 x, .int .i64 y], .int .i64 2] w (Gives (.agg #[.int .i64 x, .int .i64 y, .int .i64 (-1), .int .i64 (1)]) w) := by
  have gl := hT.1
  have gz : w.heap.size ≠ 0 := by omega
  have gz2 : 0 < w.heap.size := by omega
  have g0 : w.cell? ⟨1, 4, none⟩ = some (.int .i64 (-1)) := hT.2 4 _ rfl
  have g1 : w.cell? ⟨1, 5, none⟩ = some (.int .i64 (1)) := hT.2 5 _ rfl
  clear hT
  go_enter Tryd.func159, Tryd.ntmps159
  go_wp2
  refine bodyPost_ret ?_ rfl ⟨rfl, ?_⟩
  · simp [results, Tryd.results159, go_sem]
  · go_grown
set_option maxHeartbeats 1000000 in
theorem leaving_3 (w : World) (x y : Int) (hT : Cel w 1 [.int .i64 (-1), .int .i64 (-1), .int .i64 1, .int .i64 (-1), .int .i64 (-1), .int .i64 1, .int .i64 1, .int .i64 1]) : Calls Tryd.prog 159 #[.agg #[.int .i64 x, .int .i64 y], .int .i64 3] w (Gives (.agg #[.int .i64 x, .int .i64 y, .int .i64 (1), .int .i64 (1)]) w) := by
  have gl := hT.1
  have gz : w.heap.size ≠ 0 := by omega
  have gz2 : 0 < w.heap.size := by omega
  have g0 : w.cell? ⟨1, 6, none⟩ = some (.int .i64 (1)) := hT.2 6 _ rfl
  have g1 : w.cell? ⟨1, 7, none⟩ = some (.int .i64 (1)) := hT.2 7 _ rfl
  clear hT
  go_enter Tryd.func159, Tryd.ntmps159
  go_wp2
  refine bodyPost_ret ?_ rfl ⟨rfl, ?_⟩
  · simp [results, Tryd.results159, go_sem]
  · go_grown
set_option maxRecDepth 100000 in
set_option maxHeartbeats 2000000 in
theorem impl_segmentsAt (w : World) (W H x y : Int) (M : Nat) (hT : Cel w 1 [.int .i64 (-1), .int .i64 (-1), .int .i64 1, .int .i64 (-1), .int .i64 (-1), .int .i64 1, .int .i64 1, .int .i64 1]) (hH : sideB H = true) (x1 : 1 ≤ x) (x2 : x ≤ 16) (y1 : 1 ≤ y) (y2 : y ≤ 16) (hs : SegsIn H M x y) (hM : M ≤ 256) :
    Calls Tryd.prog 182 #[.agg #[.int .i64 W, .int .i64 H], .agg #[.int .i64 x, .int .i64 y]] w (Gives (sq4 H x y) w) := by
  unfold sq4
  obtain ⟨s0, e0⟩ : ∃ s0, segOf H x y (-1) (-1) = s0 := ⟨_, rfl⟩
  obtain ⟨s1, e1⟩ : ∃ s1, segOf H x y 1 (-1) = s1 := ⟨_, rfl⟩
  obtain ⟨s2, e2⟩ : ∃ s2, segOf H x y (-1) 1 = s2 := ⟨_, rfl⟩
  obtain ⟨s3, e3⟩ : ∃ s3, segOf H x y 1 1 = s3 := ⟨_, rfl⟩
  obtain ⟨⟨r0, r0'⟩, ⟨r1, r1'⟩, ⟨r2, r2'⟩, ⟨r3, r3'⟩⟩ := hs
  rw [e0] at r0 r0'
  rw [e1] at r1 r1'
  rw [e2] at r2 r2'
  rw [e3] at r3 r3'
  rw [e0, e1, e2, e3]
  have HE0 := Lib.hid e0
  have HE1 := Lib.hid e1
  have HE2 := Lib.hid e2
  have HE3 := Lib.hid e3
  have HT := Lib.hid hT
  have gl := hT.1
  have gz : w.heap.size ≠ 0 := by omega
  have gz2 : 0 < w.heap.size := by omega
  clear hT e0 e1 e2 e3
  go_enter Tryd.func182, Tryd.ntmps182
  go_wp2
  have A1 := (Below.refl w.heap.size w).alloc (Nat.le_refl _) (.cells #[.int .i64 W, .int .i64 H] 82)
  have A2 := A1.alloc A1.size (.cells #[.int .i64 x, .int .i64 y] 32)
  have A3 := A2.alloc A2.size (.cells #[.int .i64 0, .int .i64 0, .int .i64 0, .int .i64 0] 226)
  have A4 := A3.alloc A3.size (.cells #[.int .i64 0, .int .i64 0, .int .i64 0, .int .i64 0] 226)
  have HB := Lib.hid A4
  have HS0 := Lib.hid ((((At.new w #[.int .i64 W, .int .i64 H] 82).below ((Below.refl _ _).alloc (Nat.le_refl _) (.cells #[.int .i64 x, .int .i64 y] 32)) (by simp)).below ((Below.refl _ _).alloc (Nat.le_refl _) (.cells #[.int .i64 0, .int .i64 0, .int .i64 0, .int .i64 0] 226)) (by first | exact Nat.le_refl _ | (simp; done) | (simp; omega) | omega)).below ((Below.refl _ _).alloc (Nat.le_refl _) (.cells #[.int .i64 0, .int .i64 0, .int .i64 0, .int .i64 0] 226)) (by first | exact Nat.le_refl _ | (simp; done) | (simp; omega) | omega))
  have HS1 := Lib.hid (((show At ((w.alloc (.cells #[.int .i64 W, .int .i64 H] 82)).alloc (.cells #[.int .i64 x, .int .i64 y] 32)) (w.heap.size + 1) #[.int .i64 x, .int .i64 y] 32 from At.newAt (by simp)).below ((Below.refl _ _).alloc (Nat.le_refl _) (.cells #[.int .i64 0, .int .i64 0, .int .i64 0, .int .i64 0] 226)) (by simp)).below ((Below.refl _ _).alloc (Nat.le_refl _) (.cells #[.int .i64 0, .int .i64 0, .int .i64 0, .int .i64 0] 226)) (by first | exact Nat.le_refl _ | (simp; done) | (simp; omega) | omega))
  have HS2 := Lib.hid ((show At (((w.alloc (.cells #[.int .i64 W, .int .i64 H] 82)).alloc (.cells #[.int .i64 x, .int .i64 y] 32)).alloc (.cells #[.int .i64 0, .int .i64 0, .int .i64 0, .int .i64 0] 226)) (w.heap.size + 2) #[.int .i64 0, .int .i64 0, .int .i64 0, .int .i64 0] 226 from At.newAt (by simp)).below ((Below.refl _ _).alloc (Nat.le_refl _) (.cells #[.int .i64 0, .int .i64 0, .int .i64 0, .int .i64 0] 226)) (by simp))
  have HS3 := Lib.hid (show At ((((w.alloc (.cells #[.int .i64 W, .int .i64 H] 82)).alloc (.cells #[.int .i64 x, .int .i64 y] 32)).alloc (.cells #[.int .i64 0, .int .i64 0, .int .i64 0, .int .i64 0] 226)).alloc (.cells #[.int .i64 0, .int .i64 0, .int .i64 0, .int .i64 0] 226)) (w.heap.size + 3) (sqA s0 s1 s2 s3 0) 226 from At.newAt (by simp))
  clear A1 A2 A3 A4
  generalize (((w.alloc (.cells #[.int .i64 W, .int .i64 H] 82)).alloc (.cells #[.int .i64 x, .int .i64 y] 32)).alloc (.cells #[.int .i64 0, .int .i64 0, .int .i64 0, .int .i64 0] 226)).alloc (.cells #[.int .i64 0, .int .i64 0, .int .i64 0, .int .i64 0] 226) = w4 at HB HS0 HS1 HS2 HS3 ⊢
  go_loopw [8] (fun kv wr => ∃ k : Nat, k ≤ 4 ∧ kv = .int .i64 k ∧ Hid (At wr w.heap.size #[.int .i64 W, .int .i64 H] 82) ∧ Hid (At wr (w.heap.size + 1) #[.int .i64 x, .int .i64 y] 32) ∧ Hid (At wr (w.heap.size + 2) #[.int .i64 0, .int .i64 0, .int .i64 0, .int .i64 0] 226) ∧ Hid (At wr (w.heap.size + 3) (sqA s0 s1 s2 s3 k) 226) ∧ Hid (Below w.heap.size w wr)) (fun kv _ => 9 - (intOf kv).toNat)
  case atStart => exact ⟨0, by omega, rfl, HS0, HS1, HS2, HS3, HB⟩
  case round =>
    clear HB HS0 HS1 HS2 HS3
    obtain ⟨k, hk, rfl, H0, H1, H2, H3, HB⟩ := hrel
    have l0 := H0.out.lt
    have l1 := H1.out.lt
    have l2 := H2.out.lt
    have l3 := H3.out.lt
    have p0 := H0.out.cellv (i := 0) rfl
    have p1 := H0.out.cellv (i := 1) rfl
    have q0 := H1.out.cellv (i := 0) rfl
    have q1 := H1.out.cellv (i := 1) rfl
    have HTr := Lib.hid (HT.out.below HB.out HT.out.1)
    have HTd : Hid (Cel wr.drew 1 [.int .i64 (-1), .int .i64 (-1), .int .i64 1, .int .i64 (-1), .int .i64 (-1), .int .i64 1, .int .i64 1, .int .i64 1]) := Lib.hid (HTr.out.below (Below.refl _ wr).drew HTr.out.1)
    rcases (show k = 0 ∨ k = 1 ∨ k = 2 ∨ k = 3 ∨ k = 4 by omega) with rfl | rfl | rfl | rfl | rfl
    · go_wp2_with fail
      go_region_with (first
        | (go_at_call 159; (first | refine (leaving_0 _ x y HTd.out).mono ?_ | refine (leaving_0 _ x y HTr.out).mono ?_); rintro e wa ⟨rfl, ba⟩; have H0a := Lib.hid (H0.out.of_block (ba.block _ l0)); have p0a : wa.cell? ⟨w.heap.size, 0, none⟩ = some (.int .i64 W) := H0a.out.cellv (i := 0) rfl; have p1a : wa.cell? ⟨w.heap.size, 1, none⟩ = some (.int .i64 H) := H0a.out.cellv (i := 1) rfl; have p2a := H0a.out.lt; have HBa := Lib.hid (show Below wr.heap.size wr wa from (Below.refl wr.heap.size wr).drew.trans ba); clear ba)
        | (go_at_call 161; refine (implSeg _ W H x y (-1) (-1) hH (by omega) x2 (by omega) y2 (by omega) (by omega) rfl rfl).mono ?_; rintro e wb ⟨rfl, bb⟩; have HX := Lib.hid (HBa.out.trans (bb.mono HBa.out.size)); have H3b := Lib.hid (H3.out.below HX.out l3); have l3b := H3b.out.lt; have f3 := H3b.out.frozen 0; have c3 : wb.cell? ⟨w.heap.size + 3, 0, none⟩ = some (.int .i64 0) := H3b.out.cellv (i := 0) rfl; clear bb))
      all_goals
        clear p0 p1 q0 q1 l3b f3 c3
        rw [HE0.out]
        have X5 := HX.out
        have H05 := Lib.hid (H0.out.below X5 l0)
        have H15 := Lib.hid (H1.out.below X5 l1)
        have H25 := Lib.hid (H2.out.below X5 l2)
        have HB5 := Lib.hid (HB.out.trans (X5.mono HB.out.size))
        clear X5
        go_wp2
        go_roundw
        case rel => exact ⟨1, by omega, by go_num, Lib.hid (H05.out.setOther (a := ⟨w.heap.size + 3, 0, none⟩) (by simp) _), Lib.hid (H15.out.setOther (a := ⟨w.heap.size + 3, 0, none⟩) (by simp) _), Lib.hid (H25.out.setOther (a := ⟨w.heap.size + 3, 0, none⟩) (by simp) _), Lib.hid (H3b.out.set 0 (.int .i64 s0)), Lib.hid (HB5.out.setCell (p := ⟨w.heap.size + 3, 0, none⟩) (by simp) _)⟩
        case measure => simp [intOf]
    · go_wp2_with fail
      go_region_with (first
        | (go_at_call 159; (first | refine (leaving_1 _ x y HTd.out).mono ?_ | refine (leaving_1 _ x y HTr.out).mono ?_); rintro e wa ⟨rfl, ba⟩; have H0a := Lib.hid (H0.out.of_block (ba.block _ l0)); have p0a : wa.cell? ⟨w.heap.size, 0, none⟩ = some (.int .i64 W) := H0a.out.cellv (i := 0) rfl; have p1a : wa.cell? ⟨w.heap.size, 1, none⟩ = some (.int .i64 H) := H0a.out.cellv (i := 1) rfl; have p2a := H0a.out.lt; have HBa := Lib.hid (show Below wr.heap.size wr wa from (Below.refl wr.heap.size wr).drew.trans ba); clear ba)
        | (go_at_call 161; refine (implSeg _ W H x y (1) (-1) hH (by omega) x2 (by omega) y2 (by omega) (by omega) rfl rfl).mono ?_; rintro e wb ⟨rfl, bb⟩; have HX := Lib.hid (HBa.out.trans (bb.mono HBa.out.size)); have H3b := Lib.hid (H3.out.below HX.out l3); have l3b := H3b.out.lt; have f3 := H3b.out.frozen 1; have c3 : wb.cell? ⟨w.heap.size + 3, 1, none⟩ = some (.int .i64 0) := H3b.out.cellv (i := 1) rfl; clear bb))
      all_goals
        clear p0 p1 q0 q1 l3b f3 c3
        rw [HE1.out]
        have X5 := HX.out
        have H05 := Lib.hid (H0.out.below X5 l0)
        have H15 := Lib.hid (H1.out.below X5 l1)
        have H25 := Lib.hid (H2.out.below X5 l2)
        have HB5 := Lib.hid (HB.out.trans (X5.mono HB.out.size))
        clear X5
        go_wp2
        go_roundw
        case rel => exact ⟨2, by omega, by go_num, Lib.hid (H05.out.setOther (a := ⟨w.heap.size + 3, 1, none⟩) (by simp) _), Lib.hid (H15.out.setOther (a := ⟨w.heap.size + 3, 1, none⟩) (by simp) _), Lib.hid (H25.out.setOther (a := ⟨w.heap.size + 3, 1, none⟩) (by simp) _), Lib.hid (H3b.out.set 1 (.int .i64 s1)), Lib.hid (HB5.out.setCell (p := ⟨w.heap.size + 3, 1, none⟩) (by simp) _)⟩
        case measure => simp [intOf]
    · go_wp2_with fail
      go_region_with (first
        | (go_at_call 159; (first | refine (leaving_2 _ x y HTd.out).mono ?_ | refine (leaving_2 _ x y HTr.out).mono ?_); rintro e wa ⟨rfl, ba⟩; have H0a := Lib.hid (H0.out.of_block (ba.block _ l0)); have p0a : wa.cell? ⟨w.heap.size, 0, none⟩ = some (.int .i64 W) := H0a.out.cellv (i := 0) rfl; have p1a : wa.cell? ⟨w.heap.size, 1, none⟩ = some (.int .i64 H) := H0a.out.cellv (i := 1) rfl; have p2a := H0a.out.lt; have HBa := Lib.hid (show Below wr.heap.size wr wa from (Below.refl wr.heap.size wr).drew.trans ba); clear ba)
        | (go_at_call 161; refine (implSeg _ W H x y (-1) (1) hH (by omega) x2 (by omega) y2 (by omega) (by omega) rfl rfl).mono ?_; rintro e wb ⟨rfl, bb⟩; have HX := Lib.hid (HBa.out.trans (bb.mono HBa.out.size)); have H3b := Lib.hid (H3.out.below HX.out l3); have l3b := H3b.out.lt; have f3 := H3b.out.frozen 2; have c3 : wb.cell? ⟨w.heap.size + 3, 2, none⟩ = some (.int .i64 0) := H3b.out.cellv (i := 2) rfl; clear bb))
      all_goals
        clear p0 p1 q0 q1 l3b f3 c3
        rw [HE2.out]
        have X5 := HX.out
        have H05 := Lib.hid (H0.out.below X5 l0)
        have H15 := Lib.hid (H1.out.below X5 l1)
        have H25 := Lib.hid (H2.out.below X5 l2)
        have HB5 := Lib.hid (HB.out.trans (X5.mono HB.out.size))
        clear X5
        go_wp2
        go_roundw
        case rel => exact ⟨3, by omega, by go_num, Lib.hid (H05.out.setOther (a := ⟨w.heap.size + 3, 2, none⟩) (by simp) _), Lib.hid (H15.out.setOther (a := ⟨w.heap.size + 3, 2, none⟩) (by simp) _), Lib.hid (H25.out.setOther (a := ⟨w.heap.size + 3, 2, none⟩) (by simp) _), Lib.hid (H3b.out.set 2 (.int .i64 s2)), Lib.hid (HB5.out.setCell (p := ⟨w.heap.size + 3, 2, none⟩) (by simp) _)⟩
        case measure => simp [intOf]
    · go_wp2_with fail
      go_region_with (first
        | (go_at_call 159; (first | refine (leaving_3 _ x y HTd.out).mono ?_ | refine (leaving_3 _ x y HTr.out).mono ?_); rintro e wa ⟨rfl, ba⟩; have H0a := Lib.hid (H0.out.of_block (ba.block _ l0)); have p0a : wa.cell? ⟨w.heap.size, 0, none⟩ = some (.int .i64 W) := H0a.out.cellv (i := 0) rfl; have p1a : wa.cell? ⟨w.heap.size, 1, none⟩ = some (.int .i64 H) := H0a.out.cellv (i := 1) rfl; have p2a := H0a.out.lt; have HBa := Lib.hid (show Below wr.heap.size wr wa from (Below.refl wr.heap.size wr).drew.trans ba); clear ba)
        | (go_at_call 161; refine (implSeg _ W H x y (1) (1) hH (by omega) x2 (by omega) y2 (by omega) (by omega) rfl rfl).mono ?_; rintro e wb ⟨rfl, bb⟩; have HX := Lib.hid (HBa.out.trans (bb.mono HBa.out.size)); have H3b := Lib.hid (H3.out.below HX.out l3); have l3b := H3b.out.lt; have f3 := H3b.out.frozen 3; have c3 : wb.cell? ⟨w.heap.size + 3, 3, none⟩ = some (.int .i64 0) := H3b.out.cellv (i := 3) rfl; clear bb))
      all_goals
        clear p0 p1 q0 q1 l3b f3 c3
        rw [HE3.out]
        have X5 := HX.out
        have H05 := Lib.hid (H0.out.below X5 l0)
        have H15 := Lib.hid (H1.out.below X5 l1)
        have H25 := Lib.hid (H2.out.below X5 l2)
        have HB5 := Lib.hid (HB.out.trans (X5.mono HB.out.size))
        clear X5
        go_wp2
        go_roundw
        case rel => exact ⟨4, by omega, by go_num, Lib.hid (H05.out.setOther (a := ⟨w.heap.size + 3, 3, none⟩) (by simp) _), Lib.hid (H15.out.setOther (a := ⟨w.heap.size + 3, 3, none⟩) (by simp) _), Lib.hid (H25.out.setOther (a := ⟨w.heap.size + 3, 3, none⟩) (by simp) _), Lib.hid (H3b.out.set 3 (.int .i64 s3)), Lib.hid (HB5.out.setCell (p := ⟨w.heap.size + 3, 3, none⟩) (by simp) _)⟩
        case measure => simp [intOf]
    · have z0 := H2.out.cellv (i := 0) rfl
      have z1 := H2.out.cellv (i := 1) rfl
      have z2 := H2.out.cellv (i := 2) rfl
      have z3 := H2.out.cellv (i := 3) rfl
      have f0 := H2.out.frozen 0
      have f1 := H2.out.frozen 1
      have f2 := H2.out.frozen 2
      have f3 := H2.out.frozen 3
      have c0 : wr.cell? ⟨w.heap.size + 3, 0, none⟩ = some (.int .i64 s0) := H3.out.cellv (i := 0) rfl
      have c1 : wr.cell? ⟨w.heap.size + 3, 1, none⟩ = some (.int .i64 s1) := H3.out.cellv (i := 1) rfl
      have c2 : wr.cell? ⟨w.heap.size + 3, 2, none⟩ = some (.int .i64 s2) := H3.out.cellv (i := 2) rfl
      have c3 : wr.cell? ⟨w.heap.size + 3, 3, none⟩ = some (.int .i64 s3) := H3.out.cellv (i := 3) rfl
      go_wp2
      refine bodyPost_ret ?_ rfl ⟨rfl, ((((HB.out.setCell (by first | exact Nat.le_refl _ | (simp; done) | (simp; omega) | omega) _).setCell (by first | exact Nat.le_refl _ | (simp; done) | (simp; omega) | omega) _).setCell (by first | exact Nat.le_refl _ | (simp; done) | (simp; omega) | omega) _).setCell (by first | exact Nat.le_refl _ | (simp; done) | (simp; omega) | omega) _)⟩
      simp [results, Tryd.results182, go_sem, z0, z1, z2, z3]

theorem rowIs_ext {w w' : World} {T : TypeId} {b n : Nat} {F : Nat → Value} {X : List Nat} (h : w.rowIs b T n F) (he : Ext X w w') (hx : b ∉ X) : w'.rowIs b T n F := h.of_block (he.block b h.lt hx)
/-- the set of the curves at a point while it is filled -/
def setK (z0 z1 z2 z3 : Nat) : Nat → Nat → Bool
  | 0 => fun _ => false
  | 1 => fun s => s == z0 || false
  | 2 => fun s => s == z1 || (s == z0 || false)
  | 3 => fun s => s == z2 || (s == z1 || (s == z0 || false))
  | _ => fun s => s == z3 || (s == z2 || (s == z1 || (s == z0 || false)))
/-- what through makes: a set of its own -/
def ThroughOut (z0 z1 z2 z3 : Nat) (w : World) (e : Ending) (w' : World) : Prop :=
  ∃ mb, e = .returned (.map (some mb)) ∧ w.heap.size ≤ mb ∧ SetIs w' mb 4 (setK z0 z1 z2 z3 4) ∧ Below w.heap.size w w'
set_option maxRecDepth 100000 in
set_option maxHeartbeats 4000000 in
theorem impl_through (w : World) (W H x y : Int) (A Au : Option Addr) (n c N cu cv M z0 z1 z2 z3 : Nat) (g : Nat → Int) (hT : Cel w 1 [.int .i64 (-1), .int .i64 (-1), .int .i64 1, .int .i64 (-1), .int .i64 (-1), .int .i64 1, .int .i64 1, .int .i64 1]) (ho : w.rowIs cv 2 M (fun s => .int .i64 (g s))) (hH : sideB H = true) (x1 : 1 ≤ x) (x2 : x ≤ 16) (y1 : 1 ≤ y) (y2 : y ≤ 16)
    (hs : SegsIn H M x y) (hM : M ≤ 256) (h0 : me0 H g x y = (z0 : Int)) (h1 : me1 H g x y = (z1 : Int)) (h2 : me2 H g x y = (z2 : Int)) (h3 : me3 H g x y = (z3 : Int)) (b0 : z0 ≤ 256) (b1 : z1 ≤ 256) (b2 : z2 ≤ 256) (b3 : z3 ≤ 256) :
    Calls Tryd.prog 141 #[.agg #[.int .i64 W, .int .i64 H, .slice A n c, .slice Au N cu, .slice (some ⟨cv, 0, none⟩) M M], .agg #[.int .i64 x, .int .i64 y]] w (ThroughOut z0 z1 z2 z3 w) := by
  have HTD := Lib.hid hT
  have HO := Lib.hid ho
  have HSI := Lib.hid hs
  have hvl := ho.lt
  obtain ⟨⟨r0, r0'⟩, ⟨r1, r1'⟩, ⟨r2, r2'⟩, ⟨r3, r3'⟩⟩ := hs
  obtain ⟨s0, e0⟩ : ∃ s0 : Nat, segOf H x y (-1) (-1) = s0 := ⟨(segOf H x y (-1) (-1)).toNat, by omega⟩
  obtain ⟨s1, e1⟩ : ∃ s1 : Nat, segOf H x y 1 (-1) = s1 := ⟨(segOf H x y 1 (-1)).toNat, by omega⟩
  obtain ⟨s2, e2⟩ : ∃ s2 : Nat, segOf H x y (-1) 1 = s2 := ⟨(segOf H x y (-1) 1).toNat, by omega⟩
  obtain ⟨s3, e3⟩ : ∃ s3 : Nat, segOf H x y 1 1 = s3 := ⟨(segOf H x y 1 1).toNat, by omega⟩
  have g0 : g s0 = (z0 : Int) := by rw [← h0]; unfold me0; rw [e0]; rfl
  have g1 : g s1 = (z1 : Int) := by rw [← h1]; unfold me1; rw [e1]; rfl
  have g2 : g s2 = (z2 : Int) := by rw [← h2]; unfold me2; rw [e2]; rfl
  have g3 : g s3 = (z3 : Int) := by rw [← h3]; unfold me3; rw [e3]; rfl
  have hsq : sq4 H x y = .agg #[.int .i64 s0, .int .i64 s1, .int .i64 s2, .int .i64 s3] := by unfold sq4; rw [e0, e1, e2, e3]
  rw [e0] at r0'
  rw [e1] at r1'
  rw [e2] at r2'
  rw [e3] at r3'
  have HG0 := Lib.hid g0
  have HG1 := Lib.hid g1
  have HG2 := Lib.hid g2
  have HG3 := Lib.hid g3
  have HSQ := Lib.hid hsq
  have k0 : s0 < M := by omega
  have k1 : s1 < M := by omega
  have k2 : s2 < M := by omega
  have k3 : s3 < M := by omega
  clear hT ho h0 h1 h2 h3 e0 e1 e2 e3 g0 g1 g2 g3 r0 r1 r2 r3 r0' r1' r2' r3' hsq
  have hmm := @run_makeMap Tryd.prog
  go_enter Tryd.func141, Tryd.ntmps141
  go_wp2
  clear hmm
  have A1 := (Below.refl w.heap.size w).alloc (Nat.le_refl _) (.cells #[.int .i64 W, .int .i64 H, .slice A n c, .slice Au N cu, .slice (some ⟨cv, 0, none⟩) M M] 168)
  have A2 := A1.alloc A1.size (.cells #[.int .i64 x, .int .i64 y] 32)
  have A3 := A2.alloc A2.size (.map #[] 0)
  have HB := Lib.hid A3
  have HS0 := Lib.hid (((At.new w #[.int .i64 W, .int .i64 H, .slice A n c, .slice Au N cu, .slice (some ⟨cv, 0, none⟩) M M] 168).below ((Below.refl _ _).alloc (Nat.le_refl _) (.cells #[.int .i64 x, .int .i64 y] 32)) (by simp)).below ((Below.refl _ _).alloc (Nat.le_refl _) (.map #[] 0)) (by first | exact Nat.le_refl _ | (simp; done) | (simp; omega) | omega))
  have HS1 := Lib.hid ((show At ((w.alloc (.cells #[.int .i64 W, .int .i64 H, .slice A n c, .slice Au N cu, .slice (some ⟨cv, 0, none⟩) M M] 168)).alloc (.cells #[.int .i64 x, .int .i64 y] 32)) (w.heap.size + 1) #[.int .i64 x, .int .i64 y] 32 from At.newAt (by simp)).below ((Below.refl _ _).alloc (Nat.le_refl _) (.map #[] 0)) (by simp))
  have HM0 := Lib.hid (SetIs.new ((w.alloc (.cells #[.int .i64 W, .int .i64 H, .slice A n c, .slice Au N cu, .slice (some ⟨cv, 0, none⟩) M M] 168)).alloc (.cells #[.int .i64 x, .int .i64 y] 32)))
  have hmz : ((w.alloc (.cells #[.int .i64 W, .int .i64 H, .slice A n c, .slice Au N cu, .slice (some ⟨cv, 0, none⟩) M M] 168)).alloc (.cells #[.int .i64 x, .int .i64 y] 32)).heap.size = w.heap.size + 1 + 1 := by simp
  have hwz : (((w.alloc (.cells #[.int .i64 W, .int .i64 H, .slice A n c, .slice Au N cu, .slice (some ⟨cv, 0, none⟩) M M] 168)).alloc (.cells #[.int .i64 x, .int .i64 y] 32)).alloc (.map #[] 0)).heap.size = w.heap.size + 1 + 1 + 1 := by simp
  rw [hmz] at HM0
  clear A1 A2 A3 hmz
  generalize ((w.alloc (.cells #[.int .i64 W, .int .i64 H, .slice A n c, .slice Au N cu, .slice (some ⟨cv, 0, none⟩) M M] 168)).alloc (.cells #[.int .i64 x, .int .i64 y] 32)).alloc (.map #[] 0) = w4 at HB HS0 HS1 HM0 hwz ⊢
  have c0 : w4.cell? ⟨w.heap.size, 0, none⟩ = some (.int .i64 W) := HS0.out.cellv (i := 0) rfl
  have c1 : w4.cell? ⟨w.heap.size, 1, none⟩ = some (.int .i64 H) := HS0.out.cellv (i := 1) rfl
  have c2 : w4.cell? ⟨w.heap.size, 2, none⟩ = some (.slice A n c) := HS0.out.cellv (i := 2) rfl
  have d0 : w4.cell? ⟨w.heap.size + 1, 0, none⟩ = some (.int .i64 x) := HS1.out.cellv (i := 0) rfl
  have d1 : w4.cell? ⟨w.heap.size + 1, 1, none⟩ = some (.int .i64 y) := HS1.out.cellv (i := 1) rfl
  have l0 := HS0.out.lt
  have l1 := HS1.out.lt
  refine wp_region_stab [some 9, some 10, some 11, some 12, some 13, some 14] [9, 10, 11, 12, 13, 14] [] []
    [(fun a lo hi u w' => u = .pointer (some ⟨w.heap.size, 0, none⟩)), (fun a lo hi u w' => u = .agg #[.int .i64 W, .int .i64 H, .slice A n c]), (fun a lo hi u w' => u = .agg #[.int .i64 W, .int .i64 H]),
      (fun a lo hi u w' => u = .agg #[.int .i64 x, .int .i64 y]), (fun a lo hi u w' => u = sq4 H x y), (fun a lo hi u w' => u = .int .i64 0)]
    [[], [0], [1], [], [2, 3], []] [[], [], [], [], [], []] (by kernel_rfl) (by kernel_rfl) (fun k hk => absurd hk List.not_mem_nil) ?gS ?gO ?gR
  case gS => exact ⟨fun _ _ _ _ _ _ h _ => h, fun _ _ _ _ _ _ h _ => h, fun _ _ _ _ _ _ h _ => h, fun _ _ _ _ _ _ h _ => h, fun _ _ _ _ _ _ h _ => h, fun _ _ _ _ _ _ h _ => h, trivial⟩
  case gO =>
    refine ⟨?o0, ?o1, ?o2, ?o3, ?o4, ?o5, trivial⟩
    case o0 =>
      intro vs iv wk hx hf
      have ezz : w.heap.size < wk.heap.size := Nat.lt_of_lt_of_le l0 hx.size
      intro K' hK
      simp only [setA, setT, List.setIfInBounds_toArray, List.set_cons_zero, List.set_cons_succ]
      go_simp
      refine hK.out _ (.pointer (some ⟨w.heap.size, 0, none⟩)) _ ?_ ?_
      · simp only [setA, setT, List.setIfInBounds_toArray, List.set_cons_zero, List.set_cons_succ, Act.put]
      · exact ⟨Ext.refl _ _, rfl⟩
    case o1 =>
      intro vs iv wk hx hf
      obtain ⟨⟨hq, -⟩, -⟩ := hf
      have hq : vs 9 = .pointer (some ⟨w.heap.size, 0, none⟩) := hq
      have ezz : w.heap.size < wk.heap.size := Nat.lt_of_lt_of_le l0 hx.size
      have e0 : wk.cell? ⟨w.heap.size, 0, none⟩ = some (.int .i64 W) := hx.cell c0 (by simp)
      have e1 : wk.cell? ⟨w.heap.size, 1, none⟩ = some (.int .i64 H) := hx.cell c1 (by simp)
      have e2 : wk.cell? ⟨w.heap.size, 2, none⟩ = some (.slice A n c) := hx.cell c2 (by simp)
      intro K' hK
      simp only [setA, setT, List.setIfInBounds_toArray, List.set_cons_zero, List.set_cons_succ]
      go_simp
      refine hK.out _ (.agg #[.int .i64 W, .int .i64 H, .slice A n c]) _ ?_ ?_
      · simp only [setA, setT, List.setIfInBounds_toArray, List.set_cons_zero, List.set_cons_succ, Act.put, hq]
      · exact ⟨Ext.refl _ _, rfl⟩
    case o2 =>
      intro vs iv wk hx hf
      obtain ⟨⟨hq, -⟩, -⟩ := hf
      have hq : vs 10 = .agg #[.int .i64 W, .int .i64 H, .slice A n c] := hq
      intro K' hK
      simp only [setA, setT, List.setIfInBounds_toArray, List.set_cons_zero, List.set_cons_succ]
      go_simp
      refine (sizeOf_any _ W H A n c).mono ?_
      rintro e w2 ⟨rfl, b2⟩
      dsimp only
      refine hK.out _ (.agg #[.int .i64 W, .int .i64 H]) _ ?_ ?_
      · simp only [setA, setT, List.setIfInBounds_toArray, List.set_cons_zero, List.set_cons_succ, Act.put, hq]
      · exact ⟨Ext.of_below b2, rfl⟩
    case o3 =>
      intro vs iv wk hx hf
      have ezz : w.heap.size + 1 < wk.heap.size := Nat.lt_of_lt_of_le l1 hx.size
      have e0 : wk.cell? ⟨w.heap.size + 1, 0, none⟩ = some (.int .i64 x) := hx.cell d0 (by simp)
      have e1 : wk.cell? ⟨w.heap.size + 1, 1, none⟩ = some (.int .i64 y) := hx.cell d1 (by simp)
      intro K' hK
      simp only [setA, setT, List.setIfInBounds_toArray, List.set_cons_zero, List.set_cons_succ]
      go_simp
      refine hK.out _ (.agg #[.int .i64 x, .int .i64 y]) _ ?_ ?_
      · simp only [setA, setT, List.setIfInBounds_toArray, List.set_cons_zero, List.set_cons_succ, Act.put]
      · exact ⟨Ext.refl _ _, rfl⟩
    case o4 =>
      intro vs iv wk hx hf
      obtain ⟨⟨hq1, -⟩, ⟨hq3, -⟩, -⟩ := hf
      have hq1 : vs 11 = .agg #[.int .i64 W, .int .i64 H] := hq1
      have hq3 : vs 12 = .agg #[.int .i64 x, .int .i64 y] := hq3
      have hTk : Cel wk 1 [.int .i64 (-1), .int .i64 (-1), .int .i64 1, .int .i64 (-1), .int .i64 (-1), .int .i64 1, .int .i64 1, .int .i64 1] := HTD.out.below (HB.out.trans ((((Ext.drew _).trans hx).nil).mono HB.out.size)) HTD.out.1
      intro K' hK
      simp only [setA, setT, List.setIfInBounds_toArray, List.set_cons_zero, List.set_cons_succ]
      go_simp
      refine (impl_segmentsAt _ W H x y M hTk hH x1 x2 y1 y2 HSI.out hM).mono ?_
      rintro e w2 ⟨rfl, b2⟩
      dsimp only
      refine hK.out _ (sq4 H x y) _ ?_ ?_
      · simp only [setA, setT, List.setIfInBounds_toArray, List.set_cons_zero, List.set_cons_succ, Act.put, hq1, hq3]
      · exact ⟨Ext.of_below b2, rfl⟩
    case o5 =>
      intro vs iv wk hx hf
      intro K' hK
      simp only [setA, setT, List.setIfInBounds_toArray, List.set_cons_zero, List.set_cons_succ]
      go_simp
      refine hK.out _ (.int .i64 0) _ ?_ ?_
      · simp only [setA, setT, List.setIfInBounds_toArray, List.set_cons_zero, List.set_cons_succ, Act.put]
      · exact ⟨Ext.refl _ _, rfl⟩
  case gR =>
    intro vs iv w5 hx hap hf
    obtain ⟨-, -, -, -, ⟨hv4, -⟩, ⟨hv5, -⟩, -⟩ := hf
    have hv4 : vs 13 = sq4 H x y := hv4
    have hv5 : vs 14 = .int .i64 0 := hv5
    rw [HSQ.out] at hv4
    have hx5 := ((Ext.drew (X := []) w4).trans hx).nil
    have HB5 := Lib.hid (HB.out.trans (hx5.mono HB.out.size))
    have HS5 := Lib.hid (HS0.out.below hx5 l0)
    have HM5 := Lib.hid (HM0.out.below hx5 (by omega))
    have HO5 := Lib.hid (rowIs_below HO.out HB5.out hvl)
    have hwz5 := hx5.size
    simp only [setA, setT, List.setIfInBounds_toArray, List.set_cons_zero, List.set_cons_succ, hv4, hv5]
    generalize vs 9 = u9
    generalize vs 10 = u10
    generalize vs 11 = u11
    generalize vs 12 = u12
    clear hx hap hv4 hv5 hx5 c0 c1 c2 d0 d1 HB HS0 HS1 HM0
    go_wp2
    go_loopw [14] (fun kv wr => ∃ k : Nat, k ≤ 4 ∧ kv = .int .i64 k ∧ Hid (SetIs wr (w.heap.size + 1 + 1) k (setK z0 z1 z2 z3 k)) ∧ Hid (Ext [w.heap.size + 1 + 1] w5 wr)) (fun kv _ => 9 - (intOf kv).toNat)
    case atStart => exact ⟨0, by omega, rfl, HM5, Lib.hid (Ext.refl _ _)⟩
    case round =>
      obtain ⟨k, hk, rfl, HS, HE⟩ := hrel
      have HX := Lib.hid (HS5.out.ext HE.out (by simp; omega))
      have HC := Lib.hid (rowIs_ext HO5.out HE.out (by simp; omega))
      have x4 : wr.cell? ⟨w.heap.size, 4, none⟩ = some (.slice (some ⟨cv, 0, none⟩) M M) := HX.out.cellv (i := 4) rfl
      have lx := HX.out.lt
      have lc := HC.out.lt
      rcases (show k = 0 ∨ k = 1 ∨ k = 2 ∨ k = 3 ∨ k = 4 by omega) with rfl | rfl | rfl | rfl | rfl
      · have hai := arr_at0
        have cc := HC.out.cell k0
        rw [HG0.out] at cc
        go_wp2_with fail
        refine (set_add wr (w.heap.size + 1 + 1) 0 _ HS.out z0 (WalkArith.wf_i64 (by omega)) (by unfold maxLen; omega)).mono ?_
        rintro e w6 ⟨⟨v', rfl⟩, hS2, hg2⟩
        have HS2 := Lib.hid hS2
        have HE2 := Lib.hid (HE.out.trans (ext_grown hg2 (by simp)))
        clear hS2 hg2 cc x4 hai
        go_wp2
        go_roundw
        case rel => exact ⟨1, by omega, by go_num, HS2, HE2⟩
        case measure => simp [intOf]
      · have hai := arr_at1
        have cc := HC.out.cell k1
        rw [HG1.out] at cc
        go_wp2_with fail
        refine (set_add wr (w.heap.size + 1 + 1) 1 _ HS.out z1 (WalkArith.wf_i64 (by omega)) (by unfold maxLen; omega)).mono ?_
        rintro e w6 ⟨⟨v', rfl⟩, hS2, hg2⟩
        have HS2 := Lib.hid hS2
        have HE2 := Lib.hid (HE.out.trans (ext_grown hg2 (by simp)))
        clear hS2 hg2 cc x4 hai
        go_wp2
        go_roundw
        case rel => exact ⟨2, by omega, by go_num, HS2, HE2⟩
        case measure => simp [intOf]
      · have hai := arr_at2
        have cc := HC.out.cell k2
        rw [HG2.out] at cc
        go_wp2_with fail
        refine (set_add wr (w.heap.size + 1 + 1) 2 _ HS.out z2 (WalkArith.wf_i64 (by omega)) (by unfold maxLen; omega)).mono ?_
        rintro e w6 ⟨⟨v', rfl⟩, hS2, hg2⟩
        have HS2 := Lib.hid hS2
        have HE2 := Lib.hid (HE.out.trans (ext_grown hg2 (by simp)))
        clear hS2 hg2 cc x4 hai
        go_wp2
        go_roundw
        case rel => exact ⟨3, by omega, by go_num, HS2, HE2⟩
        case measure => simp [intOf]
      · have hai := arr_at3
        have cc := HC.out.cell k3
        rw [HG3.out] at cc
        go_wp2_with fail
        refine (set_add wr (w.heap.size + 1 + 1) 3 _ HS.out z3 (WalkArith.wf_i64 (by omega)) (by unfold maxLen; omega)).mono ?_
        rintro e w6 ⟨⟨v', rfl⟩, hS2, hg2⟩
        have HS2 := Lib.hid hS2
        have HE2 := Lib.hid (HE.out.trans (ext_grown hg2 (by simp)))
        clear hS2 hg2 cc x4 hai
        go_wp2
        go_roundw
        case rel => exact ⟨4, by omega, by go_num, HS2, HE2⟩
        case measure => simp [intOf]
      · go_wp2
        go_ret
        exact ⟨_, rfl, by omega, HS.out, HB5.out.trans (HE.out.below (fun b hb => by simp at hb; omega) (by omega))⟩
end Go.Proofs.YtjgclemfehfgiaaDoor.Base

namespace Go.Proofs.YtjgclemfehfgiaaDoor.Base
open Go Go.RowKit
set_option linter.unusedVariables false
set_option linter.unusedSimpArgs false
attribute [local go_sem] Oper.semAt_some

/-- the numbers of the inner points without a break among the first k -/
def zl (f : Nat → Int) : Nat → List Nat
  | 0 => []
  | k + 1 => if f k = 0 then zl f k ++ [k] else zl f k
theorem zl_yes {f : Nat → Int} {k : Nat} (h : f k = 0) : zl f (k + 1) = zl f k ++ [k] := if_pos h
theorem zl_no {f : Nat → Int} {k : Nat} (h : f k ≠ 0) : zl f (k + 1) = zl f k := if_neg h
theorem zl_len (f : Nat → Int) : ∀ k, (zl f k).length ≤ k
  | 0 => Nat.le_refl _
  | k + 1 => by
    have := zl_len f k
    by_cases h : f k = 0
    · rw [zl_yes h, List.length_append]; show _ + 1 ≤ _; omega
    · rw [zl_no h]; omega
theorem zl_at {f : Nat → Int} {k : Nat} (h : f k = 0) : ∀ n, k < n → (zl f n)[(zl f k).length]? = some k ∧ (zl f k).length < (zl f n).length
  | 0, hn => absurd hn (by omega)
  | n + 1, hn => by
    rcases Nat.lt_or_ge k n with h' | h'
    · obtain ⟨i1, i2⟩ := zl_at h n h'
      by_cases h2 : f n = 0
      · rw [zl_yes h2, List.getElem?_append_left i2, List.length_append]
        exact ⟨i1, by omega⟩
      · rw [zl_no h2]; exact ⟨i1, i2⟩
    · have e : n = k := by omega
      subst e
      rw [zl_yes h, List.getElem?_append_right (Nat.le_refl _), Nat.sub_self, List.length_append]
      exact ⟨rfl, by show _ < _ + 1; omega⟩
/-- the j-th of these points -/
def zpt (W : Int) (f : Nat → Int) (n j : Nat) : Int × Int := (ptX W (((zl f n).getD j 0 : Nat) : Int), ptY W (((zl f n).getD j 0 : Nat) : Int))
def paggP (v : Int × Int) : Value := .agg #[.int .i64 v.1, .int .i64 v.2]
theorem zpt_at {W : Int} {f : Nat → Int} {n k : Nat} (h : f k = 0) (hk : k < n) : zpt W f n (zl f k).length = (ptX W (k : Int), ptY W (k : Int)) := by
  have e : (zl f n).getD (zl f k).length 0 = k := by rw [List.getD_eq_getElem?_getD, (zl_at h n hk).1]; rfl
  unfold zpt
  rw [e]
/-- of the first j of these points, at how many the curves a and b cross -/
def crJ (W H : Int) (f g : Nat → Int) (a b : Int) (l : List Nat) : Nat → Nat
  | 0 => 0
  | j + 1 => crJ W H f g a b l j + (if crT W H f g a b (l.getD j 0) then 1 else 0)
theorem crJ_app {W H : Int} {f g : Nat → Int} {a b : Int} {l : List Nat} {x : Nat} : ∀ j, j ≤ l.length → crJ W H f g a b (l ++ [x]) j = crJ W H f g a b l j
  | 0, _ => rfl
  | j + 1, h => by
    show crJ W H f g a b (l ++ [x]) j + _ = crJ W H f g a b l j + _
    rw [crJ_app j (by omega)]
    have e : (l ++ [x]).getD j 0 = l.getD j 0 := by rw [List.getD_eq_getElem?_getD, List.getD_eq_getElem?_getD, List.getElem?_append_left (by omega)]
    rw [e]
theorem crJ_all (W H : Int) (f g : Nat → Int) (a b : Int) : ∀ n, crJ W H f g a b (zl f n) (zl f n).length = crF W H f g a b n
  | 0 => rfl
  | n + 1 => by
    have ih := crJ_all W H f g a b n
    by_cases h : f n = 0
    · rw [zl_yes h, List.length_append]
      show crJ W H f g a b (zl f n ++ [n]) (zl f n).length + (if crT W H f g a b ((zl f n ++ [n]).getD (zl f n).length 0) then 1 else 0) = crF W H f g a b n + (if crT W H f g a b n then 1 else 0)
      have e : (zl f n ++ [n]).getD (zl f n).length 0 = n := by rw [List.getD_eq_getElem?_getD, List.getElem?_append_right (Nat.le_refl _), Nat.sub_self]; rfl
      rw [e, crJ_app _ (Nat.le_refl _), ih]
    · rw [zl_no h, crF_skip h, ih]
theorem crJ_le (W H : Int) (f g : Nat → Int) (a b : Int) (l : List Nat) : ∀ j, crJ W H f g a b l j ≤ j
  | 0 => Nat.le_refl _
  | j + 1 => by have := crJ_le W H f g a b l j; show _ + _ ≤ _; split <;> omega
/-- what there is to know of the j-th of these points -/
theorem zl_mem {f : Nat → Int} : ∀ {n j : Nat}, j < (zl f n).length → (zl f n).getD j 0 < n ∧ f ((zl f n).getD j 0) = 0
  | 0, j, h => absurd h (by show ¬ j < 0; omega)
  | n + 1, j, h => by
    by_cases h2 : f n = 0
    · rw [zl_yes h2, List.length_append] at h
      rw [zl_yes h2]
      rcases Nat.lt_or_ge j (zl f n).length with h' | h'
      · have e : (zl f n ++ [n]).getD j 0 = (zl f n).getD j 0 := by rw [List.getD_eq_getElem?_getD, List.getD_eq_getElem?_getD, List.getElem?_append_left h']
        rw [e]
        have := zl_mem h'
        exact ⟨by omega, this.2⟩
      · have ej : j = (zl f n).length := by have : j < (zl f n).length + 1 := h; omega
        have e : (zl f n ++ [n]).getD j 0 = n := by rw [ej, List.getD_eq_getElem?_getD, List.getElem?_append_right (Nat.le_refl _), Nat.sub_self]; rfl
        rw [e]
        exact ⟨by omega, h2⟩
    · rw [zl_no h2] at h ⊢
      have := zl_mem h
      exact ⟨by omega, this.2⟩

end Go.Proofs.YtjgclemfehfgiaaDoor.Base

namespace Go.Proofs.YtjgclemfehfgiaaDoor.Base
open Go Go.RowKit
set_option linter.unusedVariables false
set_option linter.unusedSimpArgs false
attribute [local go_sem] Oper.semAt_some

/-- the two curves at an inner point without a break -/
theorem pt_curves {W H : Int} {n : Nat} {f : Nat → Int} {k : Nat} (hv : validB W H n f = true) (hk : k < n) (hf : f k = 0) :
    ∃ z0 z1 : Nat, me0 H (trE W H f).of (ptX W k) (ptY W k) = z0 ∧ me1 H (trE W H f).of (ptX W k) (ptY W k) = z1 ∧ me2 H (trE W H f).of (ptX W k) (ptY W k) = z1 ∧ me3 H (trE W H f).of (ptX W k) (ptY W k) = z0 ∧ z0 < cnN W H f ∧ z1 < cnN W H f := by
  obtain ⟨hW, hH, hn, -⟩ := validB_yes hv
  obtain ⟨m0, m1⟩ := segs_bd hW hH
  obtain ⟨p1, p2, p3, p4, p5⟩ := pt_in hW hH (k := (k : Int)) (by omega) (by omega)
  have hc : Closed W H n f (trE W H f).of := trs_closed hv (4 * W * H).toNat (by omega)
  obtain ⟨⟨r0, r0'⟩, ⟨r1, r1'⟩, -, -⟩ := segs_in hv p1 p2 p3 p4 p5
  have hp : hasB W H (ptX W k) (ptY W k) = true := has_mk (by omega) (by omega) (by omega) (by omega) p5
  have ht : tkOf W H f (ptX W k) (ptY W k) = 0 := by
    unfold tkOf
    rw [if_neg (by omega), if_neg (by omega), (pt_is hW hH (k := (k : Int)) (by omega) (by omega)).2.2]
    exact hf
  have q1 := meet hc (wk_mk hv (ex := -1) (ey := -1) rfl rfl hp (has_mk (by omega) (by omega) (by omega) (by omega) (by omega)))
  have q2 := meet hc (wk_mk hv (ex := 1) (ey := -1) rfl rfl hp (has_mk (by omega) (by omega) (by omega) (by omega) (by omega)))
  rw [ht] at q1 q2
  simp only [show ¬ ((0 : Int) = 1) by decide, show ¬ ((0 : Int) = 2) by decide, if_false, Int.neg_neg] at q1 q2
  have d0 := trs_done hv (4 * W * H).toNat (segOf H (ptX W k) (ptY W k) (-1) (-1)).toNat (by omega) (by omega)
  have d1 := trs_done hv (4 * W * H).toNat (segOf H (ptX W k) (ptY W k) 1 (-1)).toNat (by omega) (by omega)
  have f0 := (trs_of_ge W H f (4 * W * H).toNat (segOf H (ptX W k) (ptY W k) (-1) (-1)).toNat).2.1
  have f1 := (trs_of_ge W H f (4 * W * H).toNat (segOf H (ptX W k) (ptY W k) 1 (-1)).toNat).2.1
  have e0 : 0 ≤ me0 H (trE W H f).of (ptX W k) (ptY W k) ∧ me0 H (trE W H f).of (ptX W k) (ptY W k) < cnN W H f := ⟨d0, f0⟩
  have e1 : 0 ≤ me1 H (trE W H f).of (ptX W k) (ptY W k) ∧ me1 H (trE W H f).of (ptX W k) (ptY W k) < cnN W H f := ⟨d1, f1⟩
  have q1 : me0 H (trE W H f).of (ptX W k) (ptY W k) = me3 H (trE W H f).of (ptX W k) (ptY W k) := q1
  have q2 : me1 H (trE W H f).of (ptX W k) (ptY W k) = me2 H (trE W H f).of (ptX W k) (ptY W k) := q2
  exact ⟨(me0 H (trE W H f).of (ptX W k) (ptY W k)).toNat, (me1 H (trE W H f).of (ptX W k) (ptY W k)).toNat, by omega, by omega, by omega, by omega, by omega, by omega⟩
/-- a step of the count at such a point -/
theorem crJ_step {W H : Int} {n : Nat} {f g : Nat → Int} {a b : Int} {j z0 z1 : Nat} (hj : j < (zl f n).length) (h0 : me0 H g (zpt W f n j).1 (zpt W f n j).2 = z0) (h1 : me1 H g (zpt W f n j).1 (zpt W f n j).2 = z1) :
    crJ W H f g a b (zl f n) (j + 1) = crJ W H f g a b (zl f n) j + (if crB z0 z1 a b then 1 else 0) := by
  obtain ⟨k1, k2⟩ := zl_mem hj
  show crJ W H f g a b (zl f n) j + (if crT W H f g a b ((zl f n).getD j 0) then 1 else 0) = _
  have hcr : crT W H f g a b ((zl f n).getD j 0) ↔ crB z0 z1 a b = true := by
    unfold crT crB
    unfold me0 zpt at h0
    unfold me1 zpt at h1
    simp only at h0 h1
    rw [h0, h1]
    simp only [k2, true_and, Bool.or_eq_true, Bool.and_eq_true, beq_iff_eq]
  simp only [hcr]

theorem crB_set {z0 z1 i j : Nat} (h : (i : Int) ≠ (j : Int)) : crB z0 z1 i j = (setK z0 z1 z1 z0 4 i && setK z0 z1 z1 z0 4 j) := by
  rw [Bool.eq_iff_iff]
  simp only [crB, setK, Bool.or_eq_true, Bool.and_eq_true, beq_iff_eq, Bool.false_eq_true, or_false]
  omega
section
variable (w : World) (W H : Int) (A : Option Addr) (n c : Nat) (f : Nat → Int) (s t : Int)
end
end Go.Proofs.YtjgclemfehfgiaaDoor.Base

namespace Go.Proofs.YtjgclemfehfgiaaDoor.Base
open Go Go.RowKit
set_option linter.unusedVariables false
set_option linter.unusedSimpArgs false
attribute [local go_sem] Oper.semAt_some
section
variable (w : World) (W H : Int) (A : Option Addr) (n c : Nat) (f : Nat → Int) (s : Int)
end
end Go.Proofs.YtjgclemfehfgiaaDoor.Base
namespace Go.Proofs.YtjgclemfehfgiaaDoor.Base
open Go Go.RowKit
set_option linter.unusedVariables false
/-- block b is a map of at most n entries that has the numbers of S -/
def SetZ (w : World) (b n : Nat) (S : Int → Bool) : Prop :=
  ∃ D : DataW Nat, w.ownsMap Tryd.prog 2 (plainElem Tryd.prog 4) b n D ∧ ∀ s : Int, (Lit.int .i64 s).wf = true → D.atKey (.int .i64 s) (.lit (.bool false)) = .lit (.bool (S s))
section
variable {w w' : World} {b n : Nat} {S : Int → Bool}
theorem SetZ.lt (h : SetZ w b n S) : b < w.heap.size := by
  obtain ⟨D, ⟨es, cl, hb, _⟩, _⟩ := h
  exact (Array.getElem?_eq_some_iff.1 hb).1
theorem SetZ.of_block (h : SetZ w b n S) (e : w'.heap[b]? = w.heap[b]?) : SetZ w' b n S := by
  obtain ⟨D, ⟨es, cl, hb, h1, h2, h3⟩, h4⟩ := h
  exact ⟨D, ⟨es, cl, e.trans hb, h1, h2, h3⟩, h4⟩
theorem SetZ.below {B : Nat} (h : SetZ w b n S) (hb : Below B w w') (hB : b < B) : SetZ w' b n S := h.of_block (hb.block b hB)
theorem SetZ.ext {X : List Nat} (h : SetZ w b n S) (he : Ext X w w') (hx : b ∉ X) : SetZ w' b n S := h.of_block (he.block b h.lt hx)
theorem SetZ.grown {r : Option Nat} (h : SetZ w b n S) (hg : w.grownBy w' r) (hne : some b ≠ r) : SetZ w' b n S := h.of_block (hg.block b h.lt hne)
theorem SetZ.congr {S' : Int → Bool} (h : SetZ w b n S) (e : ∀ s, S s = S' s) : SetZ w b n S' := by
  obtain ⟨D, h1, h2⟩ := h
  exact ⟨D, h1, fun s hs => by rw [← e]; exact h2 s hs⟩
theorem SetZ.new (w : World) : SetZ (w.alloc (.map #[] 0)) w.heap.size 0 (fun _ => false) :=
  ⟨.map [], World.ownsMap_made w Tryd.prog 2 (plainElem Tryd.prog 4), fun s _ => rfl⟩
theorem SetZ.look (h : SetZ w b n S) (z : Int) (hz : (Lit.int .i64 z).wf = true) :
    (Instr.lookup 172 (.map (some b)) (.int .i64 z) false).run Tryd.prog w = .ok (.bool (S z)) w := by
  obtain ⟨D, h1, h2⟩ := h
  obtain ⟨v, ps, hrun, hv⟩ := h1.lookup (t := 172) (Maps.int_keyed Tryd.underlying2) Tryd.underlying172 (Tryd.zeroValue4 w) (plainElem_bool Tryd.underlying4 false) (Maps.keyOf_int_mk Tryd.underlying2 hz)
  rw [h2 z hz] at hv
  rw [hrun, bool_inv Tryd.underlying4 hv]
theorem SetZ.put (h : SetZ w b n S) (z : Int) (hz : (Lit.int .i64 z).wf = true) (hn : n < maxLen) :
    ∃ w', (Instr.mapUpdate 172 (.map (some b)) (.int .i64 z) (.bool true)).run Tryd.prog w = .ok () w' ∧ SetZ w' b (n + 1) (fun s => s == z || S s) ∧ w.grownBy w' (some b) := by
  obtain ⟨D, h1, h2⟩ := h
  obtain ⟨w', hrun, r1, r2⟩ := h1.update (t := 172) (Maps.int_keyed Tryd.underlying2) Tryd.underlying172 hn (Maps.keyOf_int_mk Tryd.underlying2 hz) (plainElem_bool Tryd.underlying4 true)
  refine ⟨w', hrun, ⟨_, r1, fun s hs => ?_⟩, r2⟩
  by_cases e : s = z
  · subst e
    rw [Maps.atKey_put_same h1.isMap (by trivial)]
    simp
  · have hne : Lit.int .i64 s ≠ Lit.int .i64 z := fun e' => e (Lit.int.inj e').2
    rw [Maps.atKey_put_other hne, h2 s hs]
    simp [e]
end
theorem set_hasZ (w : World) (b n : Nat) (S : Int → Bool) (h : SetZ w b n S) (z : Int) (hz : (Lit.int .i64 z).wf = true) :
    Calls Tryd.prog 143 #[.map (some b), .int .i64 z] w fun e w' => e = .returned (.bool (S z)) ∧ w = w' := by
  have hl := h.look z hz
  go_enter Tryd.func143, Tryd.ntmps143
  go_wp2
  go_ret
  exact ⟨rfl, rfl⟩
/-- what add leaves -/
def AddedZ (b n : Nat) (S : Int → Bool) (z : Int) (w : World) (e : Ending) (w' : World) : Prop := (∃ v, e = .returned v) ∧ SetZ w' b (n + 1) (fun s => s == z || S s) ∧ w.grownBy w' (some b)
theorem set_addZ (w : World) (b n : Nat) (S : Int → Bool) (h : SetZ w b n S) (z : Int) (hz : (Lit.int .i64 z).wf = true) (hn : n < maxLen) :
    Calls Tryd.prog 180 #[.map (some b), .int .i64 z] w (AddedZ b n S z w) := by
  obtain ⟨w1, hl, h1, h2⟩ := h.put z hz hn
  have H1 := Lib.hid h1
  have H2 := Lib.hid h2
  clear h1 h2
  go_enter Tryd.func180, Tryd.ntmps180
  go_wp2
  go_end0
  exact ⟨⟨_, rfl⟩, H1.out, H2.out⟩
end Go.Proofs.YtjgclemfehfgiaaDoor.Base
namespace Go.Proofs.YtjgclemfehfgiaaDoor.Base
open Go Go.RowKit
set_option linter.unusedVariables false
set_option linter.unusedSimpArgs false

/-- x is one of the first k of the log -/
def lgB (g : Nat → Int) (k : Nat) (x : Int) : Bool := (List.range k).any fun i => g i == x
theorem lg_zero (g : Nat → Int) (x : Int) : lgB g 0 x = false := rfl
theorem lg_succ (g : Nat → Int) (k : Nat) (x : Int) : lgB g (k + 1) x = (lgB g k x || g k == x) := by simp [lgB, List.range_succ, List.any_append]
theorem lg_iff {g : Nat → Int} {k : Nat} {x : Int} : lgB g k x = true ↔ ∃ i, i < k ∧ g i = x := by simp [lgB]
theorem lg_mono {g : Nat → Int} {k k' : Nat} {x : Int} (h : lgB g k x = true) (hk : k ≤ k') : lgB g k' x = true := by
  obtain ⟨i, h1, h2⟩ := lg_iff.1 h
  exact lg_iff.2 ⟨i, by omega, h2⟩
structure VJ (n : Nat) (f : Nat → Int) (m : Nat) (g : Nat → Int) : Prop where
  n1 : 1 ≤ n
  n2 : n ≤ 256
  logs : ∀ i, i < m → 0 ≤ g i ∧ g i < n ∧ lgB g i (g i) = false
  pars : ∀ k, k < n → 0 ≤ f k ∧ f k < n ∧ (f k == (k : Int)) ≠ lgB g m k
  ords : ∀ i, i < m → lgB g i (f (g i).toNat) = false
noncomputable def vjB (n : Nat) (f : Nat → Int) (m : Nat) (g : Nat → Int) : Bool := open Classical in decide (VJ n f m g)
theorem vj_yes {n : Nat} {f : Nat → Int} {m : Nat} {g : Nat → Int} (h : vjB n f m g = true) : VJ n f m g := by classical exact of_decide_eq_true h
theorem vj_mk {n : Nat} {f : Nat → Int} {m : Nat} {g : Nat → Int} (h : VJ n f m g) : vjB n f m g = true := by classical exact decide_eq_true h
theorem vj_no {n : Nat} {f : Nat → Int} {m : Nat} {g : Nat → Int} (h : ¬ VJ n f m g) : vjB n f m g = false := by classical exact decide_eq_false h
/-- in valid joined elements there are no more logged ones than elements -/
theorem VJ.le {n : Nat} {f : Nat → Int} {m : Nat} {g : Nat → Int} (h : VJ n f m g) : m ≤ n := by
  refine Classical.byContradiction fun hc => ?_
  have hnd : ((List.range m).map fun i => (g i).toNat).Nodup := by
    rw [List.nodup_iff_pairwise_ne, List.pairwise_map]
    refine (List.pairwise_lt_range (n := m)).imp_of_mem ?_
    intro a b ha hb hab e
    have hb' := List.mem_range.1 hb
    obtain ⟨h1, h2, h3⟩ := h.logs b hb'
    obtain ⟨h4, h5, h6⟩ := h.logs a (by omega)
    have : lgB g b (g b) = true := lg_iff.2 ⟨a, hab, by omega⟩
    rw [h3] at this
    cases this
  have : ∀ (M : Nat) (l : List Nat), l.Nodup → (∀ x ∈ l, x < M) → l.length ≤ M := by
    intro M
    induction M with
    | zero => intro l _ h; cases l with
      | nil => exact Nat.le_refl _
      | cons a r => exact absurd (h a (List.mem_cons_self ..)) (by omega)
    | succ M ih =>
      intro l hn h
      have h1 := ih (l.erase M) (hn.erase _) (fun x hx => by
        have hm := (hn.mem_erase_iff.1 hx)
        have := h x hm.2
        omega)
      have h2 := List.length_erase (a := M) (l := l)
      split at h2 <;> omega
  have := this n _ hnd (fun x hx => by
    obtain ⟨i, hi, rfl⟩ := List.mem_map.1 hx
    obtain ⟨h1, h2, -⟩ := h.logs i (List.mem_range.1 hi)
    omega)
  simp at this
  omega

theorem infoBool : (Tryd.prog.info? 4).map (fun i => (i.zero, i.size, i.bytes)) = some (some (.bool false), 1, 1) := by kernel_rfl
theorem set_hasZ_is {w : World} {b n : Nat} {S : Int → Bool} (h : SetZ w b n S) {z : Int} (hz : (Lit.int .i64 z).wf = true) {v : Bool} (hv : S z = v) :
    Calls Tryd.prog 143 #[.map (some b), .int .i64 z] w fun e w' => e = .returned (.bool v) ∧ w = w' := by rw [← hv]; exact set_hasZ w b n S h z hz
end Go.Proofs.YtjgclemfehfgiaaDoor.Base
namespace Go.Proofs.YtjgclemfehfgiaaDoor.Base
open Go Go.RowKit
set_option linter.unusedVariables false
set_option linter.unusedSimpArgs false
noncomputable def cgN (n : Nat) (f : Nat → Int) (m : Nat) (g : Nat → Int) : Int := if vjB n f m g then (n : Int) - m else 0
noncomputable def cgC (n : Nat) (f : Nat → Int) (m : Nat) (g : Nat → Int) : Int := if vjB n f m g then 0 else 1
theorem cg_no {n : Nat} {f : Nat → Int} {m : Nat} {g : Nat → Int} (h : vjB n f m g = false) : cgN n f m g = 0 ∧ cgC n f m g = 1 := by simp [cgN, cgC, h]
theorem cg_yes {n : Nat} {f : Nat → Int} {m : Nat} {g : Nat → Int} (h : vjB n f m g = true) : cgN n f m g = n - m ∧ cgC n f m g = 0 := by simp [cgN, cgC, h]
end Go.Proofs.YtjgclemfehfgiaaDoor.Base
namespace Go.Proofs.YtjgclemfehfgiaaDoor.Base
open Go Go.RowKit
set_option linter.unusedVariables false
set_option linter.unusedSimpArgs false

/-- j parents up from k -/
def upN (f : Nat → Int) : Nat → Nat → Nat
  | 0, k => k
  | j + 1, k => (f (upN f j k)).toNat
section
variable {n m : Nat} {f g : Nat → Int}
theorem up_add (k : Nat) : ∀ i j, upN f (i + j) k = upN f j (upN f i k)
  | i, 0 => rfl
  | i, j + 1 => by
    show (f (upN f (i + j) k)).toNat = (f (upN f j (upN f i k))).toNat
    rw [up_add k i j]
theorem up_lt (h : VJ n f m g) {k : Nat} (hk : k < n) : ∀ j, upN f j k < n
  | 0 => hk
  | j + 1 => by
    have := h.pars _ (up_lt h hk j)
    show (f (upN f j k)).toNat < n
    omega
theorem up_root {k : Nat} (h : f k = k) : ∀ j, upN f j k = k
  | 0 => rfl
  | j + 1 => by show (f (upN f j k)).toNat = k; rw [up_root h j, h]; simp
/-- from each element one comes to one that stands for a group -/
theorem up_ends (h : VJ n f m g) : ∀ (d k : Nat), k < n → (∀ i, i < m → g i = k → m - i ≤ d) → ∃ j, j ≤ d ∧ f (upN f j k) = (upN f j k : Nat)
  | 0, k, hk, hd => by
    refine ⟨0, Nat.le_refl _, ?_⟩
    show f k = k
    refine Classical.byContradiction fun hne => ?_
    have h1 := (h.pars k hk).2.2
    have h2 : (f k == (k : Int)) = false := beq_eq_false_iff_ne.2 hne
    rw [h2] at h1
    have h3 : lgB g m k = true := by cases e : lgB g m k <;> simp_all
    obtain ⟨i, hi, e⟩ := lg_iff.1 h3
    have := hd i hi e
    omega
  | d + 1, k, hk, hd => by
    by_cases hr : f k = k
    · exact ⟨0, Nat.zero_le _, hr⟩
    · have h1 := (h.pars k hk).2.2
      have h2 : (f k == (k : Int)) = false := beq_eq_false_iff_ne.2 hr
      rw [h2] at h1
      have h3 : lgB g m k = true := by cases e : lgB g m k <;> simp_all
      obtain ⟨i, hi, e⟩ := lg_iff.1 h3
      have hdi := hd i hi e
      have ho := h.ords i hi
      obtain ⟨p1, p2, -⟩ := h.pars k hk
      rw [e, Int.toNat_natCast] at ho
      obtain ⟨j, hj, hrj⟩ := up_ends h d (f k).toNat (by omega) (fun i' hi' e' => by
        have e2 : g i' = f k := by omega
        by_cases hlt : i' < i
        · have : lgB g i (f k) = true := lg_iff.2 ⟨i', hlt, e2⟩
          rw [ho] at this
          cases this
        · by_cases heq : i' = i
          · subst heq; omega
          · omega)
      refine ⟨j + 1, by omega, ?_⟩
      have hs : upN f (j + 1) k = upN f j (f k).toNat := by rw [Nat.add_comm j 1, up_add]; rfl
      rw [hs]
      exact hrj
theorem up_stays (h : VJ n f m g) {k : Nat} (hk : k < n) : f (upN f m k) = (upN f m k : Nat) := by
  obtain ⟨j, hj, hr⟩ := up_ends h m k hk (fun i hi _ => by omega)
  have e : upN f m k = upN f j k := by
    rw [show m = j + (m - j) by omega, up_add, up_root hr]
  rw [e]
  exact hr
theorem up_same {k j : Nat} (hr : f (upN f j k) = (upN f j k : Nat)) (hj : j ≤ m) : upN f m k = upN f j k := by
  rw [show m = j + (m - j) by omega, up_add, up_root hr]
/-- how many of the first j on the way up do not stand for a group -/
def nrN (f : Nat → Int) (x : Nat) : Nat → Nat
  | 0 => 0
  | j + 1 => nrN f x j + (if f (upN f j x) = (upN f j x : Nat) then 0 else 1)
theorem nr_shift {f : Nat → Int} (x : Nat) : ∀ j, nrN f (f x).toNat j + (if f x = (x : Int) then 0 else 1) = nrN f x (j + 1)
  | 0 => by show 0 + _ = 0 + _; rfl
  | j + 1 => by
    have ih := nr_shift (f := f) x j
    have e : upN f j (f x).toNat = upN f (j + 1) x := by rw [Nat.add_comm j 1, up_add]; rfl
    show nrN f (f x).toNat j + (if f (upN f j (f x).toNat) = (upN f j (f x).toNat : Nat) then 0 else 1) + _ = nrN f x (j + 1) + (if f (upN f (j + 1) x) = (upN f (j + 1) x : Nat) then 0 else 1)
    rw [← ih, e]
    omega
theorem nr_less (h : VJ n f m g) {x : Nat} (hx : x < n) (hr : f x ≠ x) : nrN f (f x).toNat m < nrN f x m := by
  have h1 := nr_shift (f := f) x m
  have h2 : nrN f x (m + 1) = nrN f x m := by
    show nrN f x m + _ = _
    rw [if_pos (up_stays h hx)]
    omega
  rw [if_neg hr] at h1
  omega
end
theorem spec_root (w : World) (p : Nat) (A : Option Addr) (n c : Nat) (f : Nat → Int) (B : Option Addr) (m d : Nat) (g : Nat → Int) (k : Nat) (hb : Cel w p [.slice A n c, .slice B m d]) (hr : Row .i64 w A n c f) (hv : VJ n f m g) (hk : k < n) :
    Calls Tryd.prog 131 #[.pointer (some ⟨p, 0, none⟩), .int .i64 (k : Int)] w fun e w' => e = .returned (.int .i64 (upN f m k : Nat)) ∧ w = w' := by
  have hpz := hb.1
  have k0 : w.cell? ⟨p, 0, none⟩ = some (.slice A n c) := hb.2 0 _ rfl
  have hn := hv.n2
  have HV := Lib.hid hv
  obtain ⟨b, o, rfl, hbl, hc⟩ := hr.2.2.2 (by omega)
  have HC := Lib.hid hc
  have hnc := hr.1
  have hcm := hr.2.1
  unfold maxLen at hcm
  clear hb hr hv hc
  go_enter Tryd.func131, Tryd.ntmps131
  go_wp2
  go_loop [1] (fun kv => ∃ j : Nat, j ≤ m ∧ kv = .int .i64 ((upN f j k : Nat) : Int)) (fun kv => nrN f (intOf kv).toNat m)
  case atStart => exact ⟨0, Nat.zero_le _, rfl⟩
  case round =>
    obtain ⟨j, hj, rfl⟩ := hrel
    have hx := up_lt HV.out hk j
    obtain ⟨x, hxe⟩ : ∃ x, upN f j k = x := ⟨_, rfl⟩
    have HXE := Lib.hid hxe
    rw [hxe] at hx ⊢
    clear hxe
    have hcx := HC.out x hx
    obtain ⟨p1, p2, -⟩ := HV.out.pars x hx
    obtain ⟨y, hy⟩ : ∃ y : Nat, f x = y := ⟨(f x).toNat, by omega⟩
    rw [hy] at hcx p1 p2
    have HY := Lib.hid hy
    by_cases hr : y = x
    · have e1 : ((y : Int) == (x : Int)) = true := beq_iff_eq.2 (by omega)
      have e2 : ((y : Int) != (x : Int)) = false := by rw [bne_eq_false_iff_eq]; omega
      have HE := Lib.hid (up_same (f := f) (m := m) (k := k) (j := j) (by rw [HXE.out, HY.out, hr]) hj)
      clear hy hr
      go_wp2
      go_ret
      exact ⟨ret_int (by rw [HE.out, HXE.out]), rfl⟩
    · have e1 : ((y : Int) == (x : Int)) = false := beq_eq_false_iff_ne.2 (by omega)
      have e2 : ((y : Int) != (x : Int)) = true := bne_iff_ne.2 (by omega)
      have hjm : j < m := by
        refine Classical.byContradiction fun hc => ?_
        obtain rfl : j = m := by omega
        have := up_stays HV.out hk
        rw [HXE.out, HY.out] at this
        omega
      have HL := Lib.hid (nr_less HV.out hx (by rw [HY.out]; omega))
      have HU := Lib.hid (show upN f (j + 1) k = y by show (f (upN f j k)).toNat = y; rw [HXE.out, HY.out]; simp)
      clear hy hr
      go_wp2
      go_round
      case rel => exact ⟨j + 1, by omega, by rw [HU.out]⟩
      case measure =>
        have h := HL.out
        rw [HY.out] at h
        simpa [intOf] using h
end Go.Proofs.YtjgclemfehfgiaaDoor.Base
namespace Go.Proofs.YtjgclemfehfgiaaDoor.Base
set_option linter.unusedVariables false
set_option linter.unusedSimpArgs false

/-- parents within n, along which a rank falls -/
structure FR (n : Nat) (p rk : Nat → Nat) : Prop where
  lt : ∀ x, x < n → p x < n
  dn : ∀ x, x < n → p x = x ∨ rk (p x) < rk x
/-- r stands for x -/
inductive Rt (p : Nat → Nat) : Nat → Nat → Prop
  | top {x : Nat} : p x = x → Rt p x x
  | up {x r : Nat} : p x ≠ x → Rt p (p x) r → Rt p x r
/-- x with another parent -/
def hvP (p : Nat → Nat) (e q : Nat) (x : Nat) : Nat := if x = e then q else p x
section
variable {n : Nat} {p q rk : Nat → Nat}
theorem Rt.uniq {x r r' : Nat} (h : Rt p x r) : Rt p x r' → r = r' := by
  induction h with
  | top e => intro h'
             cases h' with
             | top _ => rfl
             | up hne _ => exact absurd e hne
  | up hne _ ih => intro h'
                   cases h' with
                   | top e => exact absurd e hne
                   | up _ h2 => exact ih h2
theorem Rt.root {x r : Nat} (h : Rt p x r) : p r = r := by
  induction h with
  | top e => exact e
  | up _ _ ih => exact ih
theorem Rt.lt (hf : FR n p rk) {x r : Nat} (h : Rt p x r) (hx : x < n) : r < n := by
  induction h with
  | top _ => exact hx
  | up _ _ ih => exact ih (hf.lt _ hx)
theorem Rt.step {x r : Nat} (h : Rt p x r) : Rt p (p x) r := by
  cases h with
  | top e => rw [e]; exact .top e
  | up _ h2 => exact h2
theorem FR.ex (hf : FR n p rk) : ∀ (d x : Nat), x < n → rk x ≤ d → ∃ r, Rt p x r
  | d, x, hx, hd => by
    by_cases e : p x = x
    · exact ⟨x, .top e⟩
    · have h1 := (hf.dn x hx).resolve_left e
      match d, hd with
      | 0, hd => omega
      | d + 1, hd =>
        obtain ⟨r, hr⟩ := hf.ex d (p x) (hf.lt x hx) (by omega)
        exact ⟨r, .up e hr⟩
theorem FR.has (hf : FR n p rk) {x : Nat} (hx : x < n) : ∃ r, Rt p x r := hf.ex (rk x) x hx (Nat.le_refl _)
theorem FR.halve (hf : FR n p rk) {e : Nat} (he : e < n) : FR n (hvP p e (p (p e))) rk := by
  refine ⟨fun x hx => ?_, fun x hx => ?_⟩
  · unfold hvP
    split
    · exact hf.lt _ (hf.lt _ he)
    · exact hf.lt _ hx
  · unfold hvP
    split
    · next e1 =>
      subst e1
      rcases hf.dn x hx with h1 | h1
      · exact .inl (by rw [h1, h1])
      · rcases hf.dn (p x) (hf.lt x hx) with h2 | h2
        · rw [h2]; exact .inr h1
        · exact .inr (by omega)
    · exact hf.dn x hx
theorem rt_halve (hf : FR n p rk) {e : Nat} (he : e < n) : ∀ (d x r : Nat), x < n → rk x ≤ d → Rt p x r → Rt (hvP p e (p (p e))) x r
  | d, x, r, hx, hd, h => by
    by_cases e1 : p x = x
    · obtain rfl : x = r := (Rt.top e1).uniq h
      refine .top ?_
      unfold hvP
      split
      · next e2 => subst e2; rw [e1, e1]
      · exact e1
    · have h1 := (hf.dn x hx).resolve_left e1
      match d, hd with
      | 0, hd => omega
      | d + 1, hd =>
        by_cases e2 : x = e
        · subst e2
          have e3 : hvP p x (p (p x)) x = p (p x) := if_pos rfl
          have hlt : rk (p (p x)) < rk x := by
            rcases hf.dn (p x) (hf.lt x hx) with h2 | h2
            · rw [h2]; exact h1
            · omega
          have ih := rt_halve hf he d (p (p x)) r (hf.lt _ (hf.lt _ hx)) (by omega) h.step.step
          refine .up ?_ ?_
          · rw [e3]
            intro e4
            rw [e4] at hlt
            omega
          · rw [e3]; exact ih
        · have e3 : hvP p e (p (p e)) x = p x := if_neg e2
          refine .up (by rw [e3]; exact e1) ?_
          rw [e3]
          exact rt_halve hf he d (p x) r (hf.lt _ hx) (by omega) h.step
theorem FR.same (hf : FR n p rk) {e : Nat} (he : e < n) {x r : Nat} (hx : x < n) : Rt (hvP p e (p (p e))) x r ↔ Rt p x r := by
  constructor
  · intro h
    obtain ⟨r', h'⟩ := hf.has hx
    obtain rfl := h.uniq (rt_halve hf he (rk x) x r' hx (Nat.le_refl _) h')
    exact h'
  · exact rt_halve hf he (rk x) x r hx (Nat.le_refl _)
/-- the parents behind taking the changes back, the last one first -/
def undo : List (Nat × Nat) → (Nat → Nat) → Nat → Nat
  | [], p => p
  | (e, b) :: l, p => hvP (undo l p) e b
theorem undo_snoc (e b : Nat) : ∀ (l : List (Nat × Nat)) (p : Nat → Nat) (x : Nat), undo (l ++ [(e, b)]) p x = undo l (hvP p e b) x
  | [], p, x => rfl
  | (e', b') :: l, p, x => by
    show hvP (undo (l ++ [(e, b)]) p) e' b' x = hvP (undo l (hvP p e b)) e' b' x
    unfold hvP
    split
    · rfl
    · exact undo_snoc e b l p x
theorem undo_congr {p p' : Nat → Nat} (h : ∀ x, p x = p' x) : ∀ (l : List (Nat × Nat)) (x : Nat), undo l p x = undo l p' x
  | [], x => h x
  | (e', b') :: l, x => by
    show hvP (undo l p) e' b' x = hvP (undo l p') e' b' x
    unfold hvP
    split
    · rfl
    · exact undo_congr h l x
theorem undo_other {z v : Nat} : ∀ (l : List (Nat × Nat)) (p : Nat → Nat) (x : Nat), (∀ c ∈ l, c.1 ≠ z) → undo l (hvP p z v) x = hvP (undo l p) z v x
  | [], p, x, _ => rfl
  | (e', b') :: l, p, x, h => by
    show hvP (undo l (hvP p z v)) e' b' x = hvP (hvP (undo l p) e' b') z v x
    have h1 := h (e', b') (List.mem_cons_self ..)
    have ih := undo_other (z := z) (v := v) l p x (fun c hc => h c (List.mem_cons_of_mem _ hc))
    by_cases e1 : x = e'
    · subst e1
      have : ¬ x = z := h1
      simp [hvP, this]
    · have e2 : hvP (undo l (hvP p z v)) e' b' x = undo l (hvP p z v) x := if_neg e1
      rw [e2, ih]
      simp [hvP, e1]
end
end Go.Proofs.YtjgclemfehfgiaaDoor.Base
namespace Go.Proofs.YtjgclemfehfgiaaDoor.Base
set_option linter.unusedVariables false
set_option linter.unusedSimpArgs false

/-- x and y have the same element that stands for them -/
def cls (p : Nat → Nat) (x y : Nat) : Prop := ∃ r, Rt p x r ∧ Rt p y r
/-- the number of elements below n that stand for themselves -/
def nRt (n : Nat) (p : Nat → Nat) : Nat := ((List.range n).filter fun z => p z == z).length
section
variable {n : Nat} {p q rk : Nat → Nat}
theorem cls_refl (hf : FR n p rk) {x : Nat} (hx : x < n) : cls p x x := by
  obtain ⟨r, h⟩ := hf.has hx
  exact ⟨r, h, h⟩
theorem cls_symm {x y : Nat} (h : cls p x y) : cls p y x := by
  obtain ⟨r, h1, h2⟩ := h
  exact ⟨r, h2, h1⟩
theorem cls_trans {x y z : Nat} (h : cls p x y) (k : cls p y z) : cls p x z := by
  obtain ⟨r, h1, h2⟩ := h
  obtain ⟨s, h3, h4⟩ := k
  obtain rfl := h2.uniq h3
  exact ⟨r, h1, h4⟩
/-- two elements that stand for groups, joined: the greater one gets the lesser one as its parent -/
theorem FR.join (hf : FR n p rk) {x y : Nat} (hx : p x = x) (hy : p y = y) (hne : x ≠ y) (hxn : x < n) (hyn : y < n) :
    (∃ rk', FR n (hvP p x y) rk') ∧ ∀ z r, z < n → (Rt (hvP p x y) z r ↔ (Rt p z x ∧ r = y) ∨ (¬ Rt p z x ∧ Rt p z r)) := by
  have hpx : hvP p x y x = y := if_pos rfl
  have hpo : ∀ z, z ≠ x → hvP p x y z = p z := fun z h => if_neg h
  have hyy : hvP p x y y = y := by rw [hpo y (fun e => hne e.symm), hy]
  have fwd : ∀ (d z r : Nat), z < n → rk z ≤ d → Rt p z r → Rt (hvP p x y) z (if r = x then y else r) := by
    intro d
    induction d with
    | zero =>
      intro z r hz hd h
      have hz0 : p z = z := by
        rcases hf.dn z hz with h1 | h1
        · exact h1
        · omega
      obtain rfl := (Rt.top hz0).uniq h
      by_cases e : z = x
      · subst e
        rw [if_pos rfl]
        exact .up (by rw [hpx]; exact fun e => hne e.symm) (by rw [hpx]; exact .top hyy)
      · rw [if_neg e]
        exact .top (by rw [hpo z e, hz0])
    | succ d ih =>
      intro z r hz hd h
      by_cases hz0 : p z = z
      · obtain rfl := (Rt.top hz0).uniq h
        by_cases e : z = x
        · subst e
          rw [if_pos rfl]
          exact .up (by rw [hpx]; exact fun e => hne e.symm) (by rw [hpx]; exact .top hyy)
        · rw [if_neg e]
          exact .top (by rw [hpo z e, hz0])
      · have h1 := (hf.dn z hz).resolve_left hz0
        have e : z ≠ x := fun e => hz0 (by rw [e]; exact hx)
        exact .up (by rw [hpo z e]; exact hz0) (by rw [hpo z e]; exact ih (p z) r (hf.lt z hz) (by omega) h.step)
  have both : ∀ z r, z < n → (Rt (hvP p x y) z r ↔ (Rt p z x ∧ r = y) ∨ (¬ Rt p z x ∧ Rt p z r)) := by
    intro z r hz
    obtain ⟨r0, h0⟩ := hf.has hz
    have h1 := fwd (rk z) z r0 hz (Nat.le_refl _) h0
    by_cases e : r0 = x
    · subst e
      rw [if_pos rfl] at h1
      constructor
      · intro h
        exact .inl ⟨h0, h.uniq h1⟩
      · rintro (⟨-, rfl⟩ | ⟨h2, -⟩)
        · exact h1
        · exact absurd h0 h2
    · rw [if_neg e] at h1
      have hnx : ¬ Rt p z x := fun h => e (h0.uniq h)
      constructor
      · intro h
        obtain rfl := h.uniq h1
        exact .inr ⟨hnx, h0⟩
      · rintro (⟨h2, -⟩ | ⟨-, h2⟩)
        · exact absurd h2 hnx
        · obtain rfl := h2.uniq h0
          exact h1
  refine ⟨?_, both⟩
  classical
  refine ⟨fun z => if Rt p z x then rk z + rk y + 1 else rk z, fun z hz => ?_, fun z hz => ?_⟩
  · unfold hvP
    split
    · exact hyn
    · exact hf.lt z hz
  · by_cases e : z = x
    · subst e
      refine .inr ?_
      rw [hpx]
      have h1 : Rt p z z := .top hx
      have h2 : ¬ Rt p y z := fun h => hne ((Rt.top hy).uniq h).symm
      simp only [if_pos h1, if_neg h2]
      omega
    · rw [hpo z e]
      rcases hf.dn z hz with h1 | h1
      · exact .inl h1
      · refine .inr ?_
        have h3 : Rt p (p z) x ↔ Rt p z x := ⟨fun h => .up (by intro e2; rw [e2] at h1; omega) h, fun h => h.step⟩
        by_cases h4 : Rt p z x
        · simp only [if_pos h4, if_pos (h3.2 h4)]
          omega
        · simp only [if_neg h4, if_neg (fun h => h4 (h3.1 h))]
          omega
/-- the groups behind such a joining -/
theorem cls_join (hf : FR n p rk) {x y a b : Nat} (ha : Rt p a x) (hb : Rt p b y) (hne : x ≠ y) (han : a < n) (hbn : b < n) {u v : Nat} (hu : u < n) (hv : v < n) (M m : Nat) (hM : (M = x ∧ m = y) ∨ (M = y ∧ m = x)) :
    cls (hvP p M m) u v ↔ cls p u v ∨ (cls p u a ∧ cls p b v) ∨ (cls p u b ∧ cls p a v) := by
  have hxn := ha.lt hf han
  have hyn := hb.lt hf hbn
  have hxx := ha.root
  have hyy := hb.root
  have key : ∀ z r, z < n → (Rt (hvP p M m) z r ↔ (Rt p z M ∧ r = m) ∨ (¬ Rt p z M ∧ Rt p z r)) := by
    rcases hM with ⟨rfl, rfl⟩ | ⟨rfl, rfl⟩
    · exact (hf.join hxx hyy hne hxn hyn).2
    · exact (hf.join hyy hxx (fun e => hne e.symm) hyn hxn).2
  obtain ⟨ru, h1⟩ := hf.has hu
  obtain ⟨rv, h2⟩ := hf.has hv
  have cx : ∀ z rz, Rt p z rz → (cls p z a ↔ rz = x) := fun z rz h => ⟨fun ⟨r, h3, h4⟩ => by rw [h.uniq h3]; exact h4.uniq ha, fun e => ⟨x, e ▸ h, ha⟩⟩
  have cy : ∀ z rz, Rt p z rz → (cls p z b ↔ rz = y) := fun z rz h => ⟨fun ⟨r, h3, h4⟩ => by rw [h.uniq h3]; exact h4.uniq hb, fun e => ⟨y, e ▸ h, hb⟩⟩
  have cuv : cls p u v ↔ ru = rv := ⟨fun ⟨r, h3, h4⟩ => (h1.uniq h3).trans (h4.uniq h2), fun e => ⟨ru, h1, e ▸ h2⟩⟩
  have sb : cls p b v ↔ rv = y := ⟨fun h => (cy v rv h2).1 (cls_symm h), fun h => cls_symm ((cy v rv h2).2 h)⟩
  have sa : cls p a v ↔ rv = x := ⟨fun h => (cx v rv h2).1 (cls_symm h), fun h => cls_symm ((cx v rv h2).2 h)⟩
  rw [cuv, cx u ru h1, cy u ru h1, sb, sa]
  have eu : ∀ r, Rt p u r ↔ r = ru := fun r => ⟨fun h => h.uniq h1, fun e => e ▸ h1⟩
  have ev : ∀ r, Rt p v r ↔ r = rv := fun r => ⟨fun h => h.uniq h2, fun e => e ▸ h2⟩
  constructor
  · rintro ⟨r, h3, h4⟩
    rw [key u r hu, eu, eu] at h3
    rw [key v r hv, ev, ev] at h4
    rcases hM with ⟨rfl, rfl⟩ | ⟨rfl, rfl⟩ <;> omega
  · intro h
    refine ⟨if ru = M then m else ru, ?_, ?_⟩
    · rw [key u _ hu, eu, eu]
      split <;> omega
    · rw [key v _ hv, ev, ev]
      rcases hM with ⟨rfl, rfl⟩ | ⟨rfl, rfl⟩ <;> split <;> omega
theorem filter_put {P Q : Nat → Bool} {x : Nat} : ∀ n, (∀ z, z ≠ x → P z = Q z) → P x = true → Q x = false → x < n → ((List.range n).filter Q).length + 1 = ((List.range n).filter P).length
  | 0, _, _, _, h => absurd h (Nat.not_lt_zero _)
  | n + 1, h, h1, h2, hx => by
    rw [List.range_succ, List.filter_append, List.filter_append, List.length_append, List.length_append]
    by_cases e : x = n
    · subst e
      have h3 : (List.range x).filter Q = (List.range x).filter P := List.filter_congr (fun z hz => (h z (by have := List.mem_range.1 hz; omega)).symm)
      simp [h1, h2, h3]
    · have h3 := filter_put (P := P) (Q := Q) n h h1 h2 (by omega)
      have h4 : [n].filter Q = [n].filter P := List.filter_congr (fun z hz => by rw [List.mem_singleton.1 hz]; exact (h n (fun e2 => e e2.symm)).symm)
      rw [h4]
      omega
/-- one group less -/
theorem nRt_join {x y : Nat} (hx : p x = x) (hne : x ≠ y) (hxn : x < n) : nRt n (hvP p x y) + 1 = nRt n p := by
  unfold nRt
  refine filter_put n (x := x) (fun z hz => ?_) (by simp [hx]) ?_ hxn
  · unfold hvP
    rw [if_neg hz]
  · unfold hvP
    rw [if_pos rfl]
    simpa using fun e : y = x => hne e.symm
end
/-- q arises out of p by joining the pairs of l, one after the other -/
inductive Jns : (Nat → Nat) → List (Nat × Nat) → (Nat → Nat) → Prop
  | nil {p : Nat → Nat} : Jns p [] p
  | same {p q : Nat → Nat} {a b x : Nat} {l : List (Nat × Nat)} : Rt p a x → Rt p b x → Jns p l q → Jns p ((a, b) :: l) q
  | diff {p q : Nat → Nat} {a b x y : Nat} {l : List (Nat × Nat)} : Rt p a x → Rt p b y → x ≠ y → Jns (hvP p (max x y) (min x y)) l q → Jns p ((a, b) :: l) q
/-- connected by steps -/
inductive Cn (E : Nat → Nat → Prop) : Nat → Nat → Prop
  | refl {x : Nat} : Cn E x x
  | of {x y : Nat} : E x y → Cn E x y
  | symm {x y : Nat} : Cn E x y → Cn E y x
  | trans {x y z : Nat} : Cn E x y → Cn E y z → Cn E x z
theorem Cn.mono {E E' : Nat → Nat → Prop} (h : ∀ x y, E x y → Cn E' x y) {x y : Nat} (k : Cn E x y) : Cn E' x y := by
  induction k with
  | refl => exact .refl
  | of e => exact h _ _ e
  | symm _ ih => exact .symm ih
  | trans _ _ ih1 ih2 => exact .trans ih1 ih2
/-- steps within the first n: by what p joins already, and by the pairs of l -/
def Stp (n : Nat) (p : Nat → Nat) (l : List (Nat × Nat)) (x y : Nat) : Prop := x < n ∧ y < n ∧ (cls p x y ∨ (x, y) ∈ l)
theorem mm_cases (x y : Nat) : (max x y = x ∧ min x y = y) ∨ (max x y = y ∧ min x y = x) := by omega
theorem mm_ne {x y : Nat} (h : x ≠ y) : max x y ≠ min x y := by omega
section
variable {n : Nat}
theorem Jns.cls_iff {p q : Nat → Nat} {l : List (Nat × Nat)} (h : Jns p l q) : ∀ {rk : Nat → Nat}, FR n p rk → (∀ c ∈ l, c.1 < n ∧ c.2 < n) → (∃ rk', FR n q rk') ∧ ∀ x y, x < n → y < n → (cls q x y ↔ Cn (Stp n p l) x y) := by
  induction h with
  | @nil p =>
    intro rk hf _
    refine ⟨⟨rk, hf⟩, fun x y hx hy => ⟨fun h => .of ⟨hx, hy, .inl h⟩, fun h => ?_⟩⟩
    have key : ∀ {x y : Nat}, Cn (Stp n p []) x y → x = y ∨ (x < n ∧ y < n ∧ cls p x y) := by
      intro x y h
      induction h with
      | refl => exact .inl rfl
      | of e => exact .inr ⟨e.1, e.2.1, e.2.2.elim id (fun h => by cases h)⟩
      | symm _ ih => exact ih.imp (fun e => e.symm) (fun ⟨a, b, c⟩ => ⟨b, a, cls_symm c⟩)
      | trans _ _ ih1 ih2 =>
        rcases ih1 with rfl | ⟨a, b, c⟩
        · exact ih2
        · rcases ih2 with rfl | ⟨a', b', c'⟩
          · exact .inr ⟨a, b, c⟩
          · exact .inr ⟨a, b', cls_trans c c'⟩
    rcases key h with rfl | h
    · exact cls_refl hf hx
    · exact h.2.2
  | @same p q a b x l ha hb hj ih =>
    intro rk hf hl
    obtain ⟨han, hbn⟩ := hl (a, b) (List.mem_cons_self ..)
    obtain ⟨h1, h2⟩ := ih hf (fun c hc => hl c (List.mem_cons_of_mem _ hc))
    refine ⟨h1, fun u v hu hv => (h2 u v hu hv).trans ⟨fun h => h.mono fun s t e => .of ⟨e.1, e.2.1, e.2.2.imp id (List.mem_cons_of_mem _)⟩, fun h => h.mono fun s t e => ?_⟩⟩
    rcases e.2.2 with h3 | h3
    · exact .of ⟨e.1, e.2.1, .inl h3⟩
    · rcases List.mem_cons.1 h3 with h4 | h4
      · injection h4 with e1 e2
        subst e1 e2
        exact .of ⟨e.1, e.2.1, .inl ⟨x, ha, hb⟩⟩
      · exact .of ⟨e.1, e.2.1, .inr h4⟩
  | @diff p q a b x y l ha hb hne hj ih =>
    intro rk hf hl
    obtain ⟨han, hbn⟩ := hl (a, b) (List.mem_cons_self ..)
    have hxn := ha.lt hf han
    have hyn := hb.lt hf hbn
    have hfj : ∃ rk', FR n (hvP p (max x y) (min x y)) rk' := by
      rcases mm_cases x y with ⟨e1, e2⟩ | ⟨e1, e2⟩ <;> rw [e1, e2]
      · exact (hf.join ha.root hb.root hne hxn hyn).1
      · exact (hf.join hb.root ha.root (fun e => hne e.symm) hyn hxn).1
    obtain ⟨rk1, hf1⟩ := hfj
    obtain ⟨h1, h2⟩ := ih hf1 (fun c hc => hl c (List.mem_cons_of_mem _ hc))
    refine ⟨h1, fun u v hu hv => (h2 u v hu hv).trans ⟨fun h => h.mono fun s t e => ?_, fun h => h.mono fun s t e => ?_⟩⟩
    · have hab : Cn (Stp n p ((a, b) :: l)) a b := .of ⟨han, hbn, .inr (List.mem_cons_self ..)⟩
      rcases e.2.2 with h3 | h3
      · rcases (cls_join hf ha hb hne han hbn e.1 e.2.1 _ _ (mm_cases x y)).1 h3 with h4 | ⟨h4, h5⟩ | ⟨h4, h5⟩
        · exact .of ⟨e.1, e.2.1, .inl h4⟩
        · exact (Cn.of ⟨e.1, han, .inl h4⟩).trans (hab.trans (.of ⟨hbn, e.2.1, .inl h5⟩))
        · exact (Cn.of ⟨e.1, hbn, .inl h4⟩).trans (hab.symm.trans (.of ⟨han, e.2.1, .inl h5⟩))
      · exact .of ⟨e.1, e.2.1, .inr (List.mem_cons_of_mem _ h3)⟩
    · have hc := fun {s t : Nat} (h1 : s < n) (h2 : t < n) => cls_join hf ha hb hne han hbn h1 h2 _ _ (mm_cases x y)
      rcases e.2.2 with h3 | h3
      · exact .of ⟨e.1, e.2.1, .inl ((hc e.1 e.2.1).2 (.inl h3))⟩
      · rcases List.mem_cons.1 h3 with h4 | h4
        · injection h4 with e1 e2
          subst e1 e2
          exact .of ⟨e.1, e.2.1, .inl ((hc e.1 e.2.1).2 (.inr (.inl ⟨cls_refl hf e.1, cls_refl hf e.2.1⟩)))⟩
        · exact .of ⟨e.1, e.2.1, .inr h4⟩
end
/-- a list without doubles is no longer than one that holds its images -/
theorem inj_len {l l' : List Nat} (φ : Nat → Nat) (hn : l.Nodup) (hi : ∀ x ∈ l, ∀ y ∈ l, φ x = φ y → x = y) (hm : ∀ x ∈ l, φ x ∈ l') : l.length ≤ l'.length := by
  induction l generalizing l' with
  | nil => exact Nat.zero_le _
  | cons a r ih =>
    have ha := hm a (List.mem_cons_self ..)
    obtain ⟨h1, h2⟩ := List.nodup_cons.1 hn
    have h3 := ih (l' := l'.erase (φ a)) h2 (fun x hx y hy => hi x (List.mem_cons_of_mem _ hx) y (List.mem_cons_of_mem _ hy)) (fun x hx => by
      have hne : φ x ≠ φ a := fun e => h1 (by rw [← hi x (List.mem_cons_of_mem _ hx) a (List.mem_cons_self ..) e]; exact hx)
      exact (List.mem_erase_of_ne hne).2 (hm x (List.mem_cons_of_mem _ hx)))
    rw [List.length_erase_of_mem ha] at h3
    have : 0 < l'.length := List.length_pos_of_mem ha
    simp only [List.length_cons]
    omega
/-- where groups are told by a number below N each, and each number is one's, there are N groups -/
theorem nRt_of {n N : Nat} {p rk of : Nat → Nat} (hf : FR n p rk) (hc : ∀ x y, x < n → y < n → (cls p x y ↔ of x = of y)) (hlt : ∀ x, x < n → of x < N) (hs : ∀ k, k < N → ∃ x, x < n ∧ of x = k) : nRt n p = N := by
  have hmem : ∀ r, r ∈ (List.range n).filter (fun z => p z == z) ↔ r < n ∧ p r = r := fun r => by simp
  have hnd : ((List.range n).filter (fun z => p z == z)).Nodup := List.nodup_range.filter _
  refine Nat.le_antisymm ?_ ?_
  · have h := inj_len (l' := List.range N) of hnd (fun x hx y hy e => by
      obtain ⟨h1, h2⟩ := (hmem x).1 hx
      obtain ⟨h3, h4⟩ := (hmem y).1 hy
      obtain ⟨r, h5, h6⟩ := (hc x y h1 h3).2 e
      exact ((Rt.top h2).uniq h5).trans (h6.uniq (Rt.top h4))) (fun x hx => List.mem_range.2 (hlt x ((hmem x).1 hx).1))
    simpa [nRt] using h
  · classical
    have hex : ∀ k, k < N → ∃ r, r < n ∧ p r = r ∧ of r = k := fun k hk => by
      obtain ⟨x, hx, e⟩ := hs k hk
      obtain ⟨r, hr⟩ := hf.has hx
      have hrn := hr.lt hf hx
      exact ⟨r, hrn, hr.root, by rw [← e]; exact ((hc x r hx hrn).1 ⟨r, hr, .top hr.root⟩).symm⟩
    have h := inj_len (l := List.range N) (l' := (List.range n).filter (fun z => p z == z)) (fun k => if hk : k < N then (hex k hk).choose else 0) List.nodup_range (fun x hx y hy e => by
      have hx' := List.mem_range.1 hx
      have hy' := List.mem_range.1 hy
      simp only [dif_pos hx', dif_pos hy'] at e
      rw [← (hex x hx').choose_spec.2.2, ← (hex y hy').choose_spec.2.2, e]) (fun x hx => by
      have hx' := List.mem_range.1 hx
      simp only [dif_pos hx']
      exact (hmem _).2 ⟨(hex x hx').choose_spec.1, (hex x hx').choose_spec.2.1⟩)
    simpa [nRt] using h
end Go.Proofs.YtjgclemfehfgiaaDoor.Base
