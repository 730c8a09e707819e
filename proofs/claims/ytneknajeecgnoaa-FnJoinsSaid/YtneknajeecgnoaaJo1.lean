/-
  Joining the groups of one pair of elements in a forest.
-/
import Derived.Test.YtneknajeecgnoaaRes
import Derived.BigQuiet
import Derived.Test.YtneknajeecgnoaaSetB
namespace Go.Proofs.Ytneknajeecgnoaa.Base
open Go Go.RowKit
set_option linter.unusedVariables false
set_option linter.unusedSimpArgs false

theorem Fst.drew {w : World} {base F E n : Nat} {lv cv : Value} {p : Nat → Nat} {L : List (Nat × Nat)} (h : Fst w base F E n lv cv p L) : Fst w.drew base F E n lv cv p L :=
  ⟨h.box.drew, h.elm.of_block rfl, h.chg.drew, h.far1, h.far2, h.ne, h.low⟩
theorem Fst.bel {w w' : World} {base F E n : Nat} {lv cv : Value} {p : Nat → Nat} {L : List (Nat × Nat)} (h : Fst w base F E n lv cv p L) (hb : Below w.heap.size w w') : Fst w' base F E n lv cv p L :=
  ⟨h.box.below hb h.box.lt, h.elm.of_block (hb.block E h.elm.lt), owns_belowS h.chg hb, h.far1, h.far2, h.ne, Nat.le_trans h.low hb.size⟩
/-- an element that is stored in another block -/
theorem grown_set (w : World) (b i : Nat) (v : Value) : w.grownBy (w.setCell ⟨b, i, none⟩ v) (some b) :=
  ⟨rfl, rfl, rfl, by simp [World.setCell], fun q hq hq2 => Below.heap_setCell w ⟨b, i, none⟩ v q (by rintro rfl; exact hq2 rfl)⟩
theorem own_ne {v : Value} {b : Nat} (h : ∀ q, v.ownBlock = some q → q ≠ b) : v.ownBlock = none ∨ v.ownBlock ≠ some b := .inr (fun e => h b e rfl)
theorem region_out {P : Program} {c : Code} {Q : Exit → Act → World → Prop} {a : Act} {w : World} (h : c.wp P (Exit.then (fun a w => Q .normal a w) (fun _ _ _ => False)) a w) : c.wp P Q a w :=
  wp_mono h (fun e a w hq => by cases e with
    | normal => exact hq
    | _ => exact hq.elim)
theorem own_apart {cv lv : Value} {base : Nat} (h : ∀ q, cv.ownBlock = some q → base ≤ q) (k : ∀ q, lv.ownBlock = some q → q < base) : cv.ownBlock = none ∨ cv.ownBlock ≠ lv.ownBlock := by
  cases e : cv.ownBlock with
  | none => exact .inl rfl
  | some q =>
    refine .inr (fun e2 => ?_)
    have h1 := h q e
    have h2 := k q e2.symm
    omega
theorem cells_snoc (m : Nat) (g : Nat → Int) (y : Int) : cellsOfF m g ++ [.int .i64 y] = cellsOfF (m + 1) (putF g m y) := by
  unfold cellsOfF putF
  rw [List.range_succ, List.map_append]
  simp only [List.map_cons, List.map_nil, if_pos]
  congr 1
  refine List.map_congr_left fun i hi => ?_
  rw [if_neg (by have := List.mem_range.1 hi; omega)]
/-- the forest ahead of restore -/
structure Jst (w : World) (b0 base F E n : Nat) (p0 : Nat → Nat) (m : Nat) (g : Nat → Int) (lv cv : Value) (p : Nat → Nat) (L : List (Nat × Nat)) (W : World) : Prop where
  fst : Fst W base F E n lv cv p L
  len : L.length ≤ 1000000
  dom : ∀ c ∈ L, c.1 < n
  und : ∀ x, undo L p x = p0 x
  log : W.ownsRow b0 2 1 lv m (cellsOfF m g)
  far : ∀ q, lv.ownBlock = some q → q ≠ F ∧ q ≠ E
  bel : Below b0 w W
/-- the forest behind restore -/
def Jst2 (w : World) (b0 F E n : Nat) (p0 : Nat → Nat) (m : Nat) (g : Nat → Int) (e : Ending) (W : World) : Prop :=
  ∃ lv v, e = .returned v ∧ Elm W E n p0 ∧ At W F #[.slice (some ⟨E, 0, none⟩) n n, lv, .slice none 0 0] 95 ∧ W.ownsRow b0 2 1 lv m (cellsOfF m g) ∧ (∀ q, lv.ownBlock = some q → q ≠ F ∧ q ≠ E) ∧ Below b0 w W
theorem Elm.congr {w : World} {E n : Nat} {p q : Nat → Nat} (h : Elm w E n p) (e : ∀ x, p x = q x) : Elm w E n q := by
  obtain ⟨cs, h1, h2⟩ := h
  exact ⟨cs, h1, fun k hk => by rw [← e]; exact h2 k hk⟩
theorem Frm.keepOwn {base F E : Nat} {w A : World} (h : Frm base F E w A) {B : Nat} {lv : Value} {m : Nat} {t : TypeId} {xs : List Value} (ho : w.ownsRow B t 1 lv m xs) (hne : ∀ q, lv.ownBlock = some q → q < base ∧ q ≠ F ∧ q ≠ E) : A.ownsRow B t 1 lv m xs := by
  refine ⟨ho.1, ?_⟩
  rcases ho.2 with hn | ⟨g, cap, cur, rfl, h1, h2, rest⟩
  · exact .inl hn
  · have hq := hne g rfl
    have hl := (Array.getElem?_eq_some_iff.1 h2).1
    exact .inr ⟨g, cap, cur, rfl, h1, (h.block g hq.1 hq.2.1 hq.2.2).trans h2, rest⟩
set_option maxHeartbeats 4000000 in
set_option maxRecDepth 100000 in
theorem impl_join1 (w : World) (b0 base F E P Q n m : Nat) (lv : Value) (rk p : Nat → Nat) (g : Nat → Int) (a b ra rb : Nat) (hs : Fst w base F E n lv (.slice none 0 0) p [])
    (hlog : w.ownsRow b0 2 1 lv m (cellsOfF m g)) (hlv : ∀ q, lv.ownBlock = some q → q < base ∧ q ≠ F ∧ q ≠ E) (hbF : b0 ≤ F) (hbE : b0 ≤ E)
    (hP : At w P #[.slice (some ⟨Q, 0, none⟩) 2 2] 24) (hQ : At w Q #[.int .i64 (a : Int), .int .i64 (b : Int)] 2) (hQb : Q < base) (hQF : Q ≠ F) (hQE : Q ≠ E)
    (hf : FR n p rk) (ha : a < n) (hb : b < n) (hra : Rt p a ra) (hrb : Rt p b rb) (hn : n ≤ 256) (hm : m ≤ 1000000) (p0 : Nat → Nat) (m0 : Nat) (g0 : Nat → Int)
    (hcase : (ra = rb ∧ p0 = p ∧ m0 = m ∧ g0 = g) ∨ (ra ≠ rb ∧ p0 = hvP p (max ra rb) (min ra rb) ∧ m0 = m + 1 ∧ g0 = putF g m (max ra rb : Nat))) (hrk : ∀ x, x < n → rk x ≤ 256) :
    Calls Try.prog 58 #[.pointer (some ⟨F, 0, none⟩), .slice (some ⟨P, 0, none⟩) 1 1] w (Jst2 w b0 F E n p0 m0 g0) := by
  have HS := Lib.hid hs
  have HF := Lib.hid hf
  have HRA := Lib.hid hra
  have HRB := Lib.hid hrb
  have HRK := Lib.hid hrk
  have HLOG := Lib.hid hlog
  have HLV := Lib.hid hlv
  have HQ := Lib.hid hQ
  have HCS := Lib.hid hcase
  have hral := hra.lt hf ha
  have hrbl := hrb.lt hf hb
  have P0 := hP.cellv (i := 0) rfl
  have q0 := hQ.cellv (i := 0) rfl
  have q1 := hQ.cellv (i := 1) rfl
  have Pz := hP.lt
  have Qz := hQ.lt
  clear hs hlog hf hra hrb hrk hlv hQ hP hcase
  go_enter_defers Try.func58, Try.ntmps58
  go_wp2
  go_loopw [11] (fun iv wr => (iv = .int .i64 0 ∧ wr = w) ∨ (iv = .int .i64 1 ∧ ∃ lv' cv' p' L', Hid (Jst w b0 base F E n p0 m0 g0 lv' cv' p' L' wr))) (fun iv _ => 1 - (intOf iv).toNat)
  case atStart => exact .inl ⟨rfl, rfl⟩
  case round =>
    rcases hrel with ⟨rfl, hw⟩ | ⟨rfl, lv', cv', p', L', HJ⟩
    · subst hw
      have HSd := Lib.hid HS.out.drew
      go_wp2_with fail
      go_region_held3 (fun w' => w'.cell? ⟨Q, 0, none⟩ = some (.int .i64 (a : Int)) ∧ w'.cell? ⟨Q, 1, none⟩ = some (.int .i64 (b : Int)))
        (first | exact ⟨q0, q1⟩ | exact ⟨r0, r1⟩ | exact ⟨t0, t1⟩ | go_keep | assumption)
        (first
          | (go_at_call 62; (with_reducible refine (impl_standing _ base F E n lv (.slice none 0 0) rk p [] a ra ?_ HF.out ha HRA.out hn (by simp) HRK.out).mono ?_); exact HSd.out; rintro e wa ⟨cva, pa, La, rfl, fa, qa, ua, la, da, sa, wwa⟩; have ea := wwa.block Q hQb hQF hQE; have r0 : wa.cell? ⟨Q, 0, none⟩ = some (.int .i64 (a : Int)) := (World.cell?_of_block (a := ⟨Q, 0, none⟩) ea).trans q0; have r1 : wa.cell? ⟨Q, 1, none⟩ = some (.int .i64 (b : Int)) := (World.cell?_of_block (a := ⟨Q, 1, none⟩) ea).trans q1; have FA := Lib.hid fa; have QA := Lib.hid qa; have UA := Lib.hid ua; have DA := Lib.hid da; have SA := Lib.hid sa; have WA := Lib.hid wwa; clear fa qa ua da sa wwa ea)
          | (go_at_call 62; (with_reducible refine (impl_standing _ base F E n lv cva rk pa La b rb ?_ FA.out hb ((QA.out b rb hb).2 HRB.out) hn (by simp at la; omega) HRK.out).mono ?_); (first | exact SA.out | exact SA.out.drew); rintro e wb ⟨cvb, pb, Lb, rfl, fb, qb, ub, lb, db, sb, wwb⟩; have eb := wwb.block Q hQb hQF hQE; have t0 : wb.cell? ⟨Q, 0, none⟩ = some (.int .i64 (a : Int)) := (World.cell?_of_block (a := ⟨Q, 0, none⟩) eb).trans r0; have t1 : wb.cell? ⟨Q, 1, none⟩ = some (.int .i64 (b : Int)) := (World.cell?_of_block (a := ⟨Q, 1, none⟩) eb).trans r1; have FB := Lib.hid fb; have QB := Lib.hid qb; have UB := Lib.hid ub; have DB := Lib.hid db; have SB := Lib.hid sb; have WB := Lib.hid wwb; clear fb qb ub db sb wwb eb))
      rename_i hSx
      clear hSx r0 r1 t0 t1 q0 q1 HSd SA
      obtain ⟨x1, x2, x3, x4⟩ := SB.out.elm.at_ hral
      obtain ⟨y1, y2, y3, y4⟩ := SB.out.elm.at_ hrbl
      have ez := SB.out.elm.lt
      have bz := SB.out.box.lt
      have HBW := Lib.hid ((((Below.refl b0 wr).drew).trans (WA.out.below (B := b0) hbF hbE (by have := HS.out.far1; omega))).trans (WB.out.below (B := b0) hbF hbE (by have := HS.out.far1; omega)))
      have HLB := Lib.hid (WB.out.keepOwn (WA.out.keepOwn HLOG.out HLV.out) HLV.out)
      have HU := Lib.hid (fun x => (show undo Lb pb x = p x by rw [UB.out x, UA.out x]; rfl))
      have HD := Lib.hid (fun (c : Nat × Nat) (hc : c ∈ Lb) => (show c.1 < n from by
        rcases DB.out c hc with h | h
        · rcases DA.out c h with h | h
          · cases h
          · exact h.1
        · exact h.1))
      have HDR := Lib.hid (fun (c : Nat × Nat) (hc : c ∈ Lb) => (show p c.1 ≠ c.1 from by
        rcases DB.out c hc with h | h
        · rcases DA.out c h with h | h
          · cases h
          · exact h.2
        · intro e
          have h1 := (QA.out c.1 c.1 h.1).2 (.top e)
          exact h.2 h1.root))
      have hlb : Lb.length ≤ 1000000 := by simp at la; omega
      clear DA DB UA UB HLOG
      rcases HCS.out with ⟨hab, e1, e2, e3⟩ | ⟨hab, e1, e2, e3⟩
      · subst hab
        subst e1 e2 e3
        clear P0 Pz Qz
        go_wp2_with fail
        go_quiet (fail)
        go_wp2
        go_roundw
        case rel =>
          refine .inr ⟨rfl, lv, cvb, pb, Lb, Lib.hid ⟨SB.out.bel (below_drewN (Below.refl wb.heap.size wb) nq), hlb, HD.out, HU.out, owns_belowS HLB.out (below_drewN (Below.refl wb.heap.size wb) nq), fun q hq => (HLV.out q hq).2, below_drewN HBW.out nq⟩⟩
        case measure => simp [intOf]
      · have hmx : max ra rb = rb ∧ min ra rb = ra ∨ max ra rb = ra ∧ min ra rb = rb := by omega
        have n1 : ((ra : Int) == (rb : Int)) = false := beq_eq_false_iff_ne.2 (by omega)
        by_cases hlt : ra < rb
        · have n2 : decide ((rb : Int) < (ra : Int)) = false := by simp; omega
          clear P0 Pz Qz
          go_wp2_with fail
          go_quiet (fail)
          have SB1 := Lib.hid (SB.out.bel (below_drewN (Below.refl wb.heap.size wb) nq))
          have HL1 := Lib.hid (owns_belowS HLB.out (below_drewN (Below.refl wb.heap.size wb) nq))
          have HB1 := Lib.hid (below_drewN HBW.out nq)
          clear x1 x2 x3 x4 y1 y2 y3 y4 ez bz SB HLB HBW WA WB
          generalize wb.drewN nq = w5 at *
          obtain ⟨x1, x2, x3, x4⟩ := SB1.out.elm.at_ hral
          obtain ⟨y1, y2, y3, y4⟩ := SB1.out.elm.at_ hrbl
          have ez := SB1.out.elm.lt
          go_wp2_with fail
          go_quiet (fail)
          have SB2 := Lib.hid (SB1.out.bel (below_drewN (Below.refl w5.heap.size w5) nq))
          have HL2 := Lib.hid (owns_belowS HL1.out (below_drewN (Below.refl w5.heap.size w5) nq))
          have HB2 := Lib.hid (below_drewN HB1.out nq)
          clear x1 x2 x3 x4 y1 y2 y3 y4 ez SB1 HL1 HB1
          generalize w5.drewN nq = w6 at *
          obtain ⟨x1, x2, x3, x4⟩ := SB2.out.elm.at_ hral
          obtain ⟨y1, y2, y3, y4⟩ := SB2.out.elm.at_ hrbl
          have ez := SB2.out.elm.lt
          go_wp2_with fail
          have hYl : rb < n := hrbl
          have hFE := SB2.out.ne
          have HEX := Lib.hid (show max ra rb = rb ∧ min ra rb = ra by omega)
          have SB7 := Lib.hid (show Fst (w6.setCell ⟨E, rb * 2 + 1, none⟩ (.pointer (some ⟨E, ra * 2, none⟩))) base F E n lv cvb (hvP pb rb ra) Lb from ⟨SB2.out.box.setOther (fun e => hFE e.symm) _, SB2.out.elm.put hYl ra, ownsRow_setCell_below SB2.out.chg (by exact SB2.out.far2) _, SB2.out.far1, SB2.out.far2, hFE, by simpa [World.setCell] using SB2.out.low⟩)
          have HL7 := Lib.hid (HL2.out.kept (grown_set w6 E (rb * 2 + 1) (.pointer (some ⟨E, ra * 2, none⟩))) (own_ne (fun q hq => (HLV.out q hq).2.2)))
          have HB7 := Lib.hid (HB2.out.setCell (p := ⟨E, rb * 2 + 1, none⟩) (by exact hbE) (.pointer (some ⟨E, ra * 2, none⟩)))
          clear x1 x2 x3 x4 y1 y2 y3 y4 ez SB2 HL2 HB2 n1 n2
          generalize w6.setCell ⟨E, rb * 2 + 1, none⟩ (.pointer (some ⟨E, ra * 2, none⟩)) = w7 at *
          obtain ⟨y1, -, y3, -⟩ := SB7.out.elm.at_ hYl
          have ez := SB7.out.elm.lt
          have b1 := SB7.out.box.cellv (i := 1) rfl
          have g1 := SB7.out.box.frozen 1
          have bz := SB7.out.box.lt
          have hbz : b0 ≤ w7.heap.size := by omega
          obtain ⟨i0, hi, hz0, hz1, hz2⟩ := info_parts infoI64
          refine region_out ?_
          go_region_law (refine step_append_lies (w7.drew.alloc (.cells #[.int .i64 (rb : Int)] 2)) (by rfl) (.tmp 53) (.tmp 58) 24 (by rfl) b0 2 i0 (.int .i64 0) 1 8 Try.underlying24 hi hz0 hz1 hz2 rfl (by decide) lv m (cellsOfF m g) (by rfl) (HL7.out.drew.alloc _) ⟨w7.heap.size, 0, none⟩ 1 1 [.int .i64 (rb : Int)] (by rfl) (by rfl) (World.news_of_block (cs := #[.int .i64 (rb : Int)]) (t := 2) (fr := (0, 0)) (heap_alloc_new w7.drew _)) (fun u hu => by simp at hu; subst hu; rfl) (by omega) (by unfold maxLen; omega) (by omega) (by simp; omega) (w7.heap.size + 1) (by simp) ?_; intro gg cap wz hown1 hgrow hat hlt1; have eF : wz.heap[F]? = w7.heap[F]? := (hgrow.block F (by simp; omega) (fun e => (HLV.out F e.symm).2.1 rfl)).trans (Below.heap_alloc _ _ _ (by exact bz)); have eE : wz.heap[E]? = w7.heap[E]? := (hgrow.block E (by simp; omega) (fun e => (HLV.out E e.symm).2.2 rfl)).trans (Below.heap_alloc _ _ _ (by exact ez)); have q2 := (World.cell?_of_block (a := ⟨F, 1, none⟩) eF).trans b1; have f2 := (World.frozen?_of_block (a := ⟨F, 1, none⟩) eF).trans g1; have zF : F < wz.heap.size := Nat.lt_of_lt_of_le (by simp; omega) hgrow.size; have HOW := Lib.hid hown1; have HGR := Lib.hid hgrow; have HAT := Lib.hid hat; have HEF := Lib.hid eF; have HEE := Lib.hid eE; clear hown1 hgrow hat eF eE)
          all_goals
            go_wp2
            clear q2 f2 b1 g1 y1 y3
            go_roundw
            case rel =>
              subst e1 e2 e3
              rw [HEX.out.1, HEX.out.2]
              have hgF : gg ≠ F := by
                rcases HAT.out with h | h
                · exact (HLV.out gg h).2.1
                · omega
              have hgE : gg ≠ E := by
                rcases HAT.out with h | h
                · exact (HLV.out gg h).2.2
                · omega
              refine .inr ⟨rfl, .slice (some ⟨gg, 0, none⟩) (m + 1) cap, cvb, hvP pb rb ra, Lb, Lib.hid ⟨⟨?_, ?_, ?_, SB7.out.far1, SB7.out.far2, SB7.out.ne, ?_⟩, hlb, HD.out, fun t => ?_, ?_, ?_, ?_⟩⟩
              · exact (SB7.out.box.of_block HEF.out).set 1 (.slice (some ⟨gg, 0, none⟩) (m + 1) cap)
              · exact (SB7.out.elm.of_block HEE.out).of_block (Below.heap_setCell wz ⟨F, 1, none⟩ _ E (fun e => hFE e.symm))
              · exact ownsRow_setCell_below (((SB7.out.chg.drew.alloc _).kept HGR.out (own_apart (fun q hq => (SB7.out.chg.lt q hq).1) (fun q hq => (HLV.out q hq).1)))) (by exact SB7.out.far1) _
              · have h1 := HGR.out.size
                have h2 := SB7.out.low
                have h3 : (w7.drew.alloc (.cells #[.int .i64 (rb : Int)] 2)).heap.size = w7.heap.size + 1 := by simp
                have h4 : (wz.setCell ⟨F, 1, none⟩ (.slice (some ⟨gg, 0, none⟩) (m + 1) cap)).heap.size = wz.heap.size := by simp [World.setCell]
                rw [h4]
                omega
              · rw [undo_other Lb pb t (fun c hc e => HDR.out c hc (by rw [e]; exact HRB.out.root))]
                unfold hvP
                rw [HU.out t]
              · have h1 := HOW.out
                rw [cells_snoc] at h1
                exact h1.kept (grown_set wz F 1 _) (own_ne (fun q hq => by have e5 : gg = q := (by simpa [Value.ownBlock] using hq); omega))
              · intro q hq
                injection hq with hq
                subst hq
                exact ⟨hgF, hgE⟩
              · exact (((HB7.out.drew).alloc hbz _).grown HGR.out (by simp; omega) (fun q hq => (HL7.out.lt q hq).1)).setCell (by exact hbF) _
            case measure => simp [intOf]
        · have n2 : decide ((rb : Int) < (ra : Int)) = true := by simp; omega
          clear P0 Pz Qz
          go_wp2_with fail
          go_quiet (fail)
          have SB1 := Lib.hid (SB.out.bel (below_drewN (Below.refl wb.heap.size wb) nq))
          have HL1 := Lib.hid (owns_belowS HLB.out (below_drewN (Below.refl wb.heap.size wb) nq))
          have HB1 := Lib.hid (below_drewN HBW.out nq)
          clear x1 x2 x3 x4 y1 y2 y3 y4 ez bz SB HLB HBW WA WB
          generalize wb.drewN nq = w5 at *
          obtain ⟨x1, x2, x3, x4⟩ := SB1.out.elm.at_ hral
          obtain ⟨y1, y2, y3, y4⟩ := SB1.out.elm.at_ hrbl
          have ez := SB1.out.elm.lt
          go_wp2_with fail
          go_quiet (fail)
          have SB2 := Lib.hid (SB1.out.bel (below_drewN (Below.refl w5.heap.size w5) nq))
          have HL2 := Lib.hid (owns_belowS HL1.out (below_drewN (Below.refl w5.heap.size w5) nq))
          have HB2 := Lib.hid (below_drewN HB1.out nq)
          clear x1 x2 x3 x4 y1 y2 y3 y4 ez SB1 HL1 HB1
          generalize w5.drewN nq = w6 at *
          obtain ⟨x1, x2, x3, x4⟩ := SB2.out.elm.at_ hral
          obtain ⟨y1, y2, y3, y4⟩ := SB2.out.elm.at_ hrbl
          have ez := SB2.out.elm.lt
          go_wp2_with fail
          have hYl : ra < n := hral
          have hFE := SB2.out.ne
          have HEX := Lib.hid (show max ra rb = ra ∧ min ra rb = rb by omega)
          have SB7 := Lib.hid (show Fst (w6.setCell ⟨E, ra * 2 + 1, none⟩ (.pointer (some ⟨E, rb * 2, none⟩))) base F E n lv cvb (hvP pb ra rb) Lb from ⟨SB2.out.box.setOther (fun e => hFE e.symm) _, SB2.out.elm.put hYl rb, ownsRow_setCell_below SB2.out.chg (by exact SB2.out.far2) _, SB2.out.far1, SB2.out.far2, hFE, by simpa [World.setCell] using SB2.out.low⟩)
          have HL7 := Lib.hid (HL2.out.kept (grown_set w6 E (ra * 2 + 1) (.pointer (some ⟨E, rb * 2, none⟩))) (own_ne (fun q hq => (HLV.out q hq).2.2)))
          have HB7 := Lib.hid (HB2.out.setCell (p := ⟨E, ra * 2 + 1, none⟩) (by exact hbE) (.pointer (some ⟨E, rb * 2, none⟩)))
          clear x1 x2 x3 x4 y1 y2 y3 y4 ez SB2 HL2 HB2 n1 n2
          generalize w6.setCell ⟨E, ra * 2 + 1, none⟩ (.pointer (some ⟨E, rb * 2, none⟩)) = w7 at *
          obtain ⟨y1, -, y3, -⟩ := SB7.out.elm.at_ hYl
          have ez := SB7.out.elm.lt
          have b1 := SB7.out.box.cellv (i := 1) rfl
          have g1 := SB7.out.box.frozen 1
          have bz := SB7.out.box.lt
          have hbz : b0 ≤ w7.heap.size := by omega
          obtain ⟨i0, hi, hz0, hz1, hz2⟩ := info_parts infoI64
          refine region_out ?_
          go_region_law (refine step_append_lies (w7.drew.alloc (.cells #[.int .i64 (ra : Int)] 2)) (by rfl) (.tmp 53) (.tmp 58) 24 (by rfl) b0 2 i0 (.int .i64 0) 1 8 Try.underlying24 hi hz0 hz1 hz2 rfl (by decide) lv m (cellsOfF m g) (by rfl) (HL7.out.drew.alloc _) ⟨w7.heap.size, 0, none⟩ 1 1 [.int .i64 (ra : Int)] (by rfl) (by rfl) (World.news_of_block (cs := #[.int .i64 (ra : Int)]) (t := 2) (fr := (0, 0)) (heap_alloc_new w7.drew _)) (fun u hu => by simp at hu; subst hu; rfl) (by omega) (by unfold maxLen; omega) (by omega) (by simp; omega) (w7.heap.size + 1) (by simp) ?_; intro gg cap wz hown1 hgrow hat hlt1; have eF : wz.heap[F]? = w7.heap[F]? := (hgrow.block F (by simp; omega) (fun e => (HLV.out F e.symm).2.1 rfl)).trans (Below.heap_alloc _ _ _ (by exact bz)); have eE : wz.heap[E]? = w7.heap[E]? := (hgrow.block E (by simp; omega) (fun e => (HLV.out E e.symm).2.2 rfl)).trans (Below.heap_alloc _ _ _ (by exact ez)); have q2 := (World.cell?_of_block (a := ⟨F, 1, none⟩) eF).trans b1; have f2 := (World.frozen?_of_block (a := ⟨F, 1, none⟩) eF).trans g1; have zF : F < wz.heap.size := Nat.lt_of_lt_of_le (by simp; omega) hgrow.size; have HOW := Lib.hid hown1; have HGR := Lib.hid hgrow; have HAT := Lib.hid hat; have HEF := Lib.hid eF; have HEE := Lib.hid eE; clear hown1 hgrow hat eF eE)
          all_goals
            go_wp2
            clear q2 f2 b1 g1 y1 y3
            go_roundw
            case rel =>
              subst e1 e2 e3
              rw [HEX.out.1, HEX.out.2]
              have hgF : gg ≠ F := by
                rcases HAT.out with h | h
                · exact (HLV.out gg h).2.1
                · omega
              have hgE : gg ≠ E := by
                rcases HAT.out with h | h
                · exact (HLV.out gg h).2.2
                · omega
              refine .inr ⟨rfl, .slice (some ⟨gg, 0, none⟩) (m + 1) cap, cvb, hvP pb ra rb, Lb, Lib.hid ⟨⟨?_, ?_, ?_, SB7.out.far1, SB7.out.far2, SB7.out.ne, ?_⟩, hlb, HD.out, fun t => ?_, ?_, ?_, ?_⟩⟩
              · exact (SB7.out.box.of_block HEF.out).set 1 (.slice (some ⟨gg, 0, none⟩) (m + 1) cap)
              · exact (SB7.out.elm.of_block HEE.out).of_block (Below.heap_setCell wz ⟨F, 1, none⟩ _ E (fun e => hFE e.symm))
              · exact ownsRow_setCell_below (((SB7.out.chg.drew.alloc _).kept HGR.out (own_apart (fun q hq => (SB7.out.chg.lt q hq).1) (fun q hq => (HLV.out q hq).1)))) (by exact SB7.out.far1) _
              · have h1 := HGR.out.size
                have h2 := SB7.out.low
                have h3 : (w7.drew.alloc (.cells #[.int .i64 (ra : Int)] 2)).heap.size = w7.heap.size + 1 := by simp
                have h4 : (wz.setCell ⟨F, 1, none⟩ (.slice (some ⟨gg, 0, none⟩) (m + 1) cap)).heap.size = wz.heap.size := by simp [World.setCell]
                rw [h4]
                omega
              · rw [undo_other Lb pb t (fun c hc e => HDR.out c hc (by rw [e]; exact HRA.out.root))]
                unfold hvP
                rw [HU.out t]
              · have h1 := HOW.out
                rw [cells_snoc] at h1
                exact h1.kept (grown_set wz F 1 _) (own_ne (fun q hq => by have e5 : gg = q := (by simpa [Value.ownBlock] using hq); omega))
              · intro q hq
                injection hq with hq
                subst hq
                exact ⟨hgF, hgE⟩
              · exact (((HB7.out.drew).alloc hbz _).grown HGR.out (by simp; omega) (fun q hq => (HL7.out.lt q hq).1)).setCell (by exact hbF) _
            case measure => simp [intOf]
    · clear P0 q0 q1 Pz Qz
      go_wp2
      refine leaves_cons (f := 95) (args := #[.pointer (some ⟨F, 0, none⟩)]) (by simp) (by simp [go_sem]) ?_
      refine (impl_restore wr base F E n lv' cv' p' L' .returning HJ.out.fst hn HJ.out.len HJ.out.dom).mono ?_
      rintro e u' w' ⟨rfl, ⟨v, rfl⟩, h1, h2, h3⟩
      refine ⟨_, results_none rfl _ _ _, lv', _, rfl, h1.congr HJ.out.und, h2, h3.keepOwn HJ.out.log (fun q hq => ⟨(HJ.out.log.lt q hq).2, HJ.out.far q hq⟩), HJ.out.far, HJ.out.bel.trans (h3.below hbF hbE (HJ.out.bel.size |> fun h => by have := HJ.out.fst.far1; have := HJ.out.fst.low; omega))⟩
end Go.Proofs.Ytneknajeecgnoaa.Base
