/-
  Joined elements: whether they are valid, the model's test and the program's.
-/
import Derived.Test.YtneknajeecgnoaaShape
import Derived.Test.YtneknajeecgnoaaNew
import Derived.Test.YtneknajeecgnoaaPan
import Derived.Test.YtneknajeecgnoaaMpz
import Derived.IntWalk
namespace Go.Proofs.Ytneknajeecgnoaa.Base
open Go Go.RowKit
set_option linter.unusedVariables false
set_option linter.unusedSimpArgs false

/-- x is one of the first k of the log -/
def lgB (g : Nat → Int) (k : Nat) (x : Int) : Bool := (List.range k).any fun i => g i == x
theorem lg_zero (g : Nat → Int) (x : Int) : lgB g 0 x = false := rfl
theorem lg_succ (g : Nat → Int) (k : Nat) (x : Int) : lgB g (k + 1) x = (lgB g k x || g k == x) := by simp [lgB, List.range_succ, List.any_append]
theorem lg_iff {g : Nat → Int} {k : Nat} {x : Int} : lgB g k x = true ↔ ∃ i, i < k ∧ g i = x := by simp [lgB]
theorem lg_mono {g : Nat → Int} {k k' : Nat} {x : Int} (h : lgB g k x = true) (hk : k ≤ k') : lgB g k' x = true := by
  obtain ⟨i, h1, h2⟩ := lg_iff.1 h
  exact lg_iff.2 ⟨i, by omega, h2⟩
structure VJ (n : Nat) (f : Nat → Int) (m : Nat) (g : Nat → Int) : Prop where
  n1 : 1 ≤ n
  n2 : n ≤ 256
  logs : ∀ i, i < m → 0 ≤ g i ∧ g i < n ∧ lgB g i (g i) = false
  pars : ∀ k, k < n → 0 ≤ f k ∧ f k < n ∧ (f k == (k : Int)) ≠ lgB g m k
  ords : ∀ i, i < m → lgB g i (f (g i).toNat) = false
noncomputable def vjB (n : Nat) (f : Nat → Int) (m : Nat) (g : Nat → Int) : Bool := open Classical in decide (VJ n f m g)
theorem vj_yes {n : Nat} {f : Nat → Int} {m : Nat} {g : Nat → Int} (h : vjB n f m g = true) : VJ n f m g := by classical exact of_decide_eq_true h
theorem vj_mk {n : Nat} {f : Nat → Int} {m : Nat} {g : Nat → Int} (h : VJ n f m g) : vjB n f m g = true := by classical exact decide_eq_true h
theorem vj_no {n : Nat} {f : Nat → Int} {m : Nat} {g : Nat → Int} (h : ¬ VJ n f m g) : vjB n f m g = false := by classical exact decide_eq_false h
/-- in valid joined elements there are no more logged ones than elements -/
theorem VJ.le {n : Nat} {f : Nat → Int} {m : Nat} {g : Nat → Int} (h : VJ n f m g) : m ≤ n := by
  refine Classical.byContradiction fun hc => ?_
  have hnd : ((List.range m).map fun i => (g i).toNat).Nodup := by
    rw [List.nodup_iff_pairwise_ne, List.pairwise_map]
    refine (List.pairwise_lt_range (n := m)).imp_of_mem ?_
    intro a b ha hb hab e
    have hb' := List.mem_range.1 hb
    obtain ⟨h1, h2, h3⟩ := h.logs b hb'
    obtain ⟨h4, h5, h6⟩ := h.logs a (by omega)
    have : lgB g b (g b) = true := lg_iff.2 ⟨a, hab, by omega⟩
    rw [h3] at this
    cases this
  have : ∀ (M : Nat) (l : List Nat), l.Nodup → (∀ x ∈ l, x < M) → l.length ≤ M := by
    intro M
    induction M with
    | zero => intro l _ h; cases l with
      | nil => exact Nat.le_refl _
      | cons a r => exact absurd (h a (List.mem_cons_self ..)) (by omega)
    | succ M ih =>
      intro l hn h
      have h1 := ih (l.erase M) (hn.erase _) (fun x hx => by
        have hm := (hn.mem_erase_iff.1 hx)
        have := h x hm.2
        omega)
      have h2 := List.length_erase (a := M) (l := l)
      split at h2 <;> omega
  have := this n _ hnd (fun x hx => by
    obtain ⟨i, hi, rfl⟩ := List.mem_map.1 hx
    obtain ⟨h1, h2, -⟩ := h.logs i (List.mem_range.1 hi)
    omega)
  simp at this
  omega

theorem infoBool : (Try.prog.info? 4).map (fun i => (i.zero, i.size, i.bytes)) = some (some (.bool false), 1, 1) := by kernel_rfl
set_option maxHeartbeats 2000000 in
theorem spec_okJ (w : World) (p : Nat) (A : Option Addr) (n c : Nat) (f : Nat → Int) (B : Option Addr) (m d : Nat) (g : Nat → Int) (hb : Cel w p [.slice A n c, .slice B m d]) (hr : Row .i64 w A n c f) (hr' : Row .i64 w B m d g) :
    Calls Try.prog 61 #[.pointer (some ⟨p, 0, none⟩)] w (Gives (.bool (vjB n f m g)) w) := by
  have hcm := hr.2.1
  have hnc := hr.1
  have hcm' := hr'.2.1
  have hnc' := hr'.1
  unfold maxLen at hcm hcm'
  have HR := Lib.hid hr
  have HR' := Lib.hid hr'
  have HX := Lib.hid hb
  have hpz := hb.1
  have p0 : w.cell? ⟨p, 0, none⟩ = some (.slice A n c) := hb.2 0 _ rfl
  have p1 : w.cell? ⟨p, 1, none⟩ = some (.slice B m d) := hb.2 1 _ rfl
  clear hr hr' hb
  cases hin : inB (n : Int) 1 256
  · rw [vj_no (fun h => in_no hin ⟨by have := h.n1; omega, by have := h.n2; omega⟩)]
    have HI := Lib.hid hin
    clear hin
    go_enter Try.func61, Try.ntmps61
    go_wp2_with (go_at_call 75; refine (in_is HI.out _).mono ?_; rintro e w' ⟨rfl, rfl⟩)
    go_ret
    exact ⟨rfl, Below.refl _ _⟩
  · obtain ⟨n1, n2⟩ := in_yes hin
    have HI := Lib.hid hin
    have hmk := run_make_row' (P := Try.prog) 128 4 (.bool false) 1 Try.underlying128 infoBool rfl .i64 .i64 n (by omega) (by omega)
    clear hin
    go_enter Try.func61, Try.ntmps61
    go_wp2_with (go_at_call 75; refine (in_is HI.out _).mono ?_; rintro e w' ⟨rfl, rfl⟩)
    clear p0 p1
    go_loopw [5] (fun i wr => ∃ k : Nat, k ≤ m ∧ i = .int .i64 k ∧ Hid (wr.rowIs w.heap.size 4 n (fun x => .bool (lgB g k x))) ∧ Hid (Below w.heap.size w wr) ∧ Hid (∀ i, i < k → 0 ≤ g i ∧ g i < n ∧ lgB g i (g i) = false)) (fun i _ => m - (intOf i).toNat)
    case atStart => exact ⟨0, Nat.zero_le _, rfl, Lib.hid (World.rowIs_made w (.bool false) n 4), Lib.hid ((Below.refl _ _).alloc (Nat.le_refl _) _), Lib.hid (fun i hi => absurd hi (Nat.not_lt_zero _))⟩
    case round =>
      obtain ⟨k, hk, rfl, HL, HB, HG⟩ := hrel
      obtain ⟨kz, hcx⟩ := HX.out.below HB.out HX.out.1
      have k0 : wr.cell? ⟨p, 0, none⟩ = some (.slice A n c) := hcx 0 _ rfl
      have k1 : wr.cell? ⟨p, 1, none⟩ = some (.slice B m d) := hcx 1 _ rfl
      clear hcx
      by_cases hlt : k < m
      · obtain ⟨b, o, rfl, hbl, hc⟩ := (HR'.out.below HB.out (Nat.le_refl _)).2.2.2 (by omega)
        have hck := hc k hlt
        clear hc
        cases hgk : inB (g k) 0 ((n : Int) - 1)
        · rw [vj_no (fun h => in_no hgk ⟨(h.logs k hlt).1, by have := (h.logs k hlt).2.1; omega⟩)]
          have HGK := Lib.hid hgk
          clear hgk
          go_wp2_with (go_at_call 75; refine (in_is HGK.out _).mono ?_; rintro e w' ⟨rfl, rfl⟩)
          go_ret
          exact ⟨rfl, HB.out⟩
        · obtain ⟨g1, g2⟩ := in_yes hgk
          obtain ⟨z, hz⟩ : ∃ z : Nat, g k = z := ⟨(g k).toNat, by omega⟩
          rw [hz] at hck hgk g1 g2
          have hzn : z < n := by omega
          have HGK := Lib.hid hgk
          have HZ := Lib.hid hz
          have hcz := HL.out.cell hzn
          have hfz := HL.out.frozen z
          clear hgk hz
          cases hlg : lgB g k z
          · rw [hlg] at hcz
            have HS := Lib.hid (HL.out.set z (.bool true))
            have HBS := Lib.hid (HB.out.setCell (p := ⟨w.heap.size, z, none⟩) (Nat.le_refl _) (.bool true))
            go_wp2_with (go_at_call 75; refine (in_is HGK.out _).mono ?_; rintro e w' ⟨rfl, rfl⟩)
            go_roundw
            case rel =>
              refine ⟨k + 1, by omega, by go_num, Lib.hid (HS.out.congr (fun j hj => ?_)), HBS, Lib.hid (fun i hi => ?_)⟩
              · rw [lg_succ, HZ.out]
                by_cases e : j = z
                · subst e; simp
                · have e' : ((z : Int) == (j : Int)) = false := beq_eq_false_iff_ne.2 (by omega)
                  simp [e, e']
              · rcases Nat.lt_succ_iff_lt_or_eq.1 hi with h | rfl
                · exact HG.out i h
                · rw [HZ.out]; exact ⟨g1, by omega, hlg⟩
            case measure => simp [intOf]; omega
          · rw [hlg] at hcz
            rw [vj_no (fun h => by have := (h.logs k hlt).2.2; rw [HZ.out, hlg] at this; cases this)]
            go_wp2_with (go_at_call 75; refine (in_is HGK.out _).mono ?_; rintro e w' ⟨rfl, rfl⟩)
            go_ret
            exact ⟨rfl, HB.out⟩
      · obtain rfl : k = m := by omega
        clear hlt
        go_wp2
        clear k0 k1
        generalize hwo : wr = wo at *
        clear hwo wr
        go_loopw [7] (fun i ws => ∃ j : Nat, j ≤ n ∧ i = .int .i64 j ∧ Hid (ws.rowIs w.heap.size 4 n (fun x => .bool (lgB g k x))) ∧ Hid (Below w.heap.size w ws) ∧ Hid (∀ k', k' < j → 0 ≤ f k' ∧ f k' < n ∧ (f k' == (k' : Int)) ≠ lgB g k k')) (fun i _ => n - (intOf i).toNat)
        case atStart => exact ⟨0, Nat.zero_le _, rfl, HL, HB, Lib.hid (fun i hi => absurd hi (Nat.not_lt_zero _))⟩
        case round =>
          clear HL HB
          obtain ⟨j, hj, rfl, HL, HB, HP⟩ := hrel
          obtain ⟨kz, hcx⟩ := HX.out.below HB.out HX.out.1
          have k0 : wr.cell? ⟨p, 0, none⟩ = some (.slice A n c) := hcx 0 _ rfl
          have k1 : wr.cell? ⟨p, 1, none⟩ = some (.slice B k d) := hcx 1 _ rfl
          clear hcx
          by_cases hjn : j < n
          · obtain ⟨b, o, rfl, hbl, hc⟩ := (HR.out.below HB.out (Nat.le_refl _)).2.2.2 (by omega)
            have hcj := hc j hjn
            have hcl := HL.out.cell hjn
            clear hc
            cases hfj : inB (f j) 0 ((n : Int) - 1)
            · rw [vj_no (fun h => in_no hfj ⟨(h.pars j hjn).1, by have := (h.pars j hjn).2.1; omega⟩)]
              have HFJ := Lib.hid hfj
              clear hfj
              go_wp2
              go_quiet ((go_at_call 75; with_reducible exact quiet_left (in_is HFJ.out _)))
              go_wp2
              go_ret
              exact ⟨rfl, below_drewN HB.out _⟩
            · have HFJ := Lib.hid hfj
              obtain ⟨f1, f2⟩ := in_yes hfj
              obtain ⟨b1, hb1⟩ : ∃ b1, (f j == (j : Int)) = b1 := ⟨_, rfl⟩
              obtain ⟨b2, hb2⟩ : ∃ b2, lgB g k j = b2 := ⟨_, rfl⟩
              rw [hb2] at hcl
              have H1 := Lib.hid hb1
              have H2 := Lib.hid hb2
              clear hfj hb2
              by_cases hbb : b1 = b2
              · rw [vj_no (fun h => (h.pars j hjn).2.2 (by rw [H1.out, H2.out, hbb]))]
                subst hbb
                cases b1
                all_goals
                  go_wp2
                  go_quiet ((go_at_call 75; with_reducible exact quiet_left (in_is HFJ.out _)))
                  go_wp2
                  go_ret
                  exact ⟨rfl, below_drewN HB.out _⟩
              · have HBB := Lib.hid hbb
                cases b1 <;> cases b2 <;> first | (exact absurd rfl hbb) | skip
                all_goals
                  clear hbb
                  go_wp2
                  go_quiet ((go_at_call 75; with_reducible exact quiet_left (in_is HFJ.out _)))
                  go_wp2
                  go_roundw
                  case rel =>
                    refine ⟨j + 1, by omega, by go_num, Lib.hid (rowIs_below HL.out (below_of_drew rfl) HL.out.lt), Lib.hid (below_drewN HB.out _), Lib.hid (fun k' hk' => ?_)⟩
                    rcases Nat.lt_succ_iff_lt_or_eq.1 hk' with h | rfl
                    · exact HP.out k' h
                    · rw [H1.out, H2.out]; exact ⟨f1, by omega, HBB.out⟩
                  case measure => simp [intOf]; omega
          · obtain rfl : j = n := by omega
            clear hjn k0 k1 HL
            have hqz := HB.out.size
            have hmk2 := run_make_row' (P := Try.prog) 128 4 (.bool false) 1 Try.underlying128 infoBool rfl .i64 .i64 j (by omega) (by omega)
            go_wp2
            clear hmk2
            obtain ⟨bq, hbq⟩ : ∃ bq, wr.heap.size = bq := ⟨_, rfl⟩
            have hrow := World.rowIs_made wr (.bool false) j 4
            have hbel := HB.out.alloc HB.out.size (.cells (madeCells #[.bool false] j) 4)
            have hzz : (wr.alloc (.cells (madeCells #[.bool false] j) 4)).heap.size = bq + 1 := by simp [hbq]
            rw [hbq] at hrow hqz
            simp only [hbq]
            have HBQ := Lib.hid hbq
            have HROW := Lib.hid hrow
            have HBEL := Lib.hid hbel
            clear hbq hrow hbel hzz
            generalize hwo : wr = wp at *
            clear hwo wr
            go_loopw [9] (fun i wt => ∃ k' : Nat, k' ≤ k ∧ i = .int .i64 k' ∧ Hid (wt.rowIs bq 4 j (fun x => .bool (lgB g k' x))) ∧ Hid (Below w.heap.size w wt) ∧ Hid (∀ i, i < k' → lgB g i (f (g i).toNat) = false)) (fun i _ => k - (intOf i).toNat)
            case atStart => exact ⟨0, Nat.zero_le _, rfl, HROW, HBEL, Lib.hid (fun i hi => absurd hi (Nat.not_lt_zero _))⟩
            case round =>
              clear HROW HBEL HB
              obtain ⟨k', hk', rfl, HL, HB, HO⟩ := hrel
              obtain ⟨kz, hcx⟩ := HX.out.below HB.out HX.out.1
              have k0 : wr.cell? ⟨p, 0, none⟩ = some (.slice A j c) := hcx 0 _ rfl
              have k1 : wr.cell? ⟨p, 1, none⟩ = some (.slice B k d) := hcx 1 _ rfl
              clear hcx
              by_cases hlt : k' < k
              · obtain ⟨g1, g2, g3⟩ := HG.out k' hlt
                obtain ⟨z, hz⟩ : ∃ z : Nat, g k' = z := ⟨(g k').toNat, by omega⟩
                have hzn : z < j := by omega
                obtain ⟨f1, f2, f3⟩ := HP.out z hzn
                obtain ⟨y, hy⟩ : ∃ y : Nat, f z = y := ⟨(f z).toNat, by omega⟩
                have hyn : y < j := by omega
                obtain ⟨b, o, rfl, hbl, hc⟩ := (HR'.out.below HB.out (Nat.le_refl _)).2.2.2 (by omega)
                obtain ⟨b', o', rfl, hbl', hc'⟩ := (HR.out.below HB.out (Nat.le_refl _)).2.2.2 (by omega)
                have hck := hc k' hlt
                have hcz := hc' z hzn
                rw [hz] at hck
                rw [hy] at hcz
                have hcy := HL.out.cell hyn
                have hcl := HL.out.cell hzn
                have hfl := HL.out.frozen z
                have HZ := Lib.hid hz
                have HY := Lib.hid hy
                clear hc hc' g1 g2 g3 f1 f2 f3 hz hy
                cases hly : lgB g k' y
                · rw [hly] at hcy
                  have HS := Lib.hid (HL.out.set z (.bool true))
                  have HBS := Lib.hid (HB.out.setCell (p := ⟨bq, z, none⟩) hqz (.bool true))
                  have HLY := Lib.hid hly
                  clear hly
                  go_wp2
                  go_roundw
                  case rel =>
                    refine ⟨k' + 1, by omega, by go_num, Lib.hid (HS.out.congr (fun x hx => ?_)), HBS, Lib.hid (fun i hi => ?_)⟩
                    · rw [lg_succ, HZ.out]
                      by_cases e : x = z
                      · subst e; simp
                      · have e' : ((z : Int) == (x : Int)) = false := beq_eq_false_iff_ne.2 (by omega)
                        simp [e, e']
                    · rcases Nat.lt_succ_iff_lt_or_eq.1 hi with h | rfl
                      · exact HO.out i h
                      · rw [HZ.out, Int.toNat_natCast, HY.out]; exact HLY.out
                  case measure => simp [intOf]; omega
                · rw [hly] at hcy
                  rw [vj_no (fun h => by have := h.ords k' hlt; rw [HZ.out, Int.toNat_natCast, HY.out, hly] at this; cases this)]
                  clear hly
                  go_wp2
                  go_ret
                  exact ⟨rfl, HB.out⟩
              · obtain rfl : k' = k := by omega
                have HV := Lib.hid (vj_mk (n := j) (f := f) (m := k') (g := g) ⟨by omega, by omega, HG.out, HP.out, HO.out⟩)
                go_wp2
                go_ret
                exact ⟨ret_bool HV.out.symm, HB.out⟩
theorem impl_hasElement (w : World) (A : Option Addr) (n c : Nat) (B : Option Addr) (m d : Nat) (k : Int) (hn : n ≤ 9223372036854775807) :
    Calls Try.prog 93 #[.agg #[.slice A n c, .slice B m d], .int .i64 k] w (Gives (.bool (inB k 0 ((n : Int) - 1))) w) := by
  by_cases h1 : 0 ≤ k
  · by_cases h2 : k < n
    · have E := Lib.hid (show inB k 0 ((n : Int) - 1) = true from decide_eq_true ⟨h1, by omega⟩)
      go_enter Try.func93, Try.ntmps93
      go_wp2
      go_ret
      exact ⟨ret_bool E.out.symm, by go_grown⟩
    · have E := Lib.hid (show inB k 0 ((n : Int) - 1) = false from decide_eq_false (by omega))
      go_enter Try.func93, Try.ntmps93
      go_wp2
      go_ret
      exact ⟨ret_bool E.out.symm, by go_grown⟩
  · have E := Lib.hid (show inB k 0 ((n : Int) - 1) = false from decide_eq_false (by omega))
    go_enter Try.func93, Try.ntmps93
    go_wp2
    go_ret
    exact ⟨ret_bool E.out.symm, by go_grown⟩
theorem hasElement_is {w : World} {A : Option Addr} {n c : Nat} {B : Option Addr} {m d : Nat} {k : Int} {v : Bool} (h : inB k 0 ((n : Int) - 1) = v) (hn : n ≤ 9223372036854775807) :
    Calls Try.prog 93 #[.agg #[.slice A n c, .slice B m d], .int .i64 k] w (Gives (.bool v) w) := by rw [← h]; exact impl_hasElement w A n c B m d k hn
theorem set_hasZ_is {w : World} {b n : Nat} {S : Int → Bool} (h : SetZ w b n S) {z : Int} (hz : (Lit.int .i64 z).wf = true) {v : Bool} (hv : S z = v) :
    Calls Try.prog 110 #[.map (some b), .int .i64 z] w fun e w' => e = .returned (.bool v) ∧ w = w' := by rw [← hv]; exact set_hasZ w b n S h z hz
set_option maxHeartbeats 4000000 in
theorem impl_validJoined (w : World) (A : Option Addr) (n c : Nat) (f : Nat → Int) (B : Option Addr) (m d : Nat) (g : Nat → Int) (hr : Row .i64 w A n c f) (hr' : Row .i64 w B m d g) :
    Calls Try.prog 92 #[.agg #[.slice A n c, .slice B m d]] w (Gives (.bool (vjB n f m g)) w) := by
  have hcm := hr.2.1
  have hnc := hr.1
  have hcm' := hr'.2.1
  have hnc' := hr'.1
  unfold maxLen at hcm hcm'
  have HR := Lib.hid hr
  have HR' := Lib.hid hr'
  have HRB := Lib.hid (row_blk hr)
  have HRB' := Lib.hid (row_blk hr')
  have HX := Lib.hid (Cel.new w [.slice A n c, .slice B m d] 26)
  have HL := Lib.hid ((Below.refl w.heap.size w).alloc (Nat.le_refl _) (.cells #[.slice A n c, .slice B m d] 26))
  clear hr hr'
  by_cases n1 : 1 ≤ n
  · by_cases n2 : n ≤ 256
    · have HS0 := SetZ.new (w.alloc (.cells #[.slice A n c, .slice B m d] 26))
      rw [World.size_alloc] at HS0
      have bN := (Below.refl (w.alloc (.cells #[.slice A n c, .slice B m d] 26)).heap.size (w.alloc (.cells #[.slice A n c, .slice B m d] 26))).alloc (Nat.le_refl _) (.map #[] 0)
      have HS := Lib.hid HS0
      have HX1 := Lib.hid (HX.out.below bN HX.out.1)
      have HB1 := Lib.hid (HL.out.trans (bN.mono HL.out.size))
      clear HS0 bN
      have hmm := @run_makeMap Try.prog
      go_enter Try.func92, Try.ntmps92
      go_wp2
      clear HL HX hmm
      go_loopw [23] (fun i wr => ∃ k : Nat, k ≤ m ∧ i = .int .i64 k ∧ Hid (SetZ wr (w.heap.size + 1) k (lgB g k)) ∧ Hid (Cel wr w.heap.size [.slice A n c, .slice B m d]) ∧ Hid (Below w.heap.size w wr) ∧ Hid (∀ i, i < k → 0 ≤ g i ∧ g i < n ∧ lgB g i (g i) = false ∧ lgB g (i + 1) (f (g i).toNat) = false)) (fun i _ => m - (intOf i).toNat)
      case atStart => exact ⟨0, Nat.zero_le _, rfl, Lib.hid (HS.out.congr fun s => rfl), HX1, HB1, Lib.hid (fun i hi => absurd hi (Nat.not_lt_zero _))⟩
      case round =>
        clear HS HX1 HB1
        obtain ⟨k, hk, rfl, HS, HX, HB, HG⟩ := hrel
        have kz := HX.out.1
        have k0 : wr.cell? ⟨w.heap.size, 0, none⟩ = some (.slice A n c) := HX.out.2 0 _ rfl
        have k1 : wr.cell? ⟨w.heap.size, 1, none⟩ = some (.slice B m d) := HX.out.2 1 _ rfl
        have hsz := HB.out.size
        by_cases hlt : k < m
        · obtain ⟨b, o, rfl, hbl, hc⟩ := (HR'.out.below HB.out (Nat.le_refl _)).2.2.2 (by omega)
          have hck := hc k hlt
          have hwk := HR'.out.2.2.1 k hlt
          have HWK := Lib.hid hwk
          clear hc hwk
          cases hgk : inB (g k) 0 ((n : Int) - 1)
          · rw [vj_no (fun h => in_no hgk ⟨(h.logs k hlt).1, by have := (h.logs k hlt).2.1; omega⟩)]
            have HGK := Lib.hid hgk
            clear hgk
            go_wp2_with fail
            refine (hasElement_is HGK.out (by omega)).mono ?_
            rintro e w2 ⟨rfl, b2⟩
            go_wp2
            go_ret
            exact ⟨rfl, HB.out.trans (b2.mono hsz)⟩
          · obtain ⟨g1, g2⟩ := in_yes hgk
            obtain ⟨z, hz⟩ : ∃ z : Nat, g k = z := ⟨(g k).toNat, by omega⟩
            rw [hz] at hck hgk g1 g2 HWK
            have hzn : z < n := by omega
            have HGK := Lib.hid hgk
            have HZ := Lib.hid hz
            clear hgk hz
            go_wp2_with fail
            refine (hasElement_is HGK.out (by omega)).mono ?_
            rintro e w2 ⟨rfl, b2⟩
            have HS2 := Lib.hid (HS.out.below b2 HS.out.lt)
            have HX2 := Lib.hid (HX.out.below b2 HX.out.1)
            have HB2 := Lib.hid (HB.out.trans (b2.mono hsz))
            have hsz2 := HB2.out.size
            clear b2 k0 k1 HS HX HB
            cases hlg : lgB g k z
            · have HLG := Lib.hid hlg
              go_wp2_with fail
              refine (set_hasZ_is HS2.out HWK.out HLG.out).mono ?_
              rintro e w3 ⟨rfl, rfl⟩
              clear hlg
              go_wp2_with fail
              refine (set_addZ w2 (w.heap.size + 1) k (lgB g k) HS2.out z HWK.out (by unfold maxLen; omega)).mono ?_
              rintro e w3 ⟨⟨v, rfl⟩, s3, g3⟩
              have HS3 := Lib.hid (s3.congr (S' := lgB g (k + 1)) (fun s => by
                have e : ((z : Int) == s) = (s == (z : Int)) := by rw [Bool.eq_iff_iff, beq_iff_eq, beq_iff_eq]; exact ⟨Eq.symm, Eq.symm⟩
                rw [lg_succ, HZ.out, e, Bool.or_comm]))
              have HX3 := Lib.hid (HX2.out.grownR g3 (fun e => by injection e; omega))
              have HB3 := Lib.hid (HB2.out.grown g3 hsz2 (fun b e => by injection e; omega))
              clear s3 g3 HS2 HX2 HB2
              have kz3 := HX3.out.1
              have k0 : w3.cell? ⟨w.heap.size, 0, none⟩ = some (.slice A n c) := HX3.out.2 0 _ rfl
              have k1 : w3.cell? ⟨w.heap.size, 1, none⟩ = some (.slice (some ⟨b, o, none⟩) m d) := HX3.out.2 1 _ rfl
              obtain ⟨b', o', rfl, hbl', hc'⟩ := (HR.out.below HB3.out (Nat.le_refl _)).2.2.2 (by omega)
              have hcz := hc' z hzn
              have HWF := Lib.hid (HR.out.2.2.1 z hzn)
              clear hc'
              cases hlf : lgB g (k + 1) (f z)
              · have HLF := Lib.hid hlf
                clear hlf
                go_wp2_with fail
                refine (set_hasZ_is HS3.out HWF.out HLF.out).mono ?_
                rintro e w4 ⟨rfl, rfl⟩
                go_wp2
                go_roundw
                case rel =>
                  refine ⟨k + 1, by omega, by go_num, HS3, HX3, HB3, Lib.hid (fun i hi => ?_)⟩
                  rcases Nat.lt_succ_iff_lt_or_eq.1 hi with h | rfl
                  · exact HG.out i h
                  · rw [HZ.out, Int.toNat_natCast]; exact ⟨g1, by omega, HLG.out, HLF.out⟩
                case measure => simp [intOf]; omega
              · have HLF := Lib.hid hlf
                have HV := Lib.hid (vj_no (n := n) (f := f) (m := m) (g := g) (fun h => by
                  have h1 := h.ords k hlt
                  rw [HZ.out, Int.toNat_natCast] at h1
                  rw [lg_succ, h1, HZ.out] at hlf
                  have h2 := (h.pars z hzn).2.2
                  have h3 : lgB g m z = true := lg_iff.2 ⟨k, hlt, HZ.out⟩
                  rw [h3] at h2
                  apply h2
                  simp only [Bool.false_or, beq_iff_eq] at hlf ⊢
                  exact hlf.symm))
                clear hlf
                go_wp2_with fail
                refine (set_hasZ_is HS3.out HWF.out HLF.out).mono ?_
                rintro e w4 ⟨rfl, rfl⟩
                go_wp2
                go_ret
                exact ⟨ret_bool HV.out.symm, HB3.out⟩
            · have HLG := Lib.hid hlg
              have HV := Lib.hid (vj_no (n := n) (f := f) (m := m) (g := g) (fun h => by have := (h.logs k hlt).2.2; rw [HZ.out, hlg] at this; cases this))
              clear hlg
              go_wp2_with fail
              refine (set_hasZ_is HS2.out HWK.out HLG.out).mono ?_
              rintro e w3 ⟨rfl, rfl⟩
              go_wp2
              go_ret
              exact ⟨ret_bool HV.out.symm, HB2.out⟩
        · obtain rfl : k = m := by omega
          clear hlt
          go_wp2
          clear k0 k1
          generalize hwo : wr = wo at *
          clear hwo wr
          go_loopw [50] (fun i wr => ∃ j : Nat, j ≤ n ∧ i = .int .i64 j ∧ Hid (SetZ wr (w.heap.size + 1) k (lgB g k)) ∧ Hid (Cel wr w.heap.size [.slice A n c, .slice B k d]) ∧ Hid (Below w.heap.size w wr) ∧ Hid (∀ k', k' < j → 0 ≤ f k' ∧ f k' < n ∧ (f k' == (k' : Int)) ≠ lgB g k k')) (fun i _ => n - (intOf i).toNat)
          case atStart => exact ⟨0, Nat.zero_le _, rfl, HS, HX, HB, Lib.hid (fun i hi => absurd hi (Nat.not_lt_zero _))⟩
          case round =>
            clear HS HX HB kz hsz
            obtain ⟨j, hj, rfl, HS, HX, HB, HP⟩ := hrel
            have kz := HX.out.1
            have k0 : wr.cell? ⟨w.heap.size, 0, none⟩ = some (.slice A n c) := HX.out.2 0 _ rfl
            have k1 : wr.cell? ⟨w.heap.size, 1, none⟩ = some (.slice B k d) := HX.out.2 1 _ rfl
            have hsz := HB.out.size
            by_cases hjn : j < n
            · obtain ⟨b, o, rfl, hbl, hc⟩ := (HR.out.below HB.out (Nat.le_refl _)).2.2.2 (by omega)
              have hcj := hc j hjn
              clear hc
              obtain ⟨b1, hb1⟩ : ∃ b1, (f j == (j : Int)) = b1 := ⟨_, rfl⟩
              obtain ⟨b2, hb2⟩ : ∃ b2, lgB g k j = b2 := ⟨_, rfl⟩
              have H1 := Lib.hid hb1
              have H2 := Lib.hid hb2
              clear hb2
              cases hfj : inB (f j) 0 ((n : Int) - 1)
              · rw [vj_no (fun h => in_no hfj ⟨(h.pars j hjn).1, by have := (h.pars j hjn).2.1; omega⟩)]
                have HFJ := Lib.hid hfj
                clear hfj
                go_wp2_with fail
                refine (hasElement_is HFJ.out (by omega)).mono ?_
                rintro e w2 ⟨rfl, b2⟩
                go_wp2
                go_ret
                exact ⟨rfl, HB.out.trans (b2.mono hsz)⟩
              · have HFJ := Lib.hid hfj
                obtain ⟨f1, f2⟩ := in_yes hfj
                clear hfj
                go_wp2_with fail
                refine (hasElement_is HFJ.out (by omega)).mono ?_
                rintro e w2 ⟨rfl, b2⟩
                have HS2 := Lib.hid (HS.out.below b2 HS.out.lt)
                have HX2 := Lib.hid (HX.out.below b2 HX.out.1)
                have HB2 := Lib.hid (HB.out.trans (b2.mono hsz))
                clear b2 k0 k1 HS HX HB
                go_wp2_with fail
                refine (set_hasZ_is HS2.out (WalkArith.wf_i64 (by omega)) H2.out).mono ?_
                rintro e w3 ⟨rfl, rfl⟩
                by_cases hbb : b1 = b2
                · have HV := Lib.hid (vj_no (n := n) (f := f) (m := k) (g := g) (fun h => (h.pars j hjn).2.2 (by rw [H1.out, H2.out, hbb])))
                  subst hbb
                  cases b1
                  all_goals
                    go_wp2
                    go_ret
                    exact ⟨ret_bool HV.out.symm, HB2.out⟩
                · have HBB := Lib.hid hbb
                  cases b1 <;> cases b2 <;> first | (exact absurd rfl hbb) | skip
                  all_goals
                    clear hbb
                    go_wp2
                    go_roundw
                    case rel =>
                      refine ⟨j + 1, by omega, by go_num, HS2, HX2, HB2, Lib.hid (fun k' hk' => ?_)⟩
                      rcases Nat.lt_succ_iff_lt_or_eq.1 hk' with h | rfl
                      · exact HP.out k' h
                      · rw [H1.out, H2.out]; exact ⟨f1, by omega, HBB.out⟩
                    case measure => simp [intOf]; omega
            · obtain rfl : j = n := by omega
              have HV := Lib.hid (vj_mk (n := j) (f := f) (m := k) (g := g) ⟨by omega, by omega, fun i hi => ⟨(HG.out i hi).1, (HG.out i hi).2.1, (HG.out i hi).2.2.1⟩, HP.out, fun i hi => by
                have h := (HG.out i hi).2.2.2
                rw [lg_succ] at h
                simp at h
                exact h.1⟩)
              go_wp2
              go_ret
              exact ⟨ret_bool HV.out.symm, HB.out⟩
    · rw [vj_no (fun h => n2 h.n2)]
      go_enter Try.func92, Try.ntmps92
      go_wp2
      go_ret
      exact ⟨rfl, HL.out⟩
  · rw [vj_no (fun h => n1 h.n1)]
    go_enter Try.func92, Try.ntmps92
    go_wp2
    go_ret
    exact ⟨rfl, HL.out⟩
theorem spec_validJoined (w : World) (A : Option Addr) (n c : Nat) (f : Nat → Int) (B : Option Addr) (m d : Nat) (g : Nat → Int) (hr : Row .i64 w A n c f) (hr' : Row .i64 w B m d g) :
    Calls Try.prog 17 #[.agg #[.slice A n c, .slice B m d]] w (Gives (.bool (vjB n f m g)) w) := by
  have HL := Lib.hid ((Below.refl w.heap.size w).alloc (Nat.le_refl _) (.cells #[.slice A n c, .slice B m d] 26))
  have HC := Lib.hid (spec_okJ _ w.heap.size A n c f B m d g (Cel.new w [.slice A n c, .slice B m d] 26) (hr.below HL.out (Nat.le_refl _)) (hr'.below HL.out (Nat.le_refl _)))
  clear hr hr'
  go_enter Try.func17, Try.ntmps17
  go_wp2_with fail
  refine HC.out.mono ?_
  rintro e w1 ⟨rfl, b1⟩
  go_wp2
  go_ret
  exact ⟨rfl, HL.out.trans (b1.mono (by simp))⟩
end Go.Proofs.Ytneknajeecgnoaa.Base
